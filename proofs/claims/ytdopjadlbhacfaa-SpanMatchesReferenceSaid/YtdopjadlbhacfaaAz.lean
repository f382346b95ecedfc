import Derived.Test.YtdopjadlbhacfaaBo
import Derived.Test.YtdopjadlbhacfaaBs
import Derived.Test.YtdopjadlbhacfaaAa
import Derived.Test.YtdopjadlbhacfaaOp
import Derived.StillTailTactics
import Derived.Deep.Cut
import Derived.Deep.DeepCutAuto
namespace Go.Proofs.Ytdopjadlbhacfaa
section
open Go.RowKit Go.Instr Sp
set_option linter.unusedVariables false
set_option linter.unusedSimpArgs false

/-! span's operators on sets; all sets. -/
theorem opF_in2 (n : Int) {x y : Int} (hx : inV x) (hy : inV y) : opF n x y = opM n x y := by
  obtain ⟨x1, x2⟩ := hx
  obtain ⟨y1, y2⟩ := hy
  have w32 : ∀ z : Int, wrap32 z = wr z := by intro z; unfold wrap32 wr; omega
  have ex : wrap32 x = x := by unfold wrap32; omega
  have ey : wrap32 y = y := by unfold wrap32; omega
  have sz := tdiv_size x y
  have u1 : absI x ≤ 2147483648 := by unfold absI; omega
  have eq : quo x y = x.tdiv y := by unfold quo wrap64; omega
  unfold opF opM
  rw [ex, ey, eq]
  split; exact w32 _
  split; exact w32 _
  split; exact w32 _
  split; exact w32 _
  split
  · obtain ⟨t1, t2, t3, t4⟩ := tmod_is x y
    have e : x - y * x.tdiv y = x.tmod y := (Int.tmod_def x y).symm
    rw [e, w32]
    rcases Int.le_total 0 x with h | h
    · have := t1 h; exact wr_id (by omega) (by omega)
    · have := t2 h; exact wr_id (by omega) (by omega)
  split; unfold wrap32; omega
  split; unfold wrap32; omega
  rfl
theorem opA_wrap (n : Int) (a b : Ab) (A : Val a) (B : Val b) (hne : ¬ (stp a = 0 ∧ stp b = 0)) : opA n a b = if n = 4 then addA a b (a.k ||| b.k) else if n = 5 then subA a b (a.k ||| b.k) else if n = 6 then mulA a b (a.k ||| b.k) else if n = 7 then divA a b (a.k ||| b.k) else if n = 8 then remA a b (a.k ||| b.k) else if n = 9 then minA a b (a.k ||| b.k) else if n = 10 then maxA a b (a.k ||| b.k) else oneA 0 (a.k ||| b.k) := by
  unfold opA; rw [if_neg hne]
theorem div_with (a b : Ab) (k : Nat) : divA a b k = { divA a b 0 with k := k } := by
  unfold divA
  split
  · split
    · exact by_with _ _ _ _
    · exact by_with _ _ _ _
  · split
    · exact by_with _ _ _ _
    · split
      · exact by_with _ _ _ _
      · exact by_with _ _ _ _
theorem sop_any0 (n : Int) (a b : Ab) (A : Val a) (B : Val b) (w : World) :
    Calls Try.prog 30 #[.int .i64 n, .agg #[.int .i64 a.lo, .int .i64 a.hi, .int .i64 a.m, .int .i64 a.r, .int .i64 a.k], .agg #[.int .i64 b.lo, .int .i64 b.hi, .int .i64 b.m, .int .i64 b.r, .int .i64 b.k]] w fun e w' => e = .returned (.agg #[.int .i64 (opA n a b).lo, .int .i64 (opA n a b).hi, .int .i64 (opA n a b).m, .int .i64 (opA n a b).r, .int .i64 (opA n a b).k]) ∧ Below w.heap.size w w' := by
  have mk := bits_or8 A.k B.k
  have ia : inV a.lo := ⟨A.l, by have := A.o; have := A.h; omega⟩
  have ib : inV b.lo := ⟨B.l, by have := B.o; have := B.h; omega⟩
  have C1 := hidA (fun w => sstep_any a w)
  have C2 := hidA (fun w => sstep_any b w)
  have CN := hidA (fun w => op_any n a.lo b.lo w)
  rw [opF_in2 n ia ib] at CN
  have CX := hidA (fun w => sof_any (opM n a.lo b.lo) 0 w)
  by_cases hn : n < 4 ∨ 10 < n
  · have x0 : opM n a.lo b.lo = 0 := by
      unfold opM
      rw [if_neg (by omega), if_neg (by omega), if_neg (by omega), if_neg (by omega), if_neg (by omega), if_neg (by omega), if_neg (by omega)]
    have e : opA n a b = oneA (opM n a.lo b.lo) (a.k ||| b.k) := by
      unfold opA
      split
      · rfl
      · rw [x0, if_neg (by omega), if_neg (by omega), if_neg (by omega), if_neg (by omega), if_neg (by omega), if_neg (by omega), if_neg (by omega)]
    rw [e]
    have CO := hidA (fun w => show Calls Try.prog 56 #[.int .i64 n] w fun e w' => e = .returned (.tuple #[.nilFunc, .bool false]) ∧ Below w.heap.size w w' by
      by_cases h : n < 4
      · exact opno_1 n h w
      · exact opno_2 n h (by omega) w)
    exact opw_A a b _ _ n _ _ mk C1 C2 CN CX CO w
  · by_cases hs : stp a = 0 ∧ stp b = 0
    · have e : opA n a b = oneA (opM n a.lo b.lo) (a.k ||| b.k) := by unfold opA; rw [if_pos hs]
      rw [e]
      have CS := hidA (fun w => single_2 a b (stp a) (stp b) true (by simpa using hs.1) (by simpa using hs.2) w)
      have hd : n = 4 ∨ n = 5 ∨ n = 6 ∨ n = 7 ∨ n = 8 ∨ n = 9 ∨ n = 10 := by omega
      rcases hd with rfl | rfl | rfl | rfl | rfl | rfl | rfl
      · exact opw_B a b _ _ 4 _ _ mk C1 C2 CN CX _ (hidA opyes_0) CS w
      · exact opw_B a b _ _ 5 _ _ mk C1 C2 CN CX _ (hidA opyes_1) CS w
      · exact opw_B a b _ _ 6 _ _ mk C1 C2 CN CX _ (hidA opyes_2) CS w
      · exact opw_B a b _ _ 7 _ _ mk C1 C2 CN CX _ (hidA opyes_3) CS w
      · exact opw_B a b _ _ 8 _ _ mk C1 C2 CN CX _ (hidA opyes_4) CS w
      · exact opw_B a b _ _ 9 _ _ mk C1 C2 CN CX _ (hidA opyes_5) CS w
      · exact opw_B a b _ _ 10 _ _ mk C1 C2 CN CX _ (hidA opyes_6) CS w
    · have CS := hidA (fun w => show Calls Try.prog 57 #[.agg #[.int .i64 a.lo, .int .i64 a.hi, .int .i64 a.m, .int .i64 a.r, .int .i64 a.k, .int .i64 b.lo, .int .i64 b.hi, .int .i64 b.m, .int .i64 b.r, .int .i64 b.k, .int .i64 (stp a), .int .i64 (stp b)]] w fun e w' => e = .returned (.bool false) ∧ Below w.heap.size w w' by
        by_cases z : stp a = 0
        · exact single_2 a b _ _ false (by simpa using z) (by simpa using fun y => hs ⟨z, y⟩) w
        · exact single_1 a b _ _ (by simpa using z) w)
      have hd : n = 4 ∨ n = 5 ∨ n = 6 ∨ n = 7 ∨ n = 8 ∨ n = 9 ∨ n = 10 := by omega
      rcases hd with rfl | rfl | rfl | rfl | rfl | rfl | rfl
      · have e : opA 4 a b = { addA a b 0 with k := a.k ||| b.k } := by
          rw [opA_wrap _ a b A B hs]; exact bd_with _ _ _ _
        rw [e]
        exact opw_C a b _ _ 4 _ _ mk C1 C2 CN CX _ (hidA opyes_0) CS (addA a b 0) 0 (hidA (fun w => sum_any a b A B hs w)) (by simp) w
      · have e : opA 5 a b = { subA a b 0 with k := a.k ||| b.k } := by
          rw [opA_wrap _ a b A B hs]; exact bd_with _ _ _ _
        rw [e]
        exact opw_C a b _ _ 5 _ _ mk C1 C2 CN CX _ (hidA opyes_1) CS (subA a b 0) 0 (hidA (fun w => diff_any a b A B hs w)) (by simp) w
      · have e : opA 6 a b = { mulA a b 0 with k := a.k ||| b.k } := by
          rw [opA_wrap _ a b A B hs]; exact bd_with _ _ _ _
        rw [e]
        exact opw_C a b _ _ 6 _ _ mk C1 C2 CN CX _ (hidA opyes_2) CS (mulA a b 0) 0 (hidA (fun w => product_any a b A B hs w)) (by simp) w
      · have e : opA 7 a b = { divA a b 0 with k := a.k ||| b.k } := by
          rw [opA_wrap _ a b A B hs]; exact div_with a b _
        rw [e]
        exact opw_C a b _ _ 7 _ _ mk C1 C2 CN CX _ (hidA opyes_3) CS (divA a b 0) 0 (hidA (fun w => quotient_any a b A B hs w)) (by simp) w
      · obtain ⟨J, z, eJ, CF⟩ := remainder_any a b A B hs (a.k ||| b.k)
        have e : opA 8 a b = { J with k := a.k ||| b.k } := by
          rw [opA_wrap _ a b A B hs, ← eJ]; rfl
        rw [e]
        exact opw_C a b _ _ 8 _ _ mk C1 C2 CN CX _ (hidA opyes_4) CS J z (hidA CF) (by simp) w
      · have e : opA 9 a b = { minA a b 0 with k := a.k ||| b.k } := by
          rw [opA_wrap _ a b A B hs]; exact by_with _ _ _ _
        rw [e]
        exact opw_C a b _ _ 9 _ _ mk C1 C2 CN CX _ (hidA opyes_5) CS (minA a b 0) 0 (hidA (fun w => least_any a b A B hs w)) (by simp) w
      · have e : opA 10 a b = { maxA a b 0 with k := a.k ||| b.k } := by
          rw [opA_wrap _ a b A B hs]; exact by_with _ _ _ _
        rw [e]
        exact opw_C a b _ _ 10 _ _ mk C1 C2 CN CX _ (hidA opyes_6) CS (maxA a b 0) 0 (hidA (fun w => greatest_any a b A B hs w)) (by simp) w
theorem sop_any (n : Int) (a b : Ab) (A : Val a) (B : Val b) (hst : stp a * stp b ≤ 4611686018427387904) (w : World) :
    Calls Try.prog 30 #[.int .i64 n, .agg #[.int .i64 a.lo, .int .i64 a.hi, .int .i64 a.m, .int .i64 a.r, .int .i64 a.k], .agg #[.int .i64 b.lo, .int .i64 b.hi, .int .i64 b.m, .int .i64 b.r, .int .i64 b.k]] w fun e w' => e = .returned (.agg #[.int .i64 (opA n a b).lo, .int .i64 (opA n a b).hi, .int .i64 (opA n a b).m, .int .i64 (opA n a b).r, .int .i64 (opA n a b).k]) ∧ Below w.heap.size w w' := sop_any0 n a b A B w
theorem sall_any (k : Nat) (w : World) :
    Calls Try.prog 28 #[.int .i64 k] w fun e w' => e = .returned (.agg #[.int .i64 (allA k).lo, .int .i64 (allA k).hi, .int .i64 (allA k).m, .int .i64 (allA k).r, .int .i64 (allA k).k]) ∧ Below w.heap.size w w' := by
  have e : allA k = ⟨-2147483648, 2147483647, 1, 0, k⟩ := by
    unfold allA byA topOf
    simp
  rw [e]
  exact sall0_any k w
end

section
open Go.RowKit Go.Instr Sp
set_option linter.unusedVariables false
set_option linter.unusedSimpArgs false

/-! The fixed calls of span's statements. -/
/-- What the law's 'set' makes. -/
def setA (lo hi m : Int) : Ab := if lo = hi then ⟨lo, lo, 1, 0, 0⟩ else ⟨lo, hi, m, lo % m, 0⟩
set_option maxHeartbeats 400000 in
theorem set_same (lo hi m : Int) (h : (lo == hi) = true) (w : World) :
    Calls Try.prog 39 #[.int .i64 lo, .int .i64 hi, .int .i64 m] w fun e w' => e = .returned (.agg #[.int .i64 lo, .int .i64 lo, .int .i64 1, .int .i64 0, .int .i64 0]) ∧ Below w.heap.size w w' := by
  go_enter Try.func39, Try.ntmps39
  go_wp2
  exact bodyPost_ret (v := .agg #[.int .i64 lo, .int .i64 lo, .int .i64 1, .int .i64 0, .int .i64 0]) (by simp [results, Try.results39, go_sem]) rfl ⟨by rfl, (by repeat (first | with_reducible exact Below.refl _ _ | with_reducible refine Below.setCell ?_ (by first | omega | (dsimp only; omega) | (simp; done) | (simp; omega)) _ | with_reducible refine Below.alloc ?_ (by first | omega | (dsimp only; omega) | (simp; done) | (simp; omega)) _ | with_reducible refine Below.drew ?_ | with_reducible refine drewnA ?_ _))⟩
set_option maxHeartbeats 400000 in
theorem set_more (lo hi m : Int) (h : (lo == hi) = false) (hm : 1 ≤ m) (hm2 : m ≤ 4611686018427387904) (w : World) :
    Calls Try.prog 39 #[.int .i64 lo, .int .i64 hi, .int .i64 m] w fun e w' => e = .returned (.agg #[.int .i64 lo, .int .i64 hi, .int .i64 m, .int .i64 (lo % m), .int .i64 0]) ∧ Below w.heap.size w w' := by
  obtain ⟨h1, h2⟩ := tmod_in lo hm
  have hz : (m == 0) = false := by simp; omega
  have E : Hid ((lo.tmod m + m) % m = lo % m) := hidA (by rw [Int.add_emod_right]; exact tmod_emod lo m)
  have E2 : Hid (lo.tmod m % m = lo % m) := hidA (tmod_emod lo m)
  go_enter Try.func39, Try.ntmps39
  go_wp2
  exact bodyPost_ret (v := .agg #[.int .i64 lo, .int .i64 hi, .int .i64 m, .int .i64 (lo % m), .int .i64 0]) (by simp [results, Try.results39, go_sem, E.out, E2.out]) rfl ⟨by rfl, (by repeat (first | with_reducible exact Below.refl _ _ | with_reducible refine Below.setCell ?_ (by first | omega | (dsimp only; omega) | (simp; done) | (simp; omega)) _ | with_reducible refine Below.alloc ?_ (by first | omega | (dsimp only; omega) | (simp; done) | (simp; omega)) _ | with_reducible refine Below.drew ?_ | with_reducible refine drewnA ?_ _))⟩
theorem set_any (lo hi m : Int) (hm : 1 ≤ m) (hm2 : m ≤ 4611686018427387904) (w : World) :
    Calls Try.prog 39 #[.int .i64 lo, .int .i64 hi, .int .i64 m] w fun e w' => e = .returned (.agg #[.int .i64 (setA lo hi m).lo, .int .i64 (setA lo hi m).hi, .int .i64 (setA lo hi m).m, .int .i64 (setA lo hi m).r, .int .i64 (setA lo hi m).k]) ∧ Below w.heap.size w w' := by
  unfold setA
  by_cases h : lo = hi
  · rw [if_pos h]; exact set_same lo hi m (by simpa using h) w
  · rw [if_neg h]; exact set_more lo hi m (by simpa using h) hm hm2 w
set_option maxHeartbeats 1000000 in
theorem one_any (v : Int) (w : World) :
    Calls Try.prog 38 #[.int .i64 v] w fun e w' => e = .returned (.agg #[.int .i64 v, .int .i64 v, .int .i64 1, .int .i64 0, .int .i64 0]) ∧ Below w.heap.size w w' := by
  have C := hidA (fun w => set_any v v 1 (by omega) (by omega) w)
  have e : setA v v 1 = ⟨v, v, 1, 0, 0⟩ := if_pos rfl
  rw [e] at C
  clear e
  obtain ⟨w0, hw0⟩ : ∃ w0, (w.alloc (.cells #[.int .i64 0, .int .i64 0, .int .i64 0, .int .i64 0, .int .i64 0] 27)) = w0 := ⟨_, rfl⟩
  have B0 : Hid (Below w.heap.size w w0) := hidA (by rw [← hw0]; exact (alA (Below.refl _ _) _))
  have hsz : w.heap.size < w0.heap.size := by rw [← hw0]; simp
  have PK : Hid (∀ W, Below w0.heap.size w0 W → W.cell? ⟨w.heap.size, 0, none⟩ = some (.int .i64 0) ∧ W.cell? ⟨w.heap.size, 1, none⟩ = some (.int .i64 0) ∧ W.cell? ⟨w.heap.size, 2, none⟩ = some (.int .i64 0) ∧ W.cell? ⟨w.heap.size, 3, none⟩ = some (.int .i64 0) ∧ W.cell? ⟨w.heap.size, 4, none⟩ = some (.int .i64 0) ∧ w.heap.size < W.heap.size ∧ (∀ i, W.frozen? ⟨w.heap.size, i, none⟩ = false)) := hidA (fun W hW => by and_intros <;> first | exact cellA hW (by rw [← hw0]; simp [go_sem]) | exact (by have h0 := hW.size; have h1 := hsz; omega) | exact (fun i => (hW.frozen (p := ⟨w.heap.size, i, none⟩) (show w.heap.size < w0.heap.size by have h1 := hsz; omega)).trans (by rw [← hw0]; simp [go_sem])))
  have Hw := hidA hw0; clear hw0
  go_enter Try.func38, Try.ntmps38
  go_wp2_with fail
  rw [Hw.out]
  clear Hw
  have HS : Hid (Below w0.heap.size w0 w0) := hidA (Below.refl _ _)
  obtain ⟨c0, c1, c2, c3, c4, z0, fr0⟩ := PK.out _ HS.out
  go_wp2_with (go_at_call 39; (with_reducible refine (C.out _).mono ?_); rintro e w1 ⟨rfl, hb⟩; have hs1 := stepA HS.out hb; clear hb; clear HS; have HS := hidA hs1; clear hs1 c0 c1 c2 c3 c4 z0 fr0; obtain ⟨c0, c1, c2, c3, c4, z0, fr0⟩ := PK.out _ HS.out)
  exact bodyPost_ret (v := .agg #[.int .i64 v, .int .i64 v, .int .i64 1, .int .i64 0, .int .i64 0]) (by simp [results, Try.results38, go_sem, c0, c1, c2, c3, c4, z0]) rfl ⟨by rfl, (by repeat (first | with_reducible exact Below.refl _ _ | with_reducible exact HS.out | with_reducible exact B0.out | with_reducible refine Below.setCell ?_ (by first | omega | (dsimp only; omega) | (simp; done) | (simp; omega)) _ | with_reducible refine Below.alloc ?_ (by first | omega | (dsimp only; omega) | (simp; done) | (simp; omega)) _ | with_reducible refine Below.drew ?_ | with_reducible refine drewnA ?_ _ | with_reducible refine Below.trans ?_ (HS.out.mono (by first | omega | (dsimp only; omega) | (simp; done) | (simp; omega))) | with_reducible refine Below.trans ?_ (B0.out.mono (by first | omega | (dsimp only; omega) | (simp; done) | (simp; omega)))))⟩
set_option maxRecDepth 100000 in
set_option maxHeartbeats 4000000 in
theorem examples_any (w : World) :
    Calls Try.prog 9 #[] w fun e w' => e = .returned (.bool true) ∧ Below w.heap.size w w' := by
  have K1 : Hid (∀ w, Calls Try.prog 38 #[.int .i64 4] w fun e w' => e = .returned (.agg #[.int .i64 4, .int .i64 4, .int .i64 1, .int .i64 0, .int .i64 0]) ∧ Below w.heap.size w w') := hidA (fun w => by
    exact one_any 4 w)
  have K2 : Hid (∀ w, Calls Try.prog 38 #[.int .i64 10] w fun e w' => e = .returned (.agg #[.int .i64 10, .int .i64 10, .int .i64 1, .int .i64 0, .int .i64 0]) ∧ Below w.heap.size w w') := hidA (fun w => by
    exact one_any 10 w)
  have K3 : Hid (∀ w, Calls Try.prog 18 #[.agg #[.int .i64 4, .int .i64 4, .int .i64 1, .int .i64 0, .int .i64 0], .agg #[.int .i64 10, .int .i64 10, .int .i64 1, .int .i64 0, .int .i64 0]] w fun e w' => e = .returned (.agg #[.int .i64 4, .int .i64 10, .int .i64 6, .int .i64 4, .int .i64 0]) ∧ Below w.heap.size w w') := hidA (fun w => by
    have h := sjoin_any ⟨4, 4, 1, 0, 0⟩ ⟨10, 10, 1, 0, 0⟩ (⟨by decide, by decide, by decide, by decide, Or.inl ⟨rfl, rfl, rfl⟩⟩ : Val ⟨4, 4, 1, 0, 0⟩) (⟨by decide, by decide, by decide, by decide, Or.inl ⟨rfl, rfl, rfl⟩⟩ : Val ⟨10, 10, 1, 0, 0⟩) w; rw [show joinA ⟨4, 4, 1, 0, 0⟩ ⟨10, 10, 1, 0, 0⟩ = ⟨4, 10, 6, 4, 0⟩ from by decide +kernel] at h; exact h)
  have K4 : Hid (∀ w, Calls Try.prog 39 #[.int .i64 4, .int .i64 10, .int .i64 6] w fun e w' => e = .returned (.agg #[.int .i64 4, .int .i64 10, .int .i64 6, .int .i64 4, .int .i64 0]) ∧ Below w.heap.size w w') := hidA (fun w => by
    have h := set_any 4 10 6 (by decide) (by decide) w; rw [show setA 4 10 6 = ⟨4, 10, 6, 4, 0⟩ from by decide +kernel] at h; exact h)
  have K5 : Hid (∀ w, Calls Try.prog 38 #[.int .i64 7] w fun e w' => e = .returned (.agg #[.int .i64 7, .int .i64 7, .int .i64 1, .int .i64 0, .int .i64 0]) ∧ Below w.heap.size w w') := hidA (fun w => by
    exact one_any 7 w)
  have K6 : Hid (∀ w, Calls Try.prog 18 #[.agg #[.int .i64 4, .int .i64 10, .int .i64 6, .int .i64 4, .int .i64 0], .agg #[.int .i64 7, .int .i64 7, .int .i64 1, .int .i64 0, .int .i64 0]] w fun e w' => e = .returned (.agg #[.int .i64 4, .int .i64 10, .int .i64 3, .int .i64 1, .int .i64 0]) ∧ Below w.heap.size w w') := hidA (fun w => by
    have h := sjoin_any ⟨4, 10, 6, 4, 0⟩ ⟨7, 7, 1, 0, 0⟩ (⟨by decide, by decide, by decide, by decide, Or.inr ⟨by decide, by decide, by decide, by decide⟩⟩ : Val ⟨4, 10, 6, 4, 0⟩) (⟨by decide, by decide, by decide, by decide, Or.inl ⟨rfl, rfl, rfl⟩⟩ : Val ⟨7, 7, 1, 0, 0⟩) w; rw [show joinA ⟨4, 10, 6, 4, 0⟩ ⟨7, 7, 1, 0, 0⟩ = ⟨4, 10, 3, 1, 0⟩ from by decide +kernel] at h; exact h)
  have K7 : Hid (∀ w, Calls Try.prog 39 #[.int .i64 4, .int .i64 10, .int .i64 3] w fun e w' => e = .returned (.agg #[.int .i64 4, .int .i64 10, .int .i64 3, .int .i64 1, .int .i64 0]) ∧ Below w.heap.size w w') := hidA (fun w => by
    have h := set_any 4 10 3 (by decide) (by decide) w; rw [show setA 4 10 3 = ⟨4, 10, 3, 1, 0⟩ from by decide +kernel] at h; exact h)
  have K8 : Hid (∀ w, Calls Try.prog 39 #[.int .i64 0, .int .i64 8, .int .i64 4] w fun e w' => e = .returned (.agg #[.int .i64 0, .int .i64 8, .int .i64 4, .int .i64 0, .int .i64 0]) ∧ Below w.heap.size w w') := hidA (fun w => by
    have h := set_any 0 8 4 (by decide) (by decide) w; rw [show setA 0 8 4 = ⟨0, 8, 4, 0, 0⟩ from by decide +kernel] at h; exact h)
  have K9 : Hid (∀ w, Calls Try.prog 39 #[.int .i64 1, .int .i64 5, .int .i64 2] w fun e w' => e = .returned (.agg #[.int .i64 1, .int .i64 5, .int .i64 2, .int .i64 1, .int .i64 0]) ∧ Below w.heap.size w w') := hidA (fun w => by
    have h := set_any 1 5 2 (by decide) (by decide) w; rw [show setA 1 5 2 = ⟨1, 5, 2, 1, 0⟩ from by decide +kernel] at h; exact h)
  have K10 : Hid (∀ w, Calls Try.prog 30 #[.int .i64 4, .agg #[.int .i64 0, .int .i64 8, .int .i64 4, .int .i64 0, .int .i64 0], .agg #[.int .i64 1, .int .i64 5, .int .i64 2, .int .i64 1, .int .i64 0]] w fun e w' => e = .returned (.agg #[.int .i64 1, .int .i64 13, .int .i64 2, .int .i64 1, .int .i64 0]) ∧ Below w.heap.size w w') := hidA (fun w => by
    have h := sop_any 4 ⟨0, 8, 4, 0, 0⟩ ⟨1, 5, 2, 1, 0⟩ (⟨by decide, by decide, by decide, by decide, Or.inr ⟨by decide, by decide, by decide, by decide⟩⟩ : Val ⟨0, 8, 4, 0, 0⟩) (⟨by decide, by decide, by decide, by decide, Or.inr ⟨by decide, by decide, by decide, by decide⟩⟩ : Val ⟨1, 5, 2, 1, 0⟩) (by decide) w; rw [show opA 4 ⟨0, 8, 4, 0, 0⟩ ⟨1, 5, 2, 1, 0⟩ = ⟨1, 13, 2, 1, 0⟩ from by decide +kernel] at h; exact h)
  have K11 : Hid (∀ w, Calls Try.prog 39 #[.int .i64 1, .int .i64 13, .int .i64 2] w fun e w' => e = .returned (.agg #[.int .i64 1, .int .i64 13, .int .i64 2, .int .i64 1, .int .i64 0]) ∧ Below w.heap.size w w') := hidA (fun w => by
    have h := set_any 1 13 2 (by decide) (by decide) w; rw [show setA 1 13 2 = ⟨1, 13, 2, 1, 0⟩ from by decide +kernel] at h; exact h)
  have K12 : Hid (∀ w, Calls Try.prog 39 #[.int .i64 0, .int .i64 9, .int .i64 1] w fun e w' => e = .returned (.agg #[.int .i64 0, .int .i64 9, .int .i64 1, .int .i64 0, .int .i64 0]) ∧ Below w.heap.size w w') := hidA (fun w => by
    have h := set_any 0 9 1 (by decide) (by decide) w; rw [show setA 0 9 1 = ⟨0, 9, 1, 0, 0⟩ from by decide +kernel] at h; exact h)
  have K13 : Hid (∀ w, Calls Try.prog 30 #[.int .i64 8, .agg #[.int .i64 0, .int .i64 9, .int .i64 1, .int .i64 0, .int .i64 0], .agg #[.int .i64 4, .int .i64 4, .int .i64 1, .int .i64 0, .int .i64 0]] w fun e w' => e = .returned (.agg #[.int .i64 0, .int .i64 3, .int .i64 1, .int .i64 0, .int .i64 0]) ∧ Below w.heap.size w w') := hidA (fun w => by
    have h := sop_any 8 ⟨0, 9, 1, 0, 0⟩ ⟨4, 4, 1, 0, 0⟩ (⟨by decide, by decide, by decide, by decide, Or.inr ⟨by decide, by decide, by decide, by decide⟩⟩ : Val ⟨0, 9, 1, 0, 0⟩) (⟨by decide, by decide, by decide, by decide, Or.inl ⟨rfl, rfl, rfl⟩⟩ : Val ⟨4, 4, 1, 0, 0⟩) (by decide) w; rw [show opA 8 ⟨0, 9, 1, 0, 0⟩ ⟨4, 4, 1, 0, 0⟩ = ⟨0, 3, 1, 0, 0⟩ from by decide +kernel] at h; exact h)
  have K14 : Hid (∀ w, Calls Try.prog 39 #[.int .i64 0, .int .i64 3, .int .i64 1] w fun e w' => e = .returned (.agg #[.int .i64 0, .int .i64 3, .int .i64 1, .int .i64 0, .int .i64 0]) ∧ Below w.heap.size w w') := hidA (fun w => by
    have h := set_any 0 3 1 (by decide) (by decide) w; rw [show setA 0 3 1 = ⟨0, 3, 1, 0, 0⟩ from by decide +kernel] at h; exact h)
  have K15 : Hid (∀ w, Calls Try.prog 30 #[.int .i64 8, .agg #[.int .i64 0, .int .i64 8, .int .i64 4, .int .i64 0, .int .i64 0], .agg #[.int .i64 4, .int .i64 4, .int .i64 1, .int .i64 0, .int .i64 0]] w fun e w' => e = .returned (.agg #[.int .i64 0, .int .i64 0, .int .i64 1, .int .i64 0, .int .i64 0]) ∧ Below w.heap.size w w') := hidA (fun w => by
    have h := sop_any 8 ⟨0, 8, 4, 0, 0⟩ ⟨4, 4, 1, 0, 0⟩ (⟨by decide, by decide, by decide, by decide, Or.inr ⟨by decide, by decide, by decide, by decide⟩⟩ : Val ⟨0, 8, 4, 0, 0⟩) (⟨by decide, by decide, by decide, by decide, Or.inl ⟨rfl, rfl, rfl⟩⟩ : Val ⟨4, 4, 1, 0, 0⟩) (by decide) w; rw [show opA 8 ⟨0, 8, 4, 0, 0⟩ ⟨4, 4, 1, 0, 0⟩ = ⟨0, 0, 1, 0, 0⟩ from by decide +kernel] at h; exact h)
  have K16 : Hid (∀ w, Calls Try.prog 38 #[.int .i64 0] w fun e w' => e = .returned (.agg #[.int .i64 0, .int .i64 0, .int .i64 1, .int .i64 0, .int .i64 0]) ∧ Below w.heap.size w w') := hidA (fun w => by
    exact one_any 0 w)
  have K17 : Hid (∀ w, Calls Try.prog 38 #[.int .i64 2147483647] w fun e w' => e = .returned (.agg #[.int .i64 2147483647, .int .i64 2147483647, .int .i64 1, .int .i64 0, .int .i64 0]) ∧ Below w.heap.size w w') := hidA (fun w => by
    exact one_any 2147483647 w)
  have K18 : Hid (∀ w, Calls Try.prog 39 #[.int .i64 1, .int .i64 3, .int .i64 2] w fun e w' => e = .returned (.agg #[.int .i64 1, .int .i64 3, .int .i64 2, .int .i64 1, .int .i64 0]) ∧ Below w.heap.size w w') := hidA (fun w => by
    have h := set_any 1 3 2 (by decide) (by decide) w; rw [show setA 1 3 2 = ⟨1, 3, 2, 1, 0⟩ from by decide +kernel] at h; exact h)
  have K19 : Hid (∀ w, Calls Try.prog 30 #[.int .i64 4, .agg #[.int .i64 2147483647, .int .i64 2147483647, .int .i64 1, .int .i64 0, .int .i64 0], .agg #[.int .i64 1, .int .i64 3, .int .i64 2, .int .i64 1, .int .i64 0]] w fun e w' => e = .returned (.agg #[.int .i64 (-2147483648), .int .i64 2147483646, .int .i64 2, .int .i64 0, .int .i64 0]) ∧ Below w.heap.size w w') := hidA (fun w => by
    have h := sop_any 4 ⟨2147483647, 2147483647, 1, 0, 0⟩ ⟨1, 3, 2, 1, 0⟩ (⟨by decide, by decide, by decide, by decide, Or.inl ⟨rfl, rfl, rfl⟩⟩ : Val ⟨2147483647, 2147483647, 1, 0, 0⟩) (⟨by decide, by decide, by decide, by decide, Or.inr ⟨by decide, by decide, by decide, by decide⟩⟩ : Val ⟨1, 3, 2, 1, 0⟩) (by decide) w; rw [show opA 4 ⟨2147483647, 2147483647, 1, 0, 0⟩ ⟨1, 3, 2, 1, 0⟩ = ⟨(-2147483648), 2147483646, 2, 0, 0⟩ from by decide +kernel] at h; exact h)
  have K20 : Hid (∀ w, Calls Try.prog 39 #[.int .i64 (-2147483648), .int .i64 2147483646, .int .i64 2] w fun e w' => e = .returned (.agg #[.int .i64 (-2147483648), .int .i64 2147483646, .int .i64 2, .int .i64 0, .int .i64 0]) ∧ Below w.heap.size w w') := hidA (fun w => by
    have h := set_any (-2147483648) 2147483646 2 (by decide) (by decide) w; rw [show setA (-2147483648) 2147483646 2 = ⟨(-2147483648), 2147483646, 2, 0, 0⟩ from by decide +kernel] at h; exact h)
  have K21 : Hid (∀ w, Calls Try.prog 38 #[.int .i64 3] w fun e w' => e = .returned (.agg #[.int .i64 3, .int .i64 3, .int .i64 1, .int .i64 0, .int .i64 0]) ∧ Below w.heap.size w w') := hidA (fun w => by
    exact one_any 3 w)
  have K22 : Hid (∀ w, Calls Try.prog 12 #[.agg #[.int .i64 3, .int .i64 3, .int .i64 1, .int .i64 0, .int .i64 0]] w fun e w' => e = .returned (.bool true) ∧ Below w.heap.size w w') := hidA (fun w => by
    exact svalid_any ⟨3, 3, 1, 0, 0⟩ (⟨by decide, by decide, by decide, by decide, Or.inl ⟨rfl, rfl, rfl⟩⟩ : Val ⟨3, 3, 1, 0, 0⟩) w)
  have K23 : Hid (∀ w, Calls Try.prog 12 #[.agg #[.int .i64 0, .int .i64 0, .int .i64 0, .int .i64 0, .int .i64 0]] w fun e w' => e = .returned (.bool false) ∧ Below w.heap.size w w') := hidA (fun w => by
    exact svalid_zero w)
  have K24 : Hid (∀ w, Calls Try.prog 28 #[.int .i64 5] w fun e w' => e = .returned (.agg #[.int .i64 (-2147483648), .int .i64 2147483647, .int .i64 1, .int .i64 0, .int .i64 5]) ∧ Below w.heap.size w w') := hidA (fun w => by
    have h := sall_any 5 w; rw [show allA 5 = ⟨(-2147483648), 2147483647, 1, 0, 5⟩ from by decide +kernel] at h; exact h)
  have K25 : Hid (∀ w, Calls Try.prog 39 #[.int .i64 1, .int .i64 7, .int .i64 3] w fun e w' => e = .returned (.agg #[.int .i64 1, .int .i64 7, .int .i64 3, .int .i64 1, .int .i64 0]) ∧ Below w.heap.size w w') := hidA (fun w => by
    have h := set_any 1 7 3 (by decide) (by decide) w; rw [show setA 1 7 3 = ⟨1, 7, 3, 1, 0⟩ from by decide +kernel] at h; exact h)
  have K26 : Hid (∀ w, Calls Try.prog 14 #[.agg #[.int .i64 1, .int .i64 7, .int .i64 3, .int .i64 1, .int .i64 0], .agg #[.int .i64 4, .int .i64 0]] w fun e w' => e = .returned (.bool true) ∧ Below w.heap.size w w') := hidA (fun w => by
    have h := shas_any ⟨1, 7, 3, 1, 0⟩ (⟨by decide, by decide, by decide, by decide, Or.inr ⟨by decide, by decide, by decide, by decide⟩⟩ : Val ⟨1, 7, 3, 1, 0⟩) 4 0 (by decide) w; rw [show hasB ⟨1, 7, 3, 1, 0⟩ 4 0 = true from by decide +kernel] at h; exact h)
  have K27 : Hid (∀ w, Calls Try.prog 14 #[.agg #[.int .i64 1, .int .i64 7, .int .i64 3, .int .i64 1, .int .i64 0], .agg #[.int .i64 4, .int .i64 1]] w fun e w' => e = .returned (.bool false) ∧ Below w.heap.size w w') := hidA (fun w => by
    have h := shas_any ⟨1, 7, 3, 1, 0⟩ (⟨by decide, by decide, by decide, by decide, Or.inr ⟨by decide, by decide, by decide, by decide⟩⟩ : Val ⟨1, 7, 3, 1, 0⟩) 4 1 (by decide) w; rw [show hasB ⟨1, 7, 3, 1, 0⟩ 4 1 = false from by decide +kernel] at h; exact h)
  have HS : Hid (Below w.heap.size w w) := hidA (Below.refl _ _)
  go_enter Try.func9, Try.ntmps9
  go_wp2_with (first | (go_at_call 38; (with_reducible refine (K1.out _).mono ?_); rintro e w1 ⟨rfl, hb⟩; have HS' := hidA (stepA HS.out hb); clear HS hb; have HS := HS'; clear HS') | (go_at_call 38; (with_reducible refine (K2.out _).mono ?_); rintro e w1 ⟨rfl, hb⟩; have HS' := hidA (stepA HS.out hb); clear HS hb; have HS := HS'; clear HS') | (go_at_call 18; (with_reducible refine (K3.out _).mono ?_); rintro e w1 ⟨rfl, hb⟩; have HS' := hidA (stepA HS.out hb); clear HS hb; have HS := HS'; clear HS') | (go_at_call 39; (with_reducible refine (K4.out _).mono ?_); rintro e w1 ⟨rfl, hb⟩; have HS' := hidA (stepA HS.out hb); clear HS hb; have HS := HS'; clear HS') | (go_at_call 38; (with_reducible refine (K5.out _).mono ?_); rintro e w1 ⟨rfl, hb⟩; have HS' := hidA (stepA HS.out hb); clear HS hb; have HS := HS'; clear HS') | (go_at_call 18; (with_reducible refine (K6.out _).mono ?_); rintro e w1 ⟨rfl, hb⟩; have HS' := hidA (stepA HS.out hb); clear HS hb; have HS := HS'; clear HS') | (go_at_call 39; (with_reducible refine (K7.out _).mono ?_); rintro e w1 ⟨rfl, hb⟩; have HS' := hidA (stepA HS.out hb); clear HS hb; have HS := HS'; clear HS') | (go_at_call 39; (with_reducible refine (K8.out _).mono ?_); rintro e w1 ⟨rfl, hb⟩; have HS' := hidA (stepA HS.out hb); clear HS hb; have HS := HS'; clear HS') | (go_at_call 39; (with_reducible refine (K9.out _).mono ?_); rintro e w1 ⟨rfl, hb⟩; have HS' := hidA (stepA HS.out hb); clear HS hb; have HS := HS'; clear HS') | (go_at_call 30; (with_reducible refine (K10.out _).mono ?_); rintro e w1 ⟨rfl, hb⟩; have HS' := hidA (stepA HS.out hb); clear HS hb; have HS := HS'; clear HS') | (go_at_call 39; (with_reducible refine (K11.out _).mono ?_); rintro e w1 ⟨rfl, hb⟩; have HS' := hidA (stepA HS.out hb); clear HS hb; have HS := HS'; clear HS') | (go_at_call 39; (with_reducible refine (K12.out _).mono ?_); rintro e w1 ⟨rfl, hb⟩; have HS' := hidA (stepA HS.out hb); clear HS hb; have HS := HS'; clear HS') | (go_at_call 30; (with_reducible refine (K13.out _).mono ?_); rintro e w1 ⟨rfl, hb⟩; have HS' := hidA (stepA HS.out hb); clear HS hb; have HS := HS'; clear HS') | (go_at_call 39; (with_reducible refine (K14.out _).mono ?_); rintro e w1 ⟨rfl, hb⟩; have HS' := hidA (stepA HS.out hb); clear HS hb; have HS := HS'; clear HS') | (go_at_call 30; (with_reducible refine (K15.out _).mono ?_); rintro e w1 ⟨rfl, hb⟩; have HS' := hidA (stepA HS.out hb); clear HS hb; have HS := HS'; clear HS') | (go_at_call 38; (with_reducible refine (K16.out _).mono ?_); rintro e w1 ⟨rfl, hb⟩; have HS' := hidA (stepA HS.out hb); clear HS hb; have HS := HS'; clear HS') | (go_at_call 38; (with_reducible refine (K17.out _).mono ?_); rintro e w1 ⟨rfl, hb⟩; have HS' := hidA (stepA HS.out hb); clear HS hb; have HS := HS'; clear HS') | (go_at_call 39; (with_reducible refine (K18.out _).mono ?_); rintro e w1 ⟨rfl, hb⟩; have HS' := hidA (stepA HS.out hb); clear HS hb; have HS := HS'; clear HS') | (go_at_call 30; (with_reducible refine (K19.out _).mono ?_); rintro e w1 ⟨rfl, hb⟩; have HS' := hidA (stepA HS.out hb); clear HS hb; have HS := HS'; clear HS') | (go_at_call 39; (with_reducible refine (K20.out _).mono ?_); rintro e w1 ⟨rfl, hb⟩; have HS' := hidA (stepA HS.out hb); clear HS hb; have HS := HS'; clear HS') | (go_at_call 38; (with_reducible refine (K21.out _).mono ?_); rintro e w1 ⟨rfl, hb⟩; have HS' := hidA (stepA HS.out hb); clear HS hb; have HS := HS'; clear HS') | (go_at_call 12; (with_reducible refine (K22.out _).mono ?_); rintro e w1 ⟨rfl, hb⟩; have HS' := hidA (stepA HS.out hb); clear HS hb; have HS := HS'; clear HS') | (go_at_call 12; (with_reducible refine (K23.out _).mono ?_); rintro e w1 ⟨rfl, hb⟩; have HS' := hidA (stepA HS.out hb); clear HS hb; have HS := HS'; clear HS') | (go_at_call 28; (with_reducible refine (K24.out _).mono ?_); rintro e w1 ⟨rfl, hb⟩; have HS' := hidA (stepA HS.out hb); clear HS hb; have HS := HS'; clear HS') | (go_at_call 39; (with_reducible refine (K25.out _).mono ?_); rintro e w1 ⟨rfl, hb⟩; have HS' := hidA (stepA HS.out hb); clear HS hb; have HS := HS'; clear HS') | (go_at_call 14; (with_reducible refine (K26.out _).mono ?_); rintro e w1 ⟨rfl, hb⟩; have HS' := hidA (stepA HS.out hb); clear HS hb; have HS := HS'; clear HS') | (go_at_call 14; (with_reducible refine (K27.out _).mono ?_); rintro e w1 ⟨rfl, hb⟩; have HS' := hidA (stepA HS.out hb); clear HS hb; have HS := HS'; clear HS'))
  go_ret
  exact ⟨rfl, HS.out⟩
end

section
open Go.RowKit Go.Instr Sp
set_option linter.unusedVariables false
set_option linter.unusedSimpArgs false

/-! Small lemmas. -/
theorem alloc_is {w1 w2 : World} {o : Obj} (h : w1.alloc o = w2) : Below w1.heap.size w1 w2 := by rw [← h]; exact (Below.refl _ _).alloc (Nat.le_refl _) _
theorem row_is {w1 w2 : World} {cs : Array Value} {t : TypeId} (h : w1.alloc (.cells cs t) = w2) (i : Nat) (v : Value) (hv : cs[i]? = some v) : w2.cell? ⟨w1.heap.size, i, none⟩ = some v := by
  have h2 := heap_alloc_new w1 (.cells cs t)
  rw [h] at h2
  simp [World.cell?, h2, hv]
def cmpB (op v u : Int) : Bool := if op = 2 then decide (v < u) else if op = 3 then decide (v ≤ u) else v == u
set_option maxHeartbeats 1000000 in
theorem lmade_any (lo n m k : Int) (w : World) :
    Calls Try.prog 10 #[.agg #[.int .i64 lo, .int .i64 n, .int .i64 m, .int .i64 k]] w fun e w' => e = .returned (.agg #[.int .i64 (madeA lo n m k).lo, .int .i64 (madeA lo n m k).hi, .int .i64 (madeA lo n m k).m, .int .i64 (madeA lo n m k).r, .int .i64 (madeA lo n m k).k]) ∧ Below w.heap.size w w' := by
  obtain ⟨w0, hw0⟩ : ∃ w0, ((w.alloc (.cells #[.int .i64 lo, .int .i64 n, .int .i64 m, .int .i64 k] 23)).alloc (.cells #[.int .i64 0, .int .i64 0, .int .i64 0, .int .i64 0, .int .i64 0] 27)) = w0 := ⟨_, rfl⟩
  have B0 : Hid (Below w.heap.size w w0) := hidA (by rw [← hw0]; exact (alA (alA (Below.refl _ _) _) _))
  have hsz : w.heap.size + 1 < w0.heap.size := by rw [← hw0]; simp
  have PK : Hid (∀ W, Below w0.heap.size w0 W → W.cell? ⟨w.heap.size, 0, none⟩ = some (.int .i64 lo) ∧ W.cell? ⟨w.heap.size, 1, none⟩ = some (.int .i64 n) ∧ W.cell? ⟨w.heap.size, 2, none⟩ = some (.int .i64 m) ∧ W.cell? ⟨w.heap.size, 3, none⟩ = some (.int .i64 k) ∧ W.cell? ⟨w.heap.size + 1, 0, none⟩ = some (.int .i64 0) ∧ W.cell? ⟨w.heap.size + 1, 1, none⟩ = some (.int .i64 0) ∧ W.cell? ⟨w.heap.size + 1, 2, none⟩ = some (.int .i64 0) ∧ W.cell? ⟨w.heap.size + 1, 3, none⟩ = some (.int .i64 0) ∧ W.cell? ⟨w.heap.size + 1, 4, none⟩ = some (.int .i64 0) ∧ w.heap.size < W.heap.size ∧ w.heap.size + 1 < W.heap.size ∧ (∀ i, W.frozen? ⟨w.heap.size + 1, i, none⟩ = false)) := hidA (fun W hW => by and_intros <;> first | exact cellA hW (by rw [← hw0]; simp [go_sem]) | exact (by have h0 := hW.size; have h1 := hsz; omega) | exact (fun i => (hW.frozen (p := ⟨w.heap.size + 1, i, none⟩) (show w.heap.size + 1 < w0.heap.size by have h1 := hsz; omega)).trans (by rw [← hw0]; simp [go_sem])))
  have Hw := hidA hw0; clear hw0
  go_enter Try.func10, Try.ntmps10
  go_wp2_with fail
  rw [Hw.out]
  clear Hw
  have HS : Hid (Below w0.heap.size w0 w0) := hidA (Below.refl _ _)
  obtain ⟨c0, c1, c2, c3, c4, c5, c6, c7, c8, z0, z1, fr1⟩ := PK.out _ HS.out
  go_wp2_with (go_at_call 40; (with_reducible refine (madeR_any _ _ _ _ _).mono ?_); rintro e w1 ⟨rfl, hb⟩; have hs1 := stepA HS.out hb; clear hb; have HS' := hidA hs1; clear HS hs1; clear c0 c1 c2 c3 c4 c5 c6 c7 c8 z0 z1 fr1; have HS := HS'; clear HS'; obtain ⟨c0, c1, c2, c3, c4, c5, c6, c7, c8, z0, z1, fr1⟩ := PK.out _ HS.out)
  exact bodyPost_ret (v := .agg #[.int .i64 (madeA lo n m k).lo, .int .i64 (madeA lo n m k).hi, .int .i64 (madeA lo n m k).m, .int .i64 (madeA lo n m k).r, .int .i64 (madeA lo n m k).k]) (by simp [results, Try.results10, go_sem, c4, c5, c6, c7, c8, z1]) rfl ⟨by rfl, (by repeat (first | with_reducible exact Below.refl _ _ | with_reducible exact HS.out | with_reducible exact B0.out | with_reducible refine Below.setCell ?_ (by first | omega | (dsimp only; omega) | (simp; done) | (simp; omega)) _ | with_reducible refine Below.alloc ?_ (by first | omega | (dsimp only; omega) | (simp; done) | (simp; omega)) _ | with_reducible refine Below.drew ?_ | with_reducible refine drewnA ?_ _ | with_reducible refine Below.trans ?_ (HS.out.mono (by first | omega | (dsimp only; omega) | (simp; done) | (simp; omega))) | with_reducible refine Below.trans ?_ (B0.out.mono (by first | omega | (dsimp only; omega) | (simp; done) | (simp; omega)))))⟩
theorem made_small (lo n m k : Int) : stp (madeA lo n m k) ≤ 1048576 := by
  have h := made_ok lo n m
  have hm := madeM_bd m
  unfold madeA
  rw [by_stp _ h.1]
  split <;> omega
theorem mul_small {x y : Int} (h1 : 0 ≤ x) (h2 : x ≤ 4294967295) (h3 : 0 ≤ y) (h4 : y ≤ 1048576) : x * y ≤ 4611686018427387904 := by
  have a := Int.mul_le_mul_of_nonneg_right h2 h3
  have b := Int.mul_le_mul_of_nonneg_left h4 (show (0 : Int) ≤ 4294967295 by omega)
  omega
end
end Go.Proofs.Ytdopjadlbhacfaa

import Derived.Test.YtnholabamjodhaaBo
import Derived.Test.YtnholabamjodhaaBs
namespace Go.Proofs.Ytnholabamjodhaa
open Go.RowKit Go.Instr Sp
set_option linter.unusedVariables false
set_option linter.unusedSimpArgs false

/-! span's operators on sets; all sets. -/
theorem opF_in2 (n : Int) {x y : Int} (hx : inV x) (hy : inV y) : opF n x y = opM n x y := by
  obtain ⟨x1, x2⟩ := hx
  obtain ⟨y1, y2⟩ := hy
  have w32 : ∀ z : Int, wrap32 z = wr z := by intro z; unfold wrap32 wr; omega
  have ex : wrap32 x = x := by unfold wrap32; omega
  have ey : wrap32 y = y := by unfold wrap32; omega
  have sz := tdiv_size x y
  have u1 : absI x ≤ 2147483648 := by unfold absI; omega
  have eq : quo x y = x.tdiv y := by unfold quo wrap64; omega
  unfold opF opM
  rw [ex, ey, eq]
  split; exact w32 _
  split; exact w32 _
  split; exact w32 _
  split; exact w32 _
  split
  · obtain ⟨t1, t2, t3, t4⟩ := tmod_is x y
    have e : x - y * x.tdiv y = x.tmod y := (Int.tmod_def x y).symm
    rw [e, w32]
    rcases Int.le_total 0 x with h | h
    · have := t1 h; exact wr_id (by omega) (by omega)
    · have := t2 h; exact wr_id (by omega) (by omega)
  split; unfold wrap32; omega
  split; unfold wrap32; omega
  rfl
theorem opA_wrap (n : Int) (a b : Ab) (A : Val a) (B : Val b) (hne : ¬ (stp a = 0 ∧ stp b = 0)) : opA n a b = if n = 4 then addA a b (a.k ||| b.k) else if n = 5 then subA a b (a.k ||| b.k) else if n = 6 then mulA a b (a.k ||| b.k) else if n = 7 then divA a b (a.k ||| b.k) else if n = 8 then remA a b (a.k ||| b.k) else if n = 9 then minA a b (a.k ||| b.k) else if n = 10 then maxA a b (a.k ||| b.k) else oneA 0 (a.k ||| b.k) := by
  unfold opA; rw [if_neg hne]
theorem div_with (a b : Ab) (k : Nat) : divA a b k = { divA a b 0 with k := k } := by
  unfold divA
  split
  · split
    · exact by_with _ _ _ _
    · exact by_with _ _ _ _
  · split
    · exact by_with _ _ _ _
    · split
      · exact by_with _ _ _ _
      · exact by_with _ _ _ _
theorem sop_any0 (n : Int) (a b : Ab) (A : Val a) (B : Val b) (w : World) :
    Calls Try.prog 30 #[.int .i64 n, .agg #[.int .i64 a.lo, .int .i64 a.hi, .int .i64 a.m, .int .i64 a.r, .int .i64 a.k], .agg #[.int .i64 b.lo, .int .i64 b.hi, .int .i64 b.m, .int .i64 b.r, .int .i64 b.k]] w fun e w' => e = .returned (.agg #[.int .i64 (opA n a b).lo, .int .i64 (opA n a b).hi, .int .i64 (opA n a b).m, .int .i64 (opA n a b).r, .int .i64 (opA n a b).k]) ∧ Below w.heap.size w w' := by
  have mk := bits_or8 A.k B.k
  have ia : inV a.lo := ⟨A.l, by have := A.o; have := A.h; omega⟩
  have ib : inV b.lo := ⟨B.l, by have := B.o; have := B.h; omega⟩
  have C1 := hidA (fun w => sstep_any a w)
  have C2 := hidA (fun w => sstep_any b w)
  have CN := hidA (fun w => op_any n a.lo b.lo w)
  rw [opF_in2 n ia ib] at CN
  have CX := hidA (fun w => sof_any (opM n a.lo b.lo) 0 w)
  by_cases hn : n < 4 ∨ 10 < n
  · have x0 : opM n a.lo b.lo = 0 := by
      unfold opM
      rw [if_neg (by omega), if_neg (by omega), if_neg (by omega), if_neg (by omega), if_neg (by omega), if_neg (by omega), if_neg (by omega)]
    have e : opA n a b = oneA (opM n a.lo b.lo) (a.k ||| b.k) := by
      unfold opA
      split
      · rfl
      · rw [x0, if_neg (by omega), if_neg (by omega), if_neg (by omega), if_neg (by omega), if_neg (by omega), if_neg (by omega), if_neg (by omega)]
    rw [e]
    have CO := hidA (fun w => show Calls Try.prog 56 #[.int .i64 n] w fun e w' => e = .returned (.tuple #[.nilFunc, .bool false]) ∧ Below w.heap.size w w' by
      by_cases h : n < 4
      · exact opno_1 n h w
      · exact opno_2 n h (by omega) w)
    exact opw_A a b _ _ n _ _ mk C1 C2 CN CX CO w
  · by_cases hs : stp a = 0 ∧ stp b = 0
    · have e : opA n a b = oneA (opM n a.lo b.lo) (a.k ||| b.k) := by unfold opA; rw [if_pos hs]
      rw [e]
      have CS := hidA (fun w => single_2 a b (stp a) (stp b) true (by simpa using hs.1) (by simpa using hs.2) w)
      have hd : n = 4 ∨ n = 5 ∨ n = 6 ∨ n = 7 ∨ n = 8 ∨ n = 9 ∨ n = 10 := by omega
      rcases hd with rfl | rfl | rfl | rfl | rfl | rfl | rfl
      · exact opw_B a b _ _ 4 _ _ mk C1 C2 CN CX _ (hidA opyes_0) CS w
      · exact opw_B a b _ _ 5 _ _ mk C1 C2 CN CX _ (hidA opyes_1) CS w
      · exact opw_B a b _ _ 6 _ _ mk C1 C2 CN CX _ (hidA opyes_2) CS w
      · exact opw_B a b _ _ 7 _ _ mk C1 C2 CN CX _ (hidA opyes_3) CS w
      · exact opw_B a b _ _ 8 _ _ mk C1 C2 CN CX _ (hidA opyes_4) CS w
      · exact opw_B a b _ _ 9 _ _ mk C1 C2 CN CX _ (hidA opyes_5) CS w
      · exact opw_B a b _ _ 10 _ _ mk C1 C2 CN CX _ (hidA opyes_6) CS w
    · have CS := hidA (fun w => show Calls Try.prog 57 #[.agg #[.int .i64 a.lo, .int .i64 a.hi, .int .i64 a.m, .int .i64 a.r, .int .i64 a.k, .int .i64 b.lo, .int .i64 b.hi, .int .i64 b.m, .int .i64 b.r, .int .i64 b.k, .int .i64 (stp a), .int .i64 (stp b)]] w fun e w' => e = .returned (.bool false) ∧ Below w.heap.size w w' by
        by_cases z : stp a = 0
        · exact single_2 a b _ _ false (by simpa using z) (by simpa using fun y => hs ⟨z, y⟩) w
        · exact single_1 a b _ _ (by simpa using z) w)
      have hd : n = 4 ∨ n = 5 ∨ n = 6 ∨ n = 7 ∨ n = 8 ∨ n = 9 ∨ n = 10 := by omega
      rcases hd with rfl | rfl | rfl | rfl | rfl | rfl | rfl
      · have e : opA 4 a b = { addA a b 0 with k := a.k ||| b.k } := by
          rw [opA_wrap _ a b A B hs]; exact bd_with _ _ _ _
        rw [e]
        exact opw_C a b _ _ 4 _ _ mk C1 C2 CN CX _ (hidA opyes_0) CS (addA a b 0) 0 (hidA (fun w => sum_any a b A B hs w)) (by simp) w
      · have e : opA 5 a b = { subA a b 0 with k := a.k ||| b.k } := by
          rw [opA_wrap _ a b A B hs]; exact bd_with _ _ _ _
        rw [e]
        exact opw_C a b _ _ 5 _ _ mk C1 C2 CN CX _ (hidA opyes_1) CS (subA a b 0) 0 (hidA (fun w => diff_any a b A B hs w)) (by simp) w
      · have e : opA 6 a b = { mulA a b 0 with k := a.k ||| b.k } := by
          rw [opA_wrap _ a b A B hs]; exact bd_with _ _ _ _
        rw [e]
        exact opw_C a b _ _ 6 _ _ mk C1 C2 CN CX _ (hidA opyes_2) CS (mulA a b 0) 0 (hidA (fun w => product_any a b A B hs w)) (by simp) w
      · have e : opA 7 a b = { divA a b 0 with k := a.k ||| b.k } := by
          rw [opA_wrap _ a b A B hs]; exact div_with a b _
        rw [e]
        exact opw_C a b _ _ 7 _ _ mk C1 C2 CN CX _ (hidA opyes_3) CS (divA a b 0) 0 (hidA (fun w => quotient_any a b A B hs w)) (by simp) w
      · obtain ⟨J, z, eJ, CF⟩ := remainder_any a b A B hs (a.k ||| b.k)
        have e : opA 8 a b = { J with k := a.k ||| b.k } := by
          rw [opA_wrap _ a b A B hs, ← eJ]; rfl
        rw [e]
        exact opw_C a b _ _ 8 _ _ mk C1 C2 CN CX _ (hidA opyes_4) CS J z (hidA CF) (by simp) w
      · have e : opA 9 a b = { minA a b 0 with k := a.k ||| b.k } := by
          rw [opA_wrap _ a b A B hs]; exact by_with _ _ _ _
        rw [e]
        exact opw_C a b _ _ 9 _ _ mk C1 C2 CN CX _ (hidA opyes_5) CS (minA a b 0) 0 (hidA (fun w => least_any a b A B hs w)) (by simp) w
      · have e : opA 10 a b = { maxA a b 0 with k := a.k ||| b.k } := by
          rw [opA_wrap _ a b A B hs]; exact by_with _ _ _ _
        rw [e]
        exact opw_C a b _ _ 10 _ _ mk C1 C2 CN CX _ (hidA opyes_6) CS (maxA a b 0) 0 (hidA (fun w => greatest_any a b A B hs w)) (by simp) w
theorem sop_any (n : Int) (a b : Ab) (A : Val a) (B : Val b) (hst : stp a * stp b ≤ 4611686018427387904) (w : World) :
    Calls Try.prog 30 #[.int .i64 n, .agg #[.int .i64 a.lo, .int .i64 a.hi, .int .i64 a.m, .int .i64 a.r, .int .i64 a.k], .agg #[.int .i64 b.lo, .int .i64 b.hi, .int .i64 b.m, .int .i64 b.r, .int .i64 b.k]] w fun e w' => e = .returned (.agg #[.int .i64 (opA n a b).lo, .int .i64 (opA n a b).hi, .int .i64 (opA n a b).m, .int .i64 (opA n a b).r, .int .i64 (opA n a b).k]) ∧ Below w.heap.size w w' := sop_any0 n a b A B w
theorem sall_any (k : Nat) (w : World) :
    Calls Try.prog 28 #[.int .i64 k] w fun e w' => e = .returned (.agg #[.int .i64 (allA k).lo, .int .i64 (allA k).hi, .int .i64 (allA k).m, .int .i64 (allA k).r, .int .i64 (allA k).k]) ∧ Below w.heap.size w w' := by
  have e : allA k = ⟨-2147483648, 2147483647, 1, 0, k⟩ := by
    unfold allA byA topOf
    simp
  rw [e]
  exact sall0_any k w
end Go.Proofs.Ytnholabamjodhaa

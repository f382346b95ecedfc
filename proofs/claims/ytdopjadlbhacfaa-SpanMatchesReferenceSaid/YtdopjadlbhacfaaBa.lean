import Derived.Test.YtdopjadlbhacfaaAo
import Derived.Test.YtdopjadlbhacfaaAri
import Derived.Test.YtdopjadlbhacfaaAa
namespace Go.Proofs.Ytdopjadlbhacfaa
section
open Go.RowKit Go.Instr Sp
set_option linter.unusedVariables false
set_option linter.unusedSimpArgs false

/-! span's own numbers: sizes, remainders, greatest divisors. -/
structure Big (a : Int) : Prop where
  l : -9223372036854775807 ≤ a
  h : a ≤ 9223372036854775807
set_option maxHeartbeats 400000 in
theorem ssize_any (a : Int) (ha : Big a) (w : World) :
    Calls Try.prog 77 #[.int .i64 a] w fun e w' => e = .returned (.int .i64 (absI a)) ∧ w = w' := by
  obtain ⟨h1, h2⟩ := ha
  go_enter Try.func77, Try.ntmps77
  go_wp2
  all_goals
    go_ret
    exact ⟨retA (by first | rfl | (unfold absI; omega)), rfl⟩
theorem tmod_neg {a m : Int} (hm : 1 ≤ m) (h : a.tmod m < 0) : a.tmod m + m = a % m := by
  have e := tmod_emod a m
  have l := (tmod_in a hm).1
  rw [← e, ← Int.add_emod_right, Int.emod_eq_of_lt (by omega) (by omega)]
theorem tmod_nneg {a m : Int} (hm : 1 ≤ m) (h : 0 ≤ a.tmod m) : a.tmod m = a % m := by
  have e := tmod_emod a m
  have l := (tmod_in a hm).2
  rw [← e, Int.emod_eq_of_lt h l]
set_option maxHeartbeats 400000 in
theorem smod_any (a m : Int) (ha : Big a) (hm : 1 ≤ m) (hm2 : m ≤ 9223372036854775807) (w : World) :
    Calls Try.prog 76 #[.int .i64 a, .int .i64 m] w fun e w' => e = .returned (.int .i64 (a % m)) ∧ w = w' := by
  obtain ⟨h1, h2⟩ := tmod_in a hm
  have hz : (m == 0) = false := by simp; omega
  by_cases c : a.tmod m < 0
  · have E := hidA (tmod_neg hm c)
    go_enter Try.func76, Try.ntmps76
    go_wp2
    go_ret
    exact ⟨retA E.out, rfl⟩
  · have E := hidA (tmod_nneg hm (show 0 ≤ a.tmod m by omega))
    go_enter Try.func76, Try.ntmps76
    go_wp2
    go_ret
    exact ⟨retA E.out, rfl⟩
/-- The greatest divisor of some numbers, and one more. -/
def gcF : List Int → Int → Int
  | [], d => gc d 0
  | x :: t, d => gcF t (gc d x)
theorem gc_abs2 (p x : Int) : gc (gc p 0) x = gc p x := by
  unfold gc
  simp [Int.gcd]
theorem gcF_abs : ∀ (t : List Int) (p d : Int), gc p 0 = gc d 0 → gcF t p = gcF t d
  | [], p, d, h => h
  | x :: t, p, d, h => by
    unfold gcF
    rw [← gc_abs2 p x, ← gc_abs2 d x, h]
theorem gc_tmod (p q : Int) : gc q (p.tmod q) = gc p q := by
  unfold gc Int.gcd
  rw [Int.natAbs_tmod, Nat.gcd_comm p.natAbs, Nat.gcd_rec q.natAbs p.natAbs, Nat.gcd_comm]
theorem tmod_big {p q : Int} (hq : Big q) (h0 : q ≠ 0) : Big (p.tmod q) ∧ (p.tmod q).natAbs < q.natAbs := by
  have e := Int.natAbs_tmod p q
  have l := Nat.mod_lt p.natAbs (show 0 < q.natAbs by omega)
  have := hq.l; have := hq.h
  rw [← e] at l
  exact ⟨⟨by omega, by omega⟩, l⟩
theorem gcF_nil (d : Int) : gcF [] d = absI d := by
  unfold gcF gc absI
  simp [Int.gcd]
  omega
set_option maxHeartbeats 400000 in
theorem sdivisor_any (w : World) (b : Nat) (l : List Int) (n : Nat) (hn : l.length = n) (hn2 : n ≤ 1000) (H : ∀ i x, l[i]? = some x → w.cell? ⟨b, i, none⟩ = some (.int .i64 x)) (G : ∀ x ∈ l, Big x) :
    Calls Try.prog 47 #[.slice (some ⟨b, 0, none⟩) n n] w fun e w' => e = .returned (.int .i64 (gcF l 0)) ∧ Below w.heap.size w w' := by
  have HC := hidA H
  have HG := hidA G
  clear H G
  go_enter Try.func47, Try.ntmps47
  go_wp2
  go_loopw [3, 8] (fun s u W => ∃ (i : Nat) (d : Int), i ≤ n ∧ Big d ∧ Hid (gcF (l.drop i) d = gcF l 0) ∧ Below w.heap.size w W ∧ s = .int .i64 d ∧ u = .int .i64 i) (fun _ u _ => (n - (intOf u).toNat))
  case atStart => exact ⟨0, 0, by omega, ⟨by omega, by omega⟩, hidA rfl, Below.refl _ _, rfl, rfl⟩
  case round =>
    obtain ⟨i, d, hi, hd, E, hB, rfl, rfl⟩ := hrel
    have HB := hidA hB
    clear hB
    by_cases hin : i < n
    · obtain ⟨x, hx⟩ : ∃ x, l[i]? = some x := ⟨l[i]'(by omega), List.getElem?_eq_getElem (by omega)⟩
      have bx := HG.out x (List.mem_of_getElem? hx)
      have E2 := E.out
      have ed : l.drop i = x :: l.drop (i + 1) := by
        rw [List.getElem?_eq_some_iff] at hx
        obtain ⟨h1, h2⟩ := hx
        rw [List.drop_eq_getElem_cons h1, h2]
      rw [ed] at E2
      have E3 := hidA (show gcF (l.drop (i + 1)) (gc d x) = gcF l 0 from E2)
      clear E2 E ed
      have hb' : b < w.heap.size := World.block_lt_of_cell? _ _ (HC.out i x hx)
      have cx := (HB.out.cell (p := ⟨b, i, none⟩) hb').trans (HC.out i x hx)
      have hlt : (i : Int) < n := by omega
      go_wp2
      clear cx hb' hx HC HG
      go_loopw [3, 5] (fun s t V => ∃ p q : Int, Big p ∧ Big q ∧ Hid (gc p q = gc d x) ∧ Below w.heap.size w V ∧ s = .int .i64 p ∧ t = .int .i64 q) (fun _ t _ => (intOf t).natAbs)
      case atStart => exact ⟨d, x, hd, bx, hidA rfl, HB.out, rfl, rfl⟩
      case round =>
        obtain ⟨p, q, hp, hq, I, hB2, rfl, rfl⟩ := hrel
        have HB2 := hidA hB2
        clear hB2
        by_cases hy : q = 0
        · subst hy
          have hE := hidA ((gcF_abs (l.drop (i + 1)) p (gc d x) (by rw [← I.out]; unfold gc; simp [Int.gcd])).trans E3.out)
          go_wp2
          go_roundw
          case rel => exact ⟨i + 1, p, by omega, hp, hE, HB2.out, rfl, by first | rfl | go_num⟩
          case measure => simp [intOf]; omega
        · have hz : (q == 0) = false := by simpa using hy
          have hz2 : (q != 0) = true := by simpa using hy
          obtain ⟨t1, t2⟩ := tmod_big (p := p) hq hy
          have I2 := hidA ((gc_tmod p q).trans I.out)
          have HT := hidA (⟨t1, t2⟩ : Big (p.tmod q) ∧ (p.tmod q).natAbs < q.natAbs)
          obtain ⟨t3, t4⟩ := t1
          clear t2
          go_wp2
          go_region
          go_wp2
          go_roundw
          case rel => exact ⟨q, p.tmod q, hq, HT.out.1, I2, HB2.out.drew, rfl, by first | rfl | go_num⟩
          case measure => exact HT.out.2
    · have e : i = n := by omega
      subst e
      have E2 := hidA (show absI d = gcF l 0 by rw [← gcF_nil, ← E.out, List.drop_eq_nil_of_le (by omega)])
      go_wp2_with (go_at_call 77; refine (ssize_any _ hd _).mono ?_; rintro e w1 ⟨rfl, rfl⟩)
      go_ret
      exact ⟨retA E2.out, HB.out⟩
end

section
open Go.RowKit Go.Instr Sp
set_option linter.unusedVariables false
set_option linter.unusedSimpArgs false

/-! span's own classes of numbers. -/
set_option maxHeartbeats 400000 in
theorem sstep_one (a : Ab) (h : (a.lo == a.hi) = true) (w : World) :
    Calls Try.prog 48 #[.agg #[.int .i64 a.lo, .int .i64 a.hi, .int .i64 a.m, .int .i64 a.r, .int .i64 a.k]] w fun e w' => e = .returned (.int .i64 0) ∧ Below w.heap.size w w' := by
  go_enter Try.func48, Try.ntmps48
  go_wp2
  go_ret
  exact ⟨rfl, (by repeat (first | with_reducible exact Below.refl _ _ | with_reducible refine Below.setCell ?_ (by first | omega | simp <;> omega) _ | with_reducible refine Below.alloc ?_ (by first | omega | simp <;> omega) _ | with_reducible refine Below.drew ?_ | with_reducible refine drewnA ?_ _))⟩
set_option maxHeartbeats 400000 in
theorem sstep_more (a : Ab) (h : (a.lo == a.hi) = false) (w : World) :
    Calls Try.prog 48 #[.agg #[.int .i64 a.lo, .int .i64 a.hi, .int .i64 a.m, .int .i64 a.r, .int .i64 a.k]] w fun e w' => e = .returned (.int .i64 a.m) ∧ Below w.heap.size w w' := by
  go_enter Try.func48, Try.ntmps48
  go_wp2
  go_ret
  exact ⟨rfl, (by repeat (first | with_reducible exact Below.refl _ _ | with_reducible refine Below.setCell ?_ (by first | omega | simp <;> omega) _ | with_reducible refine Below.alloc ?_ (by first | omega | simp <;> omega) _ | with_reducible refine Below.drew ?_ | with_reducible refine drewnA ?_ _))⟩
theorem sstep_any (a : Ab) (w : World) :
    Calls Try.prog 48 #[.agg #[.int .i64 a.lo, .int .i64 a.hi, .int .i64 a.m, .int .i64 a.r, .int .i64 a.k]] w fun e w' => e = .returned (.int .i64 (stp a)) ∧ Below w.heap.size w w' := by
  by_cases h : a.lo = a.hi
  · rw [show stp a = 0 from if_pos h]; exact sstep_one a (by simpa using h) w
  · rw [show stp a = a.m from if_neg h]; exact sstep_more a (by simpa using h) w
theorem smod_b (a m : Int) (ha : Big a) (hm : 1 ≤ m) (hm2 : m ≤ 9223372036854775807) (w : World) :
    Calls Try.prog 76 #[.int .i64 a, .int .i64 m] w fun e w' => e = .returned (.int .i64 (a % m)) ∧ Below w.heap.size w w' :=
  (smod_any a m ha hm hm2 w).mono (by rintro e w1 ⟨rfl, rfl⟩; exact ⟨rfl, Below.refl _ _⟩)
set_option maxHeartbeats 1000000 in
theorem sclassOf_any (a : Ab) (w : World) :
    Calls Try.prog 43 #[.agg #[.int .i64 a.lo, .int .i64 a.hi, .int .i64 a.m, .int .i64 a.r, .int .i64 a.k]] w fun e w' => e = .returned (.agg #[.int .i64 a.lo, .int .i64 (stp a)]) ∧ Below w.heap.size w w' := by
  have C := hidA (fun w => sstep_any a w)
  generalize stp a = s at *
  obtain ⟨w0, hw0⟩ : ∃ w0, ((w.alloc (.cells #[.int .i64 a.lo, .int .i64 a.hi, .int .i64 a.m, .int .i64 a.r, .int .i64 a.k] 27)).alloc (.cells #[.int .i64 0, .int .i64 0] 69)) = w0 := ⟨_, rfl⟩
  have B0 : Hid (Below w.heap.size w w0) := hidA (by rw [← hw0]; exact (alA (alA (Below.refl _ _) _) _))
  have hsz : w.heap.size + 1 < w0.heap.size := by rw [← hw0]; simp
  have PK : Hid (∀ W, Below w0.heap.size w0 W → abF W (w.heap.size) a (W.cell? ⟨w.heap.size + 1, 0, none⟩ = some (.int .i64 0) ∧ W.cell? ⟨w.heap.size + 1, 1, none⟩ = some (.int .i64 0) ∧ w.heap.size < W.heap.size ∧ w.heap.size + 1 < W.heap.size ∧ (∀ i, W.frozen? ⟨w.heap.size + 1, i, none⟩ = false))) := hidA (fun W hW => by and_intros <;> first | exact cellA hW (by rw [← hw0]; simp [go_sem]) | exact (by have h0 := hW.size; have h1 := hsz; omega) | exact (fun i => (hW.frozen (p := ⟨w.heap.size + 1, i, none⟩) (show w.heap.size + 1 < w0.heap.size by have h1 := hsz; omega)).trans (by rw [← hw0]; simp [go_sem])))
  have Hw := hidA hw0; clear hw0
  go_enter Try.func43, Try.ntmps43
  go_wp2_with fail
  rw [Hw.out]
  clear Hw
  have HS : Hid (Below w0.heap.size w0 w0) := hidA (Below.refl _ _)
  obtain ⟨c0, c1, c2, c3, c4, c5, c6, z0, z1, fr1⟩ := PK.out _ HS.out
  have hsD := HS.out.drew
  go_region_held3 (fun w' => w'.cell? ⟨w.heap.size, 0, none⟩ = some (.int .i64 a.lo) ∧ w'.cell? ⟨w.heap.size, 1, none⟩ = some (.int .i64 a.hi) ∧ w'.cell? ⟨w.heap.size, 2, none⟩ = some (.int .i64 a.m) ∧ w'.cell? ⟨w.heap.size, 3, none⟩ = some (.int .i64 a.r) ∧ w'.cell? ⟨w.heap.size, 4, none⟩ = some (.int .i64 a.k) ∧ Below (w.heap.size + 1) w0 w')
    (first | with_reducible exact ⟨cellD c0, cellD c1, cellD c2, cellD c3, cellD c4, Below.mono hsD (by omega)⟩ | with_reducible exact ⟨(PK.out _ (by assumption)).1, (PK.out _ (by assumption)).2.1, (PK.out _ (by assumption)).2.2.1, (PK.out _ (by assumption)).2.2.2.1, (PK.out _ (by assumption)).2.2.2.2.1, Below.mono (by assumption) (by omega)⟩ | exact ⟨by simpa [go_sem] using (PK.out _ hs1).1, by simpa [go_sem] using (PK.out _ hs1).2.1, by simpa [go_sem] using (PK.out _ hs1).2.2.1, by simpa [go_sem] using (PK.out _ hs1).2.2.2.1, by simpa [go_sem] using (PK.out _ hs1).2.2.2.2.1, (((Below.mono hs1 (by omega)).setCell (by first | exact Nat.le_refl _ | (simp; done) | (simp; omega) | omega) _).setCell (by first | exact Nat.le_refl _ | (simp; done) | (simp; omega) | omega) _)⟩)
    (first
      | ((go_at_call 48; (with_reducible refine (C.out _).mono ?_); rintro e w1 ⟨rfl, hb1⟩; have hs1 : Below w0.heap.size w0 w1 := stepA (by assumption) hb1; obtain ⟨dc0, dc1, dc2, dc3, dc4, dc5, dc6, dz0, dz1, dfr1⟩ := PK.out _ hs1)))
  go_wp2
  exact bodyPost_ret (v := .agg #[.int .i64 a.lo, .int .i64 s]) (by simp [results, Try.results43, go_sem, dc5, dc6, dz1]) rfl ⟨by rfl, (by repeat (first | with_reducible exact Below.refl _ _ | with_reducible exact hs1 | with_reducible exact B0.out | with_reducible refine Below.setCell ?_ (by first | omega | simp <;> omega) _ | with_reducible refine Below.alloc ?_ (by first | omega | simp <;> omega) _ | with_reducible refine Below.drew ?_ | with_reducible refine drewnA ?_ _ | with_reducible refine Below.trans ?_ (hs1.mono (by first | omega | simp <;> omega)) | with_reducible refine Below.trans ?_ (B0.out.mono (by first | omega | simp <;> omega))))⟩
set_option maxHeartbeats 400000 in
theorem shas_zero (r m v : Int) (hv : Big (v - r)) (hm : 0 ≤ m) (h : (m == 0) = true) (w : World) :
    Calls Try.prog 44 #[.agg #[.int .i64 r, .int .i64 m], .int .i64 v] w fun e w' => e = .returned (.bool (v == r)) ∧ Below w.heap.size w w' := by
  obtain ⟨h3, h4⟩ := hv
  go_enter Try.func44, Try.ntmps44
  go_wp2
  go_ret
  exact ⟨rfl, (by repeat (first | with_reducible exact Below.refl _ _ | with_reducible refine Below.setCell ?_ (by first | omega | simp <;> omega) _ | with_reducible refine Below.alloc ?_ (by first | omega | simp <;> omega) _ | with_reducible refine Below.drew ?_ | with_reducible refine drewnA ?_ _))⟩
set_option maxHeartbeats 400000 in
theorem shas_more (r m v : Int) (hv : Big (v - r)) (hm : 0 ≤ m) (h : (m == 0) = false) (h2 : ¬ m = 0) (w : World) :
    Calls Try.prog 44 #[.agg #[.int .i64 r, .int .i64 m], .int .i64 v] w fun e w' => e = .returned (.bool ((v - r).tmod m == 0)) ∧ Below w.heap.size w w' := by
  obtain ⟨h3, h4⟩ := hv
  go_enter Try.func44, Try.ntmps44
  go_wp2
  go_ret
  exact ⟨rfl, (by repeat (first | with_reducible exact Below.refl _ _ | with_reducible refine Below.setCell ?_ (by first | omega | simp <;> omega) _ | with_reducible refine Below.alloc ?_ (by first | omega | simp <;> omega) _ | with_reducible refine Below.drew ?_ | with_reducible refine drewnA ?_ _))⟩
theorem chas_any (r m v : Int) (hv : Big (v - r)) (hm : 0 ≤ m) (w : World) :
    Calls Try.prog 44 #[.agg #[.int .i64 r, .int .i64 m], .int .i64 v] w fun e w' => e = .returned (.bool (decide (m ∣ v - r))) ∧ Below w.heap.size w w' := by
  by_cases h : m = 0
  · have e : decide (m ∣ v - r) = (v == r) := by
      subst h
      rw [decide_eq_decide.2 (show ((0 : Int) ∣ v - r) ↔ v = r by rw [zero_dvd_iff']; omega)]
      rfl
    rw [e]
    exact shas_zero r m v hv hm (by simpa using h) w
  · have e : decide (m ∣ v - r) = ((v - r).tmod m == 0) := by
      rw [decide_eq_decide.2 (show m ∣ v - r ↔ (v - r).tmod m = 0 from ⟨fun d => Int.tmod_eq_zero_of_dvd d, fun d => Int.dvd_of_tmod_eq_zero d⟩)]
      rfl
    rw [e]
    exact shas_more r m v hv hm (by simpa using h) h w
set_option maxHeartbeats 1000000 in
theorem sof_any (v k : Int) (w : World) :
    Calls Try.prog 16 #[.agg #[.int .i64 v, .int .i64 k]] w fun e w' => e = .returned (.agg #[.int .i64 v, .int .i64 v, .int .i64 1, .int .i64 0, .int .i64 k]) ∧ Below w.heap.size w w' := by
  go_enter Try.func16, Try.ntmps16
  go_wp2
  exact bodyPost_ret (v := .agg #[.int .i64 v, .int .i64 v, .int .i64 1, .int .i64 0, .int .i64 k]) (by simp [results, Try.results16, go_sem]) rfl ⟨by rfl, (by repeat (first | with_reducible exact Below.refl _ _ | with_reducible refine Below.setCell ?_ (by first | omega | simp <;> omega) _ | with_reducible refine Below.alloc ?_ (by first | omega | simp <;> omega) _ | with_reducible refine Below.drew ?_ | with_reducible refine drewnA ?_ _))⟩
set_option maxHeartbeats 1000000 in
theorem sin_any (l h k : Int) (w : World) :
    Calls Try.prog 26 #[.agg #[.int .i64 l, .int .i64 h, .int .i64 k]] w fun e w' => e = .returned (.agg #[.int .i64 l, .int .i64 h, .int .i64 1, .int .i64 0, .int .i64 k]) ∧ Below w.heap.size w w' := by
  go_enter Try.func26, Try.ntmps26
  go_wp2
  exact bodyPost_ret (v := .agg #[.int .i64 l, .int .i64 h, .int .i64 1, .int .i64 0, .int .i64 k]) (by simp [results, Try.results26, go_sem]) rfl ⟨by rfl, (by repeat (first | with_reducible exact Below.refl _ _ | with_reducible refine Below.setCell ?_ (by first | omega | simp <;> omega) _ | with_reducible refine Below.alloc ?_ (by first | omega | simp <;> omega) _ | with_reducible refine Below.drew ?_ | with_reducible refine drewnA ?_ _))⟩
set_option maxHeartbeats 1000000 in
theorem sall0_any (k : Int) (w : World) :
    Calls Try.prog 28 #[.int .i64 k] w fun e w' => e = .returned (.agg #[.int .i64 (-2147483648), .int .i64 2147483647, .int .i64 1, .int .i64 0, .int .i64 k]) ∧ Below w.heap.size w w' := by
  obtain ⟨w0, hw0⟩ : ∃ w0, (w.alloc (.cells #[.int .i64 0, .int .i64 0, .int .i64 0, .int .i64 0, .int .i64 0] 27)) = w0 := ⟨_, rfl⟩
  have B0 : Hid (Below w.heap.size w w0) := hidA (by rw [← hw0]; exact (alA (Below.refl _ _) _))
  have hsz : w.heap.size < w0.heap.size := by rw [← hw0]; simp
  have PK : Hid (∀ W, Below w0.heap.size w0 W → W.cell? ⟨w.heap.size, 0, none⟩ = some (.int .i64 0) ∧ W.cell? ⟨w.heap.size, 1, none⟩ = some (.int .i64 0) ∧ W.cell? ⟨w.heap.size, 2, none⟩ = some (.int .i64 0) ∧ W.cell? ⟨w.heap.size, 3, none⟩ = some (.int .i64 0) ∧ W.cell? ⟨w.heap.size, 4, none⟩ = some (.int .i64 0) ∧ w.heap.size < W.heap.size ∧ (∀ i, W.frozen? ⟨w.heap.size, i, none⟩ = false)) := hidA (fun W hW => by and_intros <;> first | exact cellA hW (by rw [← hw0]; simp [go_sem]) | exact (by have h0 := hW.size; have h1 := hsz; omega) | exact (fun i => (hW.frozen (p := ⟨w.heap.size, i, none⟩) (show w.heap.size < w0.heap.size by have h1 := hsz; omega)).trans (by rw [← hw0]; simp [go_sem])))
  have Hw := hidA hw0; clear hw0
  go_enter Try.func28, Try.ntmps28
  go_wp2_with fail
  rw [Hw.out]
  clear Hw
  have HS : Hid (Below w0.heap.size w0 w0) := hidA (Below.refl _ _)
  obtain ⟨c0, c1, c2, c3, c4, z0, fr0⟩ := PK.out _ HS.out
  go_wp2_with (go_at_call 26; (with_reducible refine (sin_any _ _ _ _).mono ?_); rintro e w1 ⟨rfl, hb⟩; have hs1 := stepA HS.out hb; clear hb; clear HS; have HS := hidA hs1; clear hs1 c0 c1 c2 c3 c4 z0 fr0; obtain ⟨c0, c1, c2, c3, c4, z0, fr0⟩ := PK.out _ HS.out)
  exact bodyPost_ret (v := .agg #[.int .i64 (-2147483648), .int .i64 2147483647, .int .i64 1, .int .i64 0, .int .i64 k]) (by simp [results, Try.results28, go_sem, c0, c1, c2, c3, c4, z0]) rfl ⟨by rfl, (by repeat (first | with_reducible exact Below.refl _ _ | with_reducible exact HS.out | with_reducible exact B0.out | with_reducible refine Below.setCell ?_ (by first | omega | simp <;> omega) _ | with_reducible refine Below.alloc ?_ (by first | omega | simp <;> omega) _ | with_reducible refine Below.drew ?_ | with_reducible refine drewnA ?_ _ | with_reducible refine Below.trans ?_ (HS.out.mono (by first | omega | simp <;> omega)) | with_reducible refine Below.trans ?_ (B0.out.mono (by first | omega | simp <;> omega))))⟩
end
end Go.Proofs.Ytdopjadlbhacfaa

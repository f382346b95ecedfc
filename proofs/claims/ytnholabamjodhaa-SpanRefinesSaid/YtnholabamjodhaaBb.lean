import Derived.Test.YtnholabamjodhaaBa
import Derived.Test.YtnholabamjodhaaAhs
namespace Go.Proofs.Ytnholabamjodhaa
open Go.RowKit Go.Instr Sp
set_option linter.unusedVariables false
set_option linter.unusedSimpArgs false

/-! span's own classes of numbers. -/
set_option maxHeartbeats 400000 in
theorem sstep_one (a : Ab) (h : (a.lo == a.hi) = true) (w : World) :
    Calls Try.prog 48 #[.agg #[.int .i64 a.lo, .int .i64 a.hi, .int .i64 a.m, .int .i64 a.r, .int .i64 a.k]] w fun e w' => e = .returned (.int .i64 0) ∧ Below w.heap.size w w' := by
  go_enter Try.func48, Try.ntmps48
  go_wp2
  go_ret
  exact ⟨rfl, (by repeat (first | with_reducible exact Below.refl _ _ | with_reducible refine Below.setCell ?_ (by first | omega | (dsimp only; omega) | (simp; done) | (simp; omega)) _ | with_reducible refine Below.alloc ?_ (by first | omega | (dsimp only; omega) | (simp; done) | (simp; omega)) _ | with_reducible refine Below.drew ?_ | with_reducible refine drewnA ?_ _))⟩
set_option maxHeartbeats 400000 in
theorem sstep_more (a : Ab) (h : (a.lo == a.hi) = false) (w : World) :
    Calls Try.prog 48 #[.agg #[.int .i64 a.lo, .int .i64 a.hi, .int .i64 a.m, .int .i64 a.r, .int .i64 a.k]] w fun e w' => e = .returned (.int .i64 a.m) ∧ Below w.heap.size w w' := by
  go_enter Try.func48, Try.ntmps48
  go_wp2
  go_ret
  exact ⟨rfl, (by repeat (first | with_reducible exact Below.refl _ _ | with_reducible refine Below.setCell ?_ (by first | omega | (dsimp only; omega) | (simp; done) | (simp; omega)) _ | with_reducible refine Below.alloc ?_ (by first | omega | (dsimp only; omega) | (simp; done) | (simp; omega)) _ | with_reducible refine Below.drew ?_ | with_reducible refine drewnA ?_ _))⟩
theorem sstep_any (a : Ab) (w : World) :
    Calls Try.prog 48 #[.agg #[.int .i64 a.lo, .int .i64 a.hi, .int .i64 a.m, .int .i64 a.r, .int .i64 a.k]] w fun e w' => e = .returned (.int .i64 (stp a)) ∧ Below w.heap.size w w' := by
  by_cases h : a.lo = a.hi
  · rw [show stp a = 0 from if_pos h]; exact sstep_one a (by simpa using h) w
  · rw [show stp a = a.m from if_neg h]; exact sstep_more a (by simpa using h) w
theorem smod_b (a m : Int) (ha : Big a) (hm : 1 ≤ m) (hm2 : m ≤ 9223372036854775807) (w : World) :
    Calls Try.prog 76 #[.int .i64 a, .int .i64 m] w fun e w' => e = .returned (.int .i64 (a % m)) ∧ Below w.heap.size w w' :=
  (smod_any a m ha hm hm2 w).mono (by rintro e w1 ⟨rfl, rfl⟩; exact ⟨rfl, Below.refl _ _⟩)
set_option maxHeartbeats 1000000 in
theorem sclassOf_any (a : Ab) (w : World) :
    Calls Try.prog 43 #[.agg #[.int .i64 a.lo, .int .i64 a.hi, .int .i64 a.m, .int .i64 a.r, .int .i64 a.k]] w fun e w' => e = .returned (.agg #[.int .i64 a.lo, .int .i64 (stp a)]) ∧ Below w.heap.size w w' := by
  have C := hidA (fun w => sstep_any a w)
  generalize stp a = s at *
  obtain ⟨w0, hw0⟩ : ∃ w0, ((w.alloc (.cells #[.int .i64 a.lo, .int .i64 a.hi, .int .i64 a.m, .int .i64 a.r, .int .i64 a.k] 27)).alloc (.cells #[.int .i64 0, .int .i64 0] 69)) = w0 := ⟨_, rfl⟩
  have B0 : Hid (Below w.heap.size w w0) := hidA (by rw [← hw0]; exact (((Below.refl _ _).alloc (by first | exact Nat.le_refl _ | (simp; done) | (simp; omega) | omega) _).alloc (by first | exact Nat.le_refl _ | (simp; done) | (simp; omega) | omega) _))
  have hsz : w.heap.size + 1 < w0.heap.size := by rw [← hw0]; simp
  have PK : Hid (∀ W, Below w0.heap.size w0 W → W.cell? ⟨w.heap.size, 0, none⟩ = some (.int .i64 a.lo) ∧ W.cell? ⟨w.heap.size, 1, none⟩ = some (.int .i64 a.hi) ∧ W.cell? ⟨w.heap.size, 2, none⟩ = some (.int .i64 a.m) ∧ W.cell? ⟨w.heap.size, 3, none⟩ = some (.int .i64 a.r) ∧ W.cell? ⟨w.heap.size, 4, none⟩ = some (.int .i64 a.k) ∧ W.cell? ⟨w.heap.size + 1, 0, none⟩ = some (.int .i64 0) ∧ W.cell? ⟨w.heap.size + 1, 1, none⟩ = some (.int .i64 0) ∧ w.heap.size < W.heap.size ∧ w.heap.size + 1 < W.heap.size ∧ (∀ i, W.frozen? ⟨w.heap.size + 1, i, none⟩ = false)) := hidA (fun W hW => ⟨cellA hW (by rw [← hw0]; simp [go_sem]), cellA hW (by rw [← hw0]; simp [go_sem]), cellA hW (by rw [← hw0]; simp [go_sem]), cellA hW (by rw [← hw0]; simp [go_sem]), cellA hW (by rw [← hw0]; simp [go_sem]), cellA hW (by rw [← hw0]; simp [go_sem]), cellA hW (by rw [← hw0]; simp [go_sem]), (by have h0 := hW.size; have h1 := hsz; omega), (by have h0 := hW.size; have h1 := hsz; omega), (fun i => (hW.frozen (p := ⟨w.heap.size + 1, i, none⟩) (show w.heap.size + 1 < w0.heap.size by have h1 := hsz; omega)).trans (by rw [← hw0]; simp [go_sem]))⟩)
  have Hw := hidA hw0; clear hw0
  go_enter Try.func43, Try.ntmps43
  go_wp2_with fail
  rw [Hw.out]
  clear Hw
  have HS : Hid (Below w0.heap.size w0 w0) := hidA (Below.refl _ _)
  obtain ⟨c0, c1, c2, c3, c4, c5, c6, z0, z1, fr1⟩ := PK.out _ HS.out
  have hsD := HS.out.drew
  go_region_held3 (fun w' => w'.cell? ⟨w.heap.size, 0, none⟩ = some (.int .i64 a.lo) ∧ w'.cell? ⟨w.heap.size, 1, none⟩ = some (.int .i64 a.hi) ∧ w'.cell? ⟨w.heap.size, 2, none⟩ = some (.int .i64 a.m) ∧ w'.cell? ⟨w.heap.size, 3, none⟩ = some (.int .i64 a.r) ∧ w'.cell? ⟨w.heap.size, 4, none⟩ = some (.int .i64 a.k) ∧ Below (w.heap.size + 1) w0 w')
    (first | with_reducible exact ⟨cellD c0, cellD c1, cellD c2, cellD c3, cellD c4, Below.mono hsD (by omega)⟩ | with_reducible exact ⟨(PK.out _ (by assumption)).1, (PK.out _ (by assumption)).2.1, (PK.out _ (by assumption)).2.2.1, (PK.out _ (by assumption)).2.2.2.1, (PK.out _ (by assumption)).2.2.2.2.1, Below.mono (by assumption) (by omega)⟩ | exact ⟨by simpa [go_sem] using (PK.out _ hs1).1, by simpa [go_sem] using (PK.out _ hs1).2.1, by simpa [go_sem] using (PK.out _ hs1).2.2.1, by simpa [go_sem] using (PK.out _ hs1).2.2.2.1, by simpa [go_sem] using (PK.out _ hs1).2.2.2.2.1, (((Below.mono hs1 (by omega)).setCell (by first | exact Nat.le_refl _ | (simp; done) | (simp; omega) | omega) _).setCell (by first | exact Nat.le_refl _ | (simp; done) | (simp; omega) | omega) _)⟩)
    (first
      | ((go_at_call 48; (with_reducible refine (C.out _).mono ?_); rintro e w1 ⟨rfl, hb1⟩; have hs1 : Below w0.heap.size w0 w1 := stepA (by assumption) hb1; obtain ⟨dc0, dc1, dc2, dc3, dc4, dc5, dc6, dz0, dz1, dfr1⟩ := PK.out _ hs1)))
  go_wp2
  exact bodyPost_ret (v := .agg #[.int .i64 a.lo, .int .i64 s]) (by simp [results, Try.results43, go_sem, dc5, dc6, dz1]) rfl ⟨by rfl, (by repeat (first | with_reducible exact Below.refl _ _ | with_reducible exact hs1 | with_reducible exact B0.out | with_reducible refine Below.setCell ?_ (by first | omega | (dsimp only; omega) | (simp; done) | (simp; omega)) _ | with_reducible refine Below.alloc ?_ (by first | omega | (dsimp only; omega) | (simp; done) | (simp; omega)) _ | with_reducible refine Below.drew ?_ | with_reducible refine drewnA ?_ _ | with_reducible refine Below.trans ?_ (hs1.mono (by first | omega | (dsimp only; omega) | (simp; done) | (simp; omega))) | with_reducible refine Below.trans ?_ (B0.out.mono (by first | omega | (dsimp only; omega) | (simp; done) | (simp; omega)))))⟩
set_option maxHeartbeats 400000 in
theorem shas_zero (r m v : Int) (hv : Big (v - r)) (hm : 0 ≤ m) (h : (m == 0) = true) (w : World) :
    Calls Try.prog 44 #[.agg #[.int .i64 r, .int .i64 m], .int .i64 v] w fun e w' => e = .returned (.bool (v == r)) ∧ Below w.heap.size w w' := by
  obtain ⟨h3, h4⟩ := hv
  go_enter Try.func44, Try.ntmps44
  go_wp2
  go_ret
  exact ⟨rfl, (by repeat (first | with_reducible exact Below.refl _ _ | with_reducible refine Below.setCell ?_ (by first | omega | (dsimp only; omega) | (simp; done) | (simp; omega)) _ | with_reducible refine Below.alloc ?_ (by first | omega | (dsimp only; omega) | (simp; done) | (simp; omega)) _ | with_reducible refine Below.drew ?_ | with_reducible refine drewnA ?_ _))⟩
set_option maxHeartbeats 400000 in
theorem shas_more (r m v : Int) (hv : Big (v - r)) (hm : 0 ≤ m) (h : (m == 0) = false) (h2 : ¬ m = 0) (w : World) :
    Calls Try.prog 44 #[.agg #[.int .i64 r, .int .i64 m], .int .i64 v] w fun e w' => e = .returned (.bool ((v - r).tmod m == 0)) ∧ Below w.heap.size w w' := by
  obtain ⟨h3, h4⟩ := hv
  go_enter Try.func44, Try.ntmps44
  go_wp2
  go_ret
  exact ⟨rfl, (by repeat (first | with_reducible exact Below.refl _ _ | with_reducible refine Below.setCell ?_ (by first | omega | (dsimp only; omega) | (simp; done) | (simp; omega)) _ | with_reducible refine Below.alloc ?_ (by first | omega | (dsimp only; omega) | (simp; done) | (simp; omega)) _ | with_reducible refine Below.drew ?_ | with_reducible refine drewnA ?_ _))⟩
theorem chas_any (r m v : Int) (hv : Big (v - r)) (hm : 0 ≤ m) (w : World) :
    Calls Try.prog 44 #[.agg #[.int .i64 r, .int .i64 m], .int .i64 v] w fun e w' => e = .returned (.bool (decide (m ∣ v - r))) ∧ Below w.heap.size w w' := by
  by_cases h : m = 0
  · have e : decide (m ∣ v - r) = (v == r) := by
      subst h
      rw [decide_eq_decide.2 (show ((0 : Int) ∣ v - r) ↔ v = r by rw [zero_dvd_iff']; omega)]
      rfl
    rw [e]
    exact shas_zero r m v hv hm (by simpa using h) w
  · have e : decide (m ∣ v - r) = ((v - r).tmod m == 0) := by
      rw [decide_eq_decide.2 (show m ∣ v - r ↔ (v - r).tmod m = 0 from ⟨fun d => Int.tmod_eq_zero_of_dvd d, fun d => Int.dvd_of_tmod_eq_zero d⟩)]
      rfl
    rw [e]
    exact shas_more r m v hv hm (by simpa using h) h w
set_option maxHeartbeats 1000000 in
theorem sof_any (v k : Int) (w : World) :
    Calls Try.prog 16 #[.agg #[.int .i64 v, .int .i64 k]] w fun e w' => e = .returned (.agg #[.int .i64 v, .int .i64 v, .int .i64 1, .int .i64 0, .int .i64 k]) ∧ Below w.heap.size w w' := by
  go_enter Try.func16, Try.ntmps16
  go_wp2
  exact bodyPost_ret (v := .agg #[.int .i64 v, .int .i64 v, .int .i64 1, .int .i64 0, .int .i64 k]) (by simp [results, Try.results16, go_sem]) rfl ⟨by rfl, (by repeat (first | with_reducible exact Below.refl _ _ | with_reducible refine Below.setCell ?_ (by first | omega | (dsimp only; omega) | (simp; done) | (simp; omega)) _ | with_reducible refine Below.alloc ?_ (by first | omega | (dsimp only; omega) | (simp; done) | (simp; omega)) _ | with_reducible refine Below.drew ?_ | with_reducible refine drewnA ?_ _))⟩
set_option maxHeartbeats 1000000 in
theorem sin_any (l h k : Int) (w : World) :
    Calls Try.prog 26 #[.agg #[.int .i64 l, .int .i64 h, .int .i64 k]] w fun e w' => e = .returned (.agg #[.int .i64 l, .int .i64 h, .int .i64 1, .int .i64 0, .int .i64 k]) ∧ Below w.heap.size w w' := by
  go_enter Try.func26, Try.ntmps26
  go_wp2
  exact bodyPost_ret (v := .agg #[.int .i64 l, .int .i64 h, .int .i64 1, .int .i64 0, .int .i64 k]) (by simp [results, Try.results26, go_sem]) rfl ⟨by rfl, (by repeat (first | with_reducible exact Below.refl _ _ | with_reducible refine Below.setCell ?_ (by first | omega | (dsimp only; omega) | (simp; done) | (simp; omega)) _ | with_reducible refine Below.alloc ?_ (by first | omega | (dsimp only; omega) | (simp; done) | (simp; omega)) _ | with_reducible refine Below.drew ?_ | with_reducible refine drewnA ?_ _))⟩
set_option maxHeartbeats 1000000 in
theorem sall0_any (k : Int) (w : World) :
    Calls Try.prog 28 #[.int .i64 k] w fun e w' => e = .returned (.agg #[.int .i64 (-2147483648), .int .i64 2147483647, .int .i64 1, .int .i64 0, .int .i64 k]) ∧ Below w.heap.size w w' := by
  obtain ⟨w0, hw0⟩ : ∃ w0, (w.alloc (.cells #[.int .i64 0, .int .i64 0, .int .i64 0, .int .i64 0, .int .i64 0] 27)) = w0 := ⟨_, rfl⟩
  have B0 : Hid (Below w.heap.size w w0) := hidA (by rw [← hw0]; exact ((Below.refl _ _).alloc (by first | exact Nat.le_refl _ | (simp; done) | (simp; omega) | omega) _))
  have hsz : w.heap.size < w0.heap.size := by rw [← hw0]; simp
  have PK : Hid (∀ W, Below w0.heap.size w0 W → W.cell? ⟨w.heap.size, 0, none⟩ = some (.int .i64 0) ∧ W.cell? ⟨w.heap.size, 1, none⟩ = some (.int .i64 0) ∧ W.cell? ⟨w.heap.size, 2, none⟩ = some (.int .i64 0) ∧ W.cell? ⟨w.heap.size, 3, none⟩ = some (.int .i64 0) ∧ W.cell? ⟨w.heap.size, 4, none⟩ = some (.int .i64 0) ∧ w.heap.size < W.heap.size ∧ (∀ i, W.frozen? ⟨w.heap.size, i, none⟩ = false)) := hidA (fun W hW => ⟨cellA hW (by rw [← hw0]; simp [go_sem]), cellA hW (by rw [← hw0]; simp [go_sem]), cellA hW (by rw [← hw0]; simp [go_sem]), cellA hW (by rw [← hw0]; simp [go_sem]), cellA hW (by rw [← hw0]; simp [go_sem]), (by have h0 := hW.size; have h1 := hsz; omega), (fun i => (hW.frozen (p := ⟨w.heap.size, i, none⟩) (show w.heap.size < w0.heap.size by have h1 := hsz; omega)).trans (by rw [← hw0]; simp [go_sem]))⟩)
  have Hw := hidA hw0; clear hw0
  go_enter Try.func28, Try.ntmps28
  go_wp2_with fail
  rw [Hw.out]
  clear Hw
  have HS : Hid (Below w0.heap.size w0 w0) := hidA (Below.refl _ _)
  obtain ⟨c0, c1, c2, c3, c4, z0, fr0⟩ := PK.out _ HS.out
  go_wp2_with (go_at_call 26; (with_reducible refine (sin_any _ _ _ _).mono ?_); rintro e w1 ⟨rfl, hb⟩; have hs1 := stepA HS.out hb; clear hb; have HS' := hidA hs1; clear HS hs1; clear c0 c1 c2 c3 c4 z0 fr0; have HS := HS'; clear HS'; obtain ⟨c0, c1, c2, c3, c4, z0, fr0⟩ := PK.out _ HS.out)
  exact bodyPost_ret (v := .agg #[.int .i64 (-2147483648), .int .i64 2147483647, .int .i64 1, .int .i64 0, .int .i64 k]) (by simp [results, Try.results28, go_sem, c0, c1, c2, c3, c4, z0]) rfl ⟨by rfl, (by repeat (first | with_reducible exact Below.refl _ _ | with_reducible exact HS.out | with_reducible exact B0.out | with_reducible refine Below.setCell ?_ (by first | omega | (dsimp only; omega) | (simp; done) | (simp; omega)) _ | with_reducible refine Below.alloc ?_ (by first | omega | (dsimp only; omega) | (simp; done) | (simp; omega)) _ | with_reducible refine Below.drew ?_ | with_reducible refine drewnA ?_ _ | with_reducible refine Below.trans ?_ (HS.out.mono (by first | omega | (dsimp only; omega) | (simp; done) | (simp; omega))) | with_reducible refine Below.trans ?_ (B0.out.mono (by first | omega | (dsimp only; omega) | (simp; done) | (simp; omega)))))⟩
end Go.Proofs.Ytnholabamjodhaa

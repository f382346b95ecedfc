import Derived.Test.YtnholabamjodhaaAhs
namespace Go.Proofs.Ytnholabamjodhaa
open Go.RowKit Go.Instr Sp
set_option linter.unusedVariables false
set_option linter.unusedSimpArgs false

/-! The reference's parts of sets: clip, apart, inverse. -/
set_option maxHeartbeats 1000000 in
theorem clip_yes (a : Ab) (A : Val a) (V : Ab) (lo hi L H Z : Int) (mx : (if a.lo < lo then lo else a.lo) = L) (mn : (if hi < a.hi then hi else a.hi) = H) (l1 : -4294967296 ≤ L) (l2 : L ≤ 4294967296) (hm : 1 ≤ a.m) (hm2 : a.m ≤ 4294967296) (hz : (a.lo - L) % a.m = Z) (z0 : 0 ≤ Z) (z1 : Z < a.m) (hc : ¬ H < L + Z) (BYC : Hid (∀ w, Calls Try.prog 46 #[.int .i64 (L + Z), .int .i64 H, .int .i64 a.m, .int .i64 a.k] w fun e w' => e = .returned (.agg #[.int .i64 V.lo, .int .i64 V.hi, .int .i64 V.m, .int .i64 V.r, .int .i64 V.k]) ∧ Below w.heap.size w w')) (w : World) :
    Calls Try.prog 91 #[.agg #[.int .i64 a.lo, .int .i64 a.hi, .int .i64 a.m, .int .i64 a.r, .int .i64 a.k], .int .i64 lo, .int .i64 hi] w fun e w' => e = .returned (.agg #[.int .i64 V.lo, .int .i64 V.hi, .int .i64 V.m, .int .i64 V.r, .int .i64 V.k, .bool true]) ∧ Below w.heap.size w w' := by
  have al := A.l; have ah := A.h; have ao := A.o
  obtain ⟨w0, hw0⟩ : ∃ w0, ((w.alloc (.cells #[.int .i64 a.lo, .int .i64 a.hi, .int .i64 a.m, .int .i64 a.r, .int .i64 a.k] 27)).alloc (.cells #[.int .i64 0, .int .i64 0, .int .i64 0, .int .i64 0, .int .i64 0, .bool false] 37)) = w0 := ⟨_, rfl⟩
  have B0 : Hid (Below w.heap.size w w0) := hidA (by rw [← hw0]; exact (((Below.refl _ _).alloc (by first | exact Nat.le_refl _ | (simp; done) | (simp; omega) | omega) _).alloc (by first | exact Nat.le_refl _ | (simp; done) | (simp; omega) | omega) _))
  have hsz : w.heap.size + 1 < w0.heap.size := by rw [← hw0]; simp
  have PK : Hid (∀ W, Below w0.heap.size w0 W → W.cell? ⟨w.heap.size, 0, none⟩ = some (.int .i64 a.lo) ∧ W.cell? ⟨w.heap.size, 1, none⟩ = some (.int .i64 a.hi) ∧ W.cell? ⟨w.heap.size, 2, none⟩ = some (.int .i64 a.m) ∧ W.cell? ⟨w.heap.size, 3, none⟩ = some (.int .i64 a.r) ∧ W.cell? ⟨w.heap.size, 4, none⟩ = some (.int .i64 a.k) ∧ W.cell? ⟨w.heap.size + 1, 0, none⟩ = some (.int .i64 0) ∧ W.cell? ⟨w.heap.size + 1, 1, none⟩ = some (.int .i64 0) ∧ W.cell? ⟨w.heap.size + 1, 2, none⟩ = some (.int .i64 0) ∧ W.cell? ⟨w.heap.size + 1, 3, none⟩ = some (.int .i64 0) ∧ W.cell? ⟨w.heap.size + 1, 4, none⟩ = some (.int .i64 0) ∧ W.cell? ⟨w.heap.size + 1, 5, none⟩ = some (.bool false) ∧ w.heap.size < W.heap.size ∧ w.heap.size + 1 < W.heap.size ∧ (∀ i, W.frozen? ⟨w.heap.size + 1, i, none⟩ = false)) := hidA (fun W hW => ⟨cellA hW (by rw [← hw0]; simp [go_sem]), cellA hW (by rw [← hw0]; simp [go_sem]), cellA hW (by rw [← hw0]; simp [go_sem]), cellA hW (by rw [← hw0]; simp [go_sem]), cellA hW (by rw [← hw0]; simp [go_sem]), cellA hW (by rw [← hw0]; simp [go_sem]), cellA hW (by rw [← hw0]; simp [go_sem]), cellA hW (by rw [← hw0]; simp [go_sem]), cellA hW (by rw [← hw0]; simp [go_sem]), cellA hW (by rw [← hw0]; simp [go_sem]), cellA hW (by rw [← hw0]; simp [go_sem]), (by have h0 := hW.size; have h1 := hsz; omega), (by have h0 := hW.size; have h1 := hsz; omega), (fun i => (hW.frozen (p := ⟨w.heap.size + 1, i, none⟩) (show w.heap.size + 1 < w0.heap.size by have h1 := hsz; omega)).trans (by rw [← hw0]; simp [go_sem]))⟩)
  have Hw := hidA hw0; clear hw0
  go_enter Try.func91, Try.ntmps91
  go_wp2_with fail
  rw [Hw.out]
  clear Hw
  have HS : Hid (Below w0.heap.size w0 w0) := hidA (Below.refl _ _)
  obtain ⟨c0, c1, c2, c3, c4, c5, c6, c7, c8, c9, c10, z0, z1, fr1⟩ := PK.out _ HS.out
  go_wp2_with (first | (go_at_call 42; refine (mod_all _ _ (by omega) (by omega) _).mono ?_; rintro e w1 ⟨rfl, rfl⟩) | (go_at_call 46; (with_reducible refine (BYC.out _).mono ?_); rintro e w1 ⟨rfl, hb⟩; have hs1 := stepA HS.out hb; clear hb; have HS' := hidA hs1; clear HS hs1; clear c0 c1 c2 c3 c4 c5 c6 c7 c8 c9 c10 z0 z1 fr1; have HS := HS'; clear HS'; obtain ⟨c0, c1, c2, c3, c4, c5, c6, c7, c8, c9, c10, z0, z1, fr1⟩ := PK.out _ HS.out))
  exact bodyPost_ret (v := .agg #[.int .i64 V.lo, .int .i64 V.hi, .int .i64 V.m, .int .i64 V.r, .int .i64 V.k, .bool true]) (by simp [results, Try.results91, go_sem, c5, c6, c7, c8, c9, c10, z1]) rfl ⟨by rfl, (by repeat (first | with_reducible exact Below.refl _ _ | with_reducible exact HS.out | with_reducible exact B0.out | with_reducible refine Below.setCell ?_ (by first | omega | (dsimp only; omega) | (simp; done) | (simp; omega)) _ | with_reducible refine Below.alloc ?_ (by first | omega | (dsimp only; omega) | (simp; done) | (simp; omega)) _ | with_reducible refine Below.drew ?_ | with_reducible refine drewnA ?_ _ | with_reducible refine Below.trans ?_ (HS.out.mono (by first | omega | (dsimp only; omega) | (simp; done) | (simp; omega))) | with_reducible refine Below.trans ?_ (B0.out.mono (by first | omega | (dsimp only; omega) | (simp; done) | (simp; omega)))))⟩
set_option maxHeartbeats 1000000 in
theorem clip_no (a : Ab) (A : Val a) (V : Ab) (lo hi L H Z : Int) (mx : (if a.lo < lo then lo else a.lo) = L) (mn : (if hi < a.hi then hi else a.hi) = H) (l1 : -4294967296 ≤ L) (l2 : L ≤ 4294967296) (hm : 1 ≤ a.m) (hm2 : a.m ≤ 4294967296) (hz : (a.lo - L) % a.m = Z) (z0 : 0 ≤ Z) (z1 : Z < a.m) (hc : H < L + Z)  (w : World) :
    Calls Try.prog 91 #[.agg #[.int .i64 a.lo, .int .i64 a.hi, .int .i64 a.m, .int .i64 a.r, .int .i64 a.k], .int .i64 lo, .int .i64 hi] w fun e w' => e = .returned (.agg #[.int .i64 0, .int .i64 0, .int .i64 0, .int .i64 0, .int .i64 0, .bool false]) ∧ Below w.heap.size w w' := by
  have al := A.l; have ah := A.h; have ao := A.o
  obtain ⟨w0, hw0⟩ : ∃ w0, ((w.alloc (.cells #[.int .i64 a.lo, .int .i64 a.hi, .int .i64 a.m, .int .i64 a.r, .int .i64 a.k] 27)).alloc (.cells #[.int .i64 0, .int .i64 0, .int .i64 0, .int .i64 0, .int .i64 0, .bool false] 37)) = w0 := ⟨_, rfl⟩
  have B0 : Hid (Below w.heap.size w w0) := hidA (by rw [← hw0]; exact (((Below.refl _ _).alloc (by first | exact Nat.le_refl _ | (simp; done) | (simp; omega) | omega) _).alloc (by first | exact Nat.le_refl _ | (simp; done) | (simp; omega) | omega) _))
  have hsz : w.heap.size + 1 < w0.heap.size := by rw [← hw0]; simp
  have PK : Hid (∀ W, Below w0.heap.size w0 W → W.cell? ⟨w.heap.size, 0, none⟩ = some (.int .i64 a.lo) ∧ W.cell? ⟨w.heap.size, 1, none⟩ = some (.int .i64 a.hi) ∧ W.cell? ⟨w.heap.size, 2, none⟩ = some (.int .i64 a.m) ∧ W.cell? ⟨w.heap.size, 3, none⟩ = some (.int .i64 a.r) ∧ W.cell? ⟨w.heap.size, 4, none⟩ = some (.int .i64 a.k) ∧ W.cell? ⟨w.heap.size + 1, 0, none⟩ = some (.int .i64 0) ∧ W.cell? ⟨w.heap.size + 1, 1, none⟩ = some (.int .i64 0) ∧ W.cell? ⟨w.heap.size + 1, 2, none⟩ = some (.int .i64 0) ∧ W.cell? ⟨w.heap.size + 1, 3, none⟩ = some (.int .i64 0) ∧ W.cell? ⟨w.heap.size + 1, 4, none⟩ = some (.int .i64 0) ∧ W.cell? ⟨w.heap.size + 1, 5, none⟩ = some (.bool false) ∧ w.heap.size < W.heap.size ∧ w.heap.size + 1 < W.heap.size ∧ (∀ i, W.frozen? ⟨w.heap.size + 1, i, none⟩ = false)) := hidA (fun W hW => ⟨cellA hW (by rw [← hw0]; simp [go_sem]), cellA hW (by rw [← hw0]; simp [go_sem]), cellA hW (by rw [← hw0]; simp [go_sem]), cellA hW (by rw [← hw0]; simp [go_sem]), cellA hW (by rw [← hw0]; simp [go_sem]), cellA hW (by rw [← hw0]; simp [go_sem]), cellA hW (by rw [← hw0]; simp [go_sem]), cellA hW (by rw [← hw0]; simp [go_sem]), cellA hW (by rw [← hw0]; simp [go_sem]), cellA hW (by rw [← hw0]; simp [go_sem]), cellA hW (by rw [← hw0]; simp [go_sem]), (by have h0 := hW.size; have h1 := hsz; omega), (by have h0 := hW.size; have h1 := hsz; omega), (fun i => (hW.frozen (p := ⟨w.heap.size + 1, i, none⟩) (show w.heap.size + 1 < w0.heap.size by have h1 := hsz; omega)).trans (by rw [← hw0]; simp [go_sem]))⟩)
  have Hw := hidA hw0; clear hw0
  go_enter Try.func91, Try.ntmps91
  go_wp2_with fail
  rw [Hw.out]
  clear Hw
  have HS : Hid (Below w0.heap.size w0 w0) := hidA (Below.refl _ _)
  obtain ⟨c0, c1, c2, c3, c4, c5, c6, c7, c8, c9, c10, z0, z1, fr1⟩ := PK.out _ HS.out
  go_wp2_with (first | (go_at_call 42; refine (mod_all _ _ (by omega) (by omega) _).mono ?_; rintro e w1 ⟨rfl, rfl⟩))
  exact bodyPost_ret (v := .agg #[.int .i64 0, .int .i64 0, .int .i64 0, .int .i64 0, .int .i64 0, .bool false]) (by simp [results, Try.results91, go_sem, c5, c6, c7, c8, c9, c10, z1]) rfl ⟨by rfl, (by repeat (first | with_reducible exact Below.refl _ _ | with_reducible exact HS.out | with_reducible exact B0.out | with_reducible refine Below.setCell ?_ (by first | omega | (dsimp only; omega) | (simp; done) | (simp; omega)) _ | with_reducible refine Below.alloc ?_ (by first | omega | (dsimp only; omega) | (simp; done) | (simp; omega)) _ | with_reducible refine Below.drew ?_ | with_reducible refine drewnA ?_ _ | with_reducible refine Below.trans ?_ (HS.out.mono (by first | omega | (dsimp only; omega) | (simp; done) | (simp; omega))) | with_reducible refine Below.trans ?_ (B0.out.mono (by first | omega | (dsimp only; omega) | (simp; done) | (simp; omega)))))⟩
/-- What 'clip' and others return: a set, and whether there is one. -/
theorem clip_any (a : Ab) (A : Val a) (lo hi : Int) (h1 : -2147483650 ≤ lo) (h2 : lo ≤ 2147483650) (h3 : -2147483650 ≤ hi) (h4 : hi ≤ 2147483650) (w : World) :
    Calls Try.prog 91 #[.agg #[.int .i64 a.lo, .int .i64 a.hi, .int .i64 a.m, .int .i64 a.r, .int .i64 a.k], .int .i64 lo, .int .i64 hi] w fun e w' => e = .returned (.agg #[.int .i64 (clipA a lo hi).lo, .int .i64 (clipA a lo hi).hi, .int .i64 (clipA a lo hi).m, .int .i64 (clipA a lo hi).r, .int .i64 (clipA a lo hi).k, .bool (clipIs a lo hi)]) ∧ Below w.heap.size w w' := by
  have al := A.l; have ah := A.h; have ao := A.o
  have hm := m_pos A
  have wb := (val_wb A).m2
  have l1 := Int.emod_nonneg (a.lo - max a.lo lo) (show a.m ≠ 0 by omega)
  have l2 := Int.emod_lt_of_pos (a.lo - max a.lo lo) (show 0 < a.m by omega)
  have ec : clipLo a lo = max a.lo lo + (a.lo - max a.lo lo) % a.m := rfl
  by_cases c : clipLo a lo ≤ min a.hi hi
  · rw [show clipIs a lo hi = true from decide_eq_true c, show clipA a lo hi = byA (clipLo a lo) (min a.hi hi) a.m a.k from if_pos c]
    have C := hidA (fun w => by_any (clipLo a lo) (min a.hi hi) a.m a.k ⟨c, by omega, by omega⟩ ⟨by omega, by omega, by omega⟩ w)
    rw [ec] at C c ⊢
    exact clip_yes a A _ lo hi (max a.lo lo) (min a.hi hi) _ (by split <;> omega) (by split <;> omega) (by omega) (by omega) hm wb rfl l1 l2 (by omega) C w
  · rw [show clipIs a lo hi = false from decide_eq_false c, show clipA a lo hi = ⟨0, 0, 0, 0, 0⟩ from if_neg c]
    rw [ec] at c
    exact clip_no a A a lo hi (max a.lo lo) (min a.hi hi) _ (by split <;> omega) (by split <;> omega) (by omega) (by omega) hm wb rfl l1 l2 (by omega) w
set_option maxHeartbeats 1000000 in
theorem apart_set (a b : Ab) (A : Val a) (B : Val b) (V : Ab) (i : Bool) (hs : (stp b == 0) = false) (hs2 : (stp b != 0) = true) (w : World) :
    Calls Try.prog 65 #[.agg #[.int .i64 a.lo, .int .i64 a.hi, .int .i64 a.m, .int .i64 a.r, .int .i64 a.k], .agg #[.int .i64 b.lo, .int .i64 b.hi, .int .i64 b.m, .int .i64 b.r, .int .i64 b.k]] w fun e w' => e = .returned (.agg #[.int .i64 a.lo, .int .i64 a.hi, .int .i64 a.m, .int .i64 a.r, .int .i64 a.k, .bool true]) ∧ Below w.heap.size w w' := by
  have al := A.l; have ah := A.h; have ao := A.o
  have bl := B.l; have bh := B.h; have bo := B.o
  obtain ⟨w0, hw0⟩ : ∃ w0, (((w.alloc (.cells #[.int .i64 a.lo, .int .i64 a.hi, .int .i64 a.m, .int .i64 a.r, .int .i64 a.k] 27)).alloc (.cells #[.int .i64 b.lo, .int .i64 b.hi, .int .i64 b.m, .int .i64 b.r, .int .i64 b.k] 27)).alloc (.cells #[.int .i64 0, .int .i64 0, .int .i64 0, .int .i64 0, .int .i64 0, .bool false] 37)) = w0 := ⟨_, rfl⟩
  have B0 : Hid (Below w.heap.size w w0) := hidA (by rw [← hw0]; exact ((((Below.refl _ _).alloc (by first | exact Nat.le_refl _ | (simp; done) | (simp; omega) | omega) _).alloc (by first | exact Nat.le_refl _ | (simp; done) | (simp; omega) | omega) _).alloc (by first | exact Nat.le_refl _ | (simp; done) | (simp; omega) | omega) _))
  have hsz : w.heap.size + 1 + 1 < w0.heap.size := by rw [← hw0]; simp
  have PK : Hid (∀ W, Below w0.heap.size w0 W → W.cell? ⟨w.heap.size, 0, none⟩ = some (.int .i64 a.lo) ∧ W.cell? ⟨w.heap.size, 1, none⟩ = some (.int .i64 a.hi) ∧ W.cell? ⟨w.heap.size, 2, none⟩ = some (.int .i64 a.m) ∧ W.cell? ⟨w.heap.size, 3, none⟩ = some (.int .i64 a.r) ∧ W.cell? ⟨w.heap.size, 4, none⟩ = some (.int .i64 a.k) ∧ W.cell? ⟨w.heap.size + 1, 0, none⟩ = some (.int .i64 b.lo) ∧ W.cell? ⟨w.heap.size + 1, 1, none⟩ = some (.int .i64 b.hi) ∧ W.cell? ⟨w.heap.size + 1, 2, none⟩ = some (.int .i64 b.m) ∧ W.cell? ⟨w.heap.size + 1, 3, none⟩ = some (.int .i64 b.r) ∧ W.cell? ⟨w.heap.size + 1, 4, none⟩ = some (.int .i64 b.k) ∧ W.cell? ⟨w.heap.size + 1 + 1, 0, none⟩ = some (.int .i64 0) ∧ W.cell? ⟨w.heap.size + 1 + 1, 1, none⟩ = some (.int .i64 0) ∧ W.cell? ⟨w.heap.size + 1 + 1, 2, none⟩ = some (.int .i64 0) ∧ W.cell? ⟨w.heap.size + 1 + 1, 3, none⟩ = some (.int .i64 0) ∧ W.cell? ⟨w.heap.size + 1 + 1, 4, none⟩ = some (.int .i64 0) ∧ W.cell? ⟨w.heap.size + 1 + 1, 5, none⟩ = some (.bool false) ∧ w.heap.size < W.heap.size ∧ w.heap.size + 1 < W.heap.size ∧ w.heap.size + 1 + 1 < W.heap.size ∧ (∀ i, W.frozen? ⟨w.heap.size + 1 + 1, i, none⟩ = false)) := hidA (fun W hW => ⟨cellA hW (by rw [← hw0]; simp [go_sem]), cellA hW (by rw [← hw0]; simp [go_sem]), cellA hW (by rw [← hw0]; simp [go_sem]), cellA hW (by rw [← hw0]; simp [go_sem]), cellA hW (by rw [← hw0]; simp [go_sem]), cellA hW (by rw [← hw0]; simp [go_sem]), cellA hW (by rw [← hw0]; simp [go_sem]), cellA hW (by rw [← hw0]; simp [go_sem]), cellA hW (by rw [← hw0]; simp [go_sem]), cellA hW (by rw [← hw0]; simp [go_sem]), cellA hW (by rw [← hw0]; simp [go_sem]), cellA hW (by rw [← hw0]; simp [go_sem]), cellA hW (by rw [← hw0]; simp [go_sem]), cellA hW (by rw [← hw0]; simp [go_sem]), cellA hW (by rw [← hw0]; simp [go_sem]), cellA hW (by rw [← hw0]; simp [go_sem]), (by have h0 := hW.size; have h1 := hsz; omega), (by have h0 := hW.size; have h1 := hsz; omega), (by have h0 := hW.size; have h1 := hsz; omega), (fun i => (hW.frozen (p := ⟨w.heap.size + 1 + 1, i, none⟩) (show w.heap.size + 1 + 1 < w0.heap.size by have h1 := hsz; omega)).trans (by rw [← hw0]; simp [go_sem]))⟩)
  have Hw := hidA hw0; clear hw0
  go_enter Try.func65, Try.ntmps65
  go_wp2_with fail
  rw [Hw.out]
  clear Hw
  have HS : Hid (Below w0.heap.size w0 w0) := hidA (Below.refl _ _)
  obtain ⟨c0, c1, c2, c3, c4, c5, c6, c7, c8, c9, c10, c11, c12, c13, c14, c15, z0, z1, z2, fr2⟩ := PK.out _ HS.out
  go_wp2_with (first | (go_at_call 50; (with_reducible refine (step_any _ _).mono ?_); rintro e w1 ⟨rfl, hb⟩; have hs1 := stepA HS.out hb; clear hb; have HS' := hidA hs1; clear HS hs1; clear c0 c1 c2 c3 c4 c5 c6 c7 c8 c9 c10 c11 c12 c13 c14 c15 z0 z1 z2 fr2; have HS := HS'; clear HS'; obtain ⟨c0, c1, c2, c3, c4, c5, c6, c7, c8, c9, c10, c11, c12, c13, c14, c15, z0, z1, z2, fr2⟩ := PK.out _ HS.out))
  exact bodyPost_ret (v := .agg #[.int .i64 a.lo, .int .i64 a.hi, .int .i64 a.m, .int .i64 a.r, .int .i64 a.k, .bool true]) (by simp [results, Try.results65, go_sem, c10, c11, c12, c13, c14, c15, z2]) rfl ⟨by rfl, (by repeat (first | with_reducible exact Below.refl _ _ | with_reducible exact HS.out | with_reducible exact B0.out | with_reducible refine Below.setCell ?_ (by first | omega | (dsimp only; omega) | (simp; done) | (simp; omega)) _ | with_reducible refine Below.alloc ?_ (by first | omega | (dsimp only; omega) | (simp; done) | (simp; omega)) _ | with_reducible refine Below.drew ?_ | with_reducible refine drewnA ?_ _ | with_reducible refine Below.trans ?_ (HS.out.mono (by first | omega | (dsimp only; omega) | (simp; done) | (simp; omega))) | with_reducible refine Below.trans ?_ (B0.out.mono (by first | omega | (dsimp only; omega) | (simp; done) | (simp; omega)))))⟩
set_option maxHeartbeats 1000000 in
theorem apart_lo (a b : Ab) (A : Val a) (B : Val b) (V : Ab) (i : Bool) (hs : (stp b == 0) = true) (hs2 : (stp b != 0) = false) (h1 : (a.lo == b.lo) = true) (CC : Hid (∀ w, Calls Try.prog 91 #[.agg #[.int .i64 a.lo, .int .i64 a.hi, .int .i64 a.m, .int .i64 a.r, .int .i64 a.k], .int .i64 (a.lo + 1), .int .i64 2147483647] w fun e w' => e = .returned (.agg #[.int .i64 V.lo, .int .i64 V.hi, .int .i64 V.m, .int .i64 V.r, .int .i64 V.k, .bool i]) ∧ Below w.heap.size w w')) (w : World) :
    Calls Try.prog 65 #[.agg #[.int .i64 a.lo, .int .i64 a.hi, .int .i64 a.m, .int .i64 a.r, .int .i64 a.k], .agg #[.int .i64 b.lo, .int .i64 b.hi, .int .i64 b.m, .int .i64 b.r, .int .i64 b.k]] w fun e w' => e = .returned (.agg #[.int .i64 V.lo, .int .i64 V.hi, .int .i64 V.m, .int .i64 V.r, .int .i64 V.k, .bool i]) ∧ Below w.heap.size w w' := by
  have al := A.l; have ah := A.h; have ao := A.o
  have bl := B.l; have bh := B.h; have bo := B.o
  obtain ⟨w0, hw0⟩ : ∃ w0, (((w.alloc (.cells #[.int .i64 a.lo, .int .i64 a.hi, .int .i64 a.m, .int .i64 a.r, .int .i64 a.k] 27)).alloc (.cells #[.int .i64 b.lo, .int .i64 b.hi, .int .i64 b.m, .int .i64 b.r, .int .i64 b.k] 27)).alloc (.cells #[.int .i64 0, .int .i64 0, .int .i64 0, .int .i64 0, .int .i64 0, .bool false] 37)) = w0 := ⟨_, rfl⟩
  have B0 : Hid (Below w.heap.size w w0) := hidA (by rw [← hw0]; exact ((((Below.refl _ _).alloc (by first | exact Nat.le_refl _ | (simp; done) | (simp; omega) | omega) _).alloc (by first | exact Nat.le_refl _ | (simp; done) | (simp; omega) | omega) _).alloc (by first | exact Nat.le_refl _ | (simp; done) | (simp; omega) | omega) _))
  have hsz : w.heap.size + 1 + 1 < w0.heap.size := by rw [← hw0]; simp
  have PK : Hid (∀ W, Below w0.heap.size w0 W → W.cell? ⟨w.heap.size, 0, none⟩ = some (.int .i64 a.lo) ∧ W.cell? ⟨w.heap.size, 1, none⟩ = some (.int .i64 a.hi) ∧ W.cell? ⟨w.heap.size, 2, none⟩ = some (.int .i64 a.m) ∧ W.cell? ⟨w.heap.size, 3, none⟩ = some (.int .i64 a.r) ∧ W.cell? ⟨w.heap.size, 4, none⟩ = some (.int .i64 a.k) ∧ W.cell? ⟨w.heap.size + 1, 0, none⟩ = some (.int .i64 b.lo) ∧ W.cell? ⟨w.heap.size + 1, 1, none⟩ = some (.int .i64 b.hi) ∧ W.cell? ⟨w.heap.size + 1, 2, none⟩ = some (.int .i64 b.m) ∧ W.cell? ⟨w.heap.size + 1, 3, none⟩ = some (.int .i64 b.r) ∧ W.cell? ⟨w.heap.size + 1, 4, none⟩ = some (.int .i64 b.k) ∧ W.cell? ⟨w.heap.size + 1 + 1, 0, none⟩ = some (.int .i64 0) ∧ W.cell? ⟨w.heap.size + 1 + 1, 1, none⟩ = some (.int .i64 0) ∧ W.cell? ⟨w.heap.size + 1 + 1, 2, none⟩ = some (.int .i64 0) ∧ W.cell? ⟨w.heap.size + 1 + 1, 3, none⟩ = some (.int .i64 0) ∧ W.cell? ⟨w.heap.size + 1 + 1, 4, none⟩ = some (.int .i64 0) ∧ W.cell? ⟨w.heap.size + 1 + 1, 5, none⟩ = some (.bool false) ∧ w.heap.size < W.heap.size ∧ w.heap.size + 1 < W.heap.size ∧ w.heap.size + 1 + 1 < W.heap.size ∧ (∀ i, W.frozen? ⟨w.heap.size + 1 + 1, i, none⟩ = false)) := hidA (fun W hW => ⟨cellA hW (by rw [← hw0]; simp [go_sem]), cellA hW (by rw [← hw0]; simp [go_sem]), cellA hW (by rw [← hw0]; simp [go_sem]), cellA hW (by rw [← hw0]; simp [go_sem]), cellA hW (by rw [← hw0]; simp [go_sem]), cellA hW (by rw [← hw0]; simp [go_sem]), cellA hW (by rw [← hw0]; simp [go_sem]), cellA hW (by rw [← hw0]; simp [go_sem]), cellA hW (by rw [← hw0]; simp [go_sem]), cellA hW (by rw [← hw0]; simp [go_sem]), cellA hW (by rw [← hw0]; simp [go_sem]), cellA hW (by rw [← hw0]; simp [go_sem]), cellA hW (by rw [← hw0]; simp [go_sem]), cellA hW (by rw [← hw0]; simp [go_sem]), cellA hW (by rw [← hw0]; simp [go_sem]), cellA hW (by rw [← hw0]; simp [go_sem]), (by have h0 := hW.size; have h1 := hsz; omega), (by have h0 := hW.size; have h1 := hsz; omega), (by have h0 := hW.size; have h1 := hsz; omega), (fun i => (hW.frozen (p := ⟨w.heap.size + 1 + 1, i, none⟩) (show w.heap.size + 1 + 1 < w0.heap.size by have h1 := hsz; omega)).trans (by rw [← hw0]; simp [go_sem]))⟩)
  have Hw := hidA hw0; clear hw0
  go_enter Try.func65, Try.ntmps65
  go_wp2_with fail
  rw [Hw.out]
  clear Hw
  have HS : Hid (Below w0.heap.size w0 w0) := hidA (Below.refl _ _)
  obtain ⟨c0, c1, c2, c3, c4, c5, c6, c7, c8, c9, c10, c11, c12, c13, c14, c15, z0, z1, z2, fr2⟩ := PK.out _ HS.out
  go_wp2_with (first | (go_at_call 50; (with_reducible refine (step_any _ _).mono ?_); rintro e w1 ⟨rfl, hb⟩; have hs1 := stepA HS.out hb; clear hb; have HS' := hidA hs1; clear HS hs1; clear c0 c1 c2 c3 c4 c5 c6 c7 c8 c9 c10 c11 c12 c13 c14 c15 z0 z1 z2 fr2; have HS := HS'; clear HS'; obtain ⟨c0, c1, c2, c3, c4, c5, c6, c7, c8, c9, c10, c11, c12, c13, c14, c15, z0, z1, z2, fr2⟩ := PK.out _ HS.out) | (go_at_call 91; (with_reducible refine (CC.out _).mono ?_); rintro e w1 ⟨rfl, hb⟩; have hs1 := stepA HS.out hb; clear hb; have HS' := hidA hs1; clear HS hs1; clear c0 c1 c2 c3 c4 c5 c6 c7 c8 c9 c10 c11 c12 c13 c14 c15 z0 z1 z2 fr2; have HS := HS'; clear HS'; obtain ⟨c0, c1, c2, c3, c4, c5, c6, c7, c8, c9, c10, c11, c12, c13, c14, c15, z0, z1, z2, fr2⟩ := PK.out _ HS.out))
  exact bodyPost_ret (v := .agg #[.int .i64 V.lo, .int .i64 V.hi, .int .i64 V.m, .int .i64 V.r, .int .i64 V.k, .bool i]) (by simp [results, Try.results65, go_sem, c10, c11, c12, c13, c14, c15, z2]) rfl ⟨by rfl, (by repeat (first | with_reducible exact Below.refl _ _ | with_reducible exact HS.out | with_reducible exact B0.out | with_reducible refine Below.setCell ?_ (by first | omega | (dsimp only; omega) | (simp; done) | (simp; omega)) _ | with_reducible refine Below.alloc ?_ (by first | omega | (dsimp only; omega) | (simp; done) | (simp; omega)) _ | with_reducible refine Below.drew ?_ | with_reducible refine drewnA ?_ _ | with_reducible refine Below.trans ?_ (HS.out.mono (by first | omega | (dsimp only; omega) | (simp; done) | (simp; omega))) | with_reducible refine Below.trans ?_ (B0.out.mono (by first | omega | (dsimp only; omega) | (simp; done) | (simp; omega)))))⟩
set_option maxHeartbeats 1000000 in
theorem apart_hi (a b : Ab) (A : Val a) (B : Val b) (V : Ab) (i : Bool) (hs : (stp b == 0) = true) (hs2 : (stp b != 0) = false) (h1 : (a.lo == b.lo) = false) (h2 : (a.hi == b.lo) = true) (CC : Hid (∀ w, Calls Try.prog 91 #[.agg #[.int .i64 a.lo, .int .i64 a.hi, .int .i64 a.m, .int .i64 a.r, .int .i64 a.k], .int .i64 (-2147483648), .int .i64 (a.hi - 1)] w fun e w' => e = .returned (.agg #[.int .i64 V.lo, .int .i64 V.hi, .int .i64 V.m, .int .i64 V.r, .int .i64 V.k, .bool i]) ∧ Below w.heap.size w w')) (w : World) :
    Calls Try.prog 65 #[.agg #[.int .i64 a.lo, .int .i64 a.hi, .int .i64 a.m, .int .i64 a.r, .int .i64 a.k], .agg #[.int .i64 b.lo, .int .i64 b.hi, .int .i64 b.m, .int .i64 b.r, .int .i64 b.k]] w fun e w' => e = .returned (.agg #[.int .i64 V.lo, .int .i64 V.hi, .int .i64 V.m, .int .i64 V.r, .int .i64 V.k, .bool i]) ∧ Below w.heap.size w w' := by
  have al := A.l; have ah := A.h; have ao := A.o
  have bl := B.l; have bh := B.h; have bo := B.o
  obtain ⟨w0, hw0⟩ : ∃ w0, (((w.alloc (.cells #[.int .i64 a.lo, .int .i64 a.hi, .int .i64 a.m, .int .i64 a.r, .int .i64 a.k] 27)).alloc (.cells #[.int .i64 b.lo, .int .i64 b.hi, .int .i64 b.m, .int .i64 b.r, .int .i64 b.k] 27)).alloc (.cells #[.int .i64 0, .int .i64 0, .int .i64 0, .int .i64 0, .int .i64 0, .bool false] 37)) = w0 := ⟨_, rfl⟩
  have B0 : Hid (Below w.heap.size w w0) := hidA (by rw [← hw0]; exact ((((Below.refl _ _).alloc (by first | exact Nat.le_refl _ | (simp; done) | (simp; omega) | omega) _).alloc (by first | exact Nat.le_refl _ | (simp; done) | (simp; omega) | omega) _).alloc (by first | exact Nat.le_refl _ | (simp; done) | (simp; omega) | omega) _))
  have hsz : w.heap.size + 1 + 1 < w0.heap.size := by rw [← hw0]; simp
  have PK : Hid (∀ W, Below w0.heap.size w0 W → W.cell? ⟨w.heap.size, 0, none⟩ = some (.int .i64 a.lo) ∧ W.cell? ⟨w.heap.size, 1, none⟩ = some (.int .i64 a.hi) ∧ W.cell? ⟨w.heap.size, 2, none⟩ = some (.int .i64 a.m) ∧ W.cell? ⟨w.heap.size, 3, none⟩ = some (.int .i64 a.r) ∧ W.cell? ⟨w.heap.size, 4, none⟩ = some (.int .i64 a.k) ∧ W.cell? ⟨w.heap.size + 1, 0, none⟩ = some (.int .i64 b.lo) ∧ W.cell? ⟨w.heap.size + 1, 1, none⟩ = some (.int .i64 b.hi) ∧ W.cell? ⟨w.heap.size + 1, 2, none⟩ = some (.int .i64 b.m) ∧ W.cell? ⟨w.heap.size + 1, 3, none⟩ = some (.int .i64 b.r) ∧ W.cell? ⟨w.heap.size + 1, 4, none⟩ = some (.int .i64 b.k) ∧ W.cell? ⟨w.heap.size + 1 + 1, 0, none⟩ = some (.int .i64 0) ∧ W.cell? ⟨w.heap.size + 1 + 1, 1, none⟩ = some (.int .i64 0) ∧ W.cell? ⟨w.heap.size + 1 + 1, 2, none⟩ = some (.int .i64 0) ∧ W.cell? ⟨w.heap.size + 1 + 1, 3, none⟩ = some (.int .i64 0) ∧ W.cell? ⟨w.heap.size + 1 + 1, 4, none⟩ = some (.int .i64 0) ∧ W.cell? ⟨w.heap.size + 1 + 1, 5, none⟩ = some (.bool false) ∧ w.heap.size < W.heap.size ∧ w.heap.size + 1 < W.heap.size ∧ w.heap.size + 1 + 1 < W.heap.size ∧ (∀ i, W.frozen? ⟨w.heap.size + 1 + 1, i, none⟩ = false)) := hidA (fun W hW => ⟨cellA hW (by rw [← hw0]; simp [go_sem]), cellA hW (by rw [← hw0]; simp [go_sem]), cellA hW (by rw [← hw0]; simp [go_sem]), cellA hW (by rw [← hw0]; simp [go_sem]), cellA hW (by rw [← hw0]; simp [go_sem]), cellA hW (by rw [← hw0]; simp [go_sem]), cellA hW (by rw [← hw0]; simp [go_sem]), cellA hW (by rw [← hw0]; simp [go_sem]), cellA hW (by rw [← hw0]; simp [go_sem]), cellA hW (by rw [← hw0]; simp [go_sem]), cellA hW (by rw [← hw0]; simp [go_sem]), cellA hW (by rw [← hw0]; simp [go_sem]), cellA hW (by rw [← hw0]; simp [go_sem]), cellA hW (by rw [← hw0]; simp [go_sem]), cellA hW (by rw [← hw0]; simp [go_sem]), cellA hW (by rw [← hw0]; simp [go_sem]), (by have h0 := hW.size; have h1 := hsz; omega), (by have h0 := hW.size; have h1 := hsz; omega), (by have h0 := hW.size; have h1 := hsz; omega), (fun i => (hW.frozen (p := ⟨w.heap.size + 1 + 1, i, none⟩) (show w.heap.size + 1 + 1 < w0.heap.size by have h1 := hsz; omega)).trans (by rw [← hw0]; simp [go_sem]))⟩)
  have Hw := hidA hw0; clear hw0
  go_enter Try.func65, Try.ntmps65
  go_wp2_with fail
  rw [Hw.out]
  clear Hw
  have HS : Hid (Below w0.heap.size w0 w0) := hidA (Below.refl _ _)
  obtain ⟨c0, c1, c2, c3, c4, c5, c6, c7, c8, c9, c10, c11, c12, c13, c14, c15, z0, z1, z2, fr2⟩ := PK.out _ HS.out
  go_wp2_with (first | (go_at_call 50; (with_reducible refine (step_any _ _).mono ?_); rintro e w1 ⟨rfl, hb⟩; have hs1 := stepA HS.out hb; clear hb; have HS' := hidA hs1; clear HS hs1; clear c0 c1 c2 c3 c4 c5 c6 c7 c8 c9 c10 c11 c12 c13 c14 c15 z0 z1 z2 fr2; have HS := HS'; clear HS'; obtain ⟨c0, c1, c2, c3, c4, c5, c6, c7, c8, c9, c10, c11, c12, c13, c14, c15, z0, z1, z2, fr2⟩ := PK.out _ HS.out) | (go_at_call 91; (with_reducible refine (CC.out _).mono ?_); rintro e w1 ⟨rfl, hb⟩; have hs1 := stepA HS.out hb; clear hb; have HS' := hidA hs1; clear HS hs1; clear c0 c1 c2 c3 c4 c5 c6 c7 c8 c9 c10 c11 c12 c13 c14 c15 z0 z1 z2 fr2; have HS := HS'; clear HS'; obtain ⟨c0, c1, c2, c3, c4, c5, c6, c7, c8, c9, c10, c11, c12, c13, c14, c15, z0, z1, z2, fr2⟩ := PK.out _ HS.out))
  exact bodyPost_ret (v := .agg #[.int .i64 V.lo, .int .i64 V.hi, .int .i64 V.m, .int .i64 V.r, .int .i64 V.k, .bool i]) (by simp [results, Try.results65, go_sem, c10, c11, c12, c13, c14, c15, z2]) rfl ⟨by rfl, (by repeat (first | with_reducible exact Below.refl _ _ | with_reducible exact HS.out | with_reducible exact B0.out | with_reducible refine Below.setCell ?_ (by first | omega | (dsimp only; omega) | (simp; done) | (simp; omega)) _ | with_reducible refine Below.alloc ?_ (by first | omega | (dsimp only; omega) | (simp; done) | (simp; omega)) _ | with_reducible refine Below.drew ?_ | with_reducible refine drewnA ?_ _ | with_reducible refine Below.trans ?_ (HS.out.mono (by first | omega | (dsimp only; omega) | (simp; done) | (simp; omega))) | with_reducible refine Below.trans ?_ (B0.out.mono (by first | omega | (dsimp only; omega) | (simp; done) | (simp; omega)))))⟩
set_option maxHeartbeats 1000000 in
theorem apart_no (a b : Ab) (A : Val a) (B : Val b) (V : Ab) (i : Bool) (hs : (stp b == 0) = true) (hs2 : (stp b != 0) = false) (h1 : (a.lo == b.lo) = false) (h2 : (a.hi == b.lo) = false)  (w : World) :
    Calls Try.prog 65 #[.agg #[.int .i64 a.lo, .int .i64 a.hi, .int .i64 a.m, .int .i64 a.r, .int .i64 a.k], .agg #[.int .i64 b.lo, .int .i64 b.hi, .int .i64 b.m, .int .i64 b.r, .int .i64 b.k]] w fun e w' => e = .returned (.agg #[.int .i64 a.lo, .int .i64 a.hi, .int .i64 a.m, .int .i64 a.r, .int .i64 a.k, .bool true]) ∧ Below w.heap.size w w' := by
  have al := A.l; have ah := A.h; have ao := A.o
  have bl := B.l; have bh := B.h; have bo := B.o
  obtain ⟨w0, hw0⟩ : ∃ w0, (((w.alloc (.cells #[.int .i64 a.lo, .int .i64 a.hi, .int .i64 a.m, .int .i64 a.r, .int .i64 a.k] 27)).alloc (.cells #[.int .i64 b.lo, .int .i64 b.hi, .int .i64 b.m, .int .i64 b.r, .int .i64 b.k] 27)).alloc (.cells #[.int .i64 0, .int .i64 0, .int .i64 0, .int .i64 0, .int .i64 0, .bool false] 37)) = w0 := ⟨_, rfl⟩
  have B0 : Hid (Below w.heap.size w w0) := hidA (by rw [← hw0]; exact ((((Below.refl _ _).alloc (by first | exact Nat.le_refl _ | (simp; done) | (simp; omega) | omega) _).alloc (by first | exact Nat.le_refl _ | (simp; done) | (simp; omega) | omega) _).alloc (by first | exact Nat.le_refl _ | (simp; done) | (simp; omega) | omega) _))
  have hsz : w.heap.size + 1 + 1 < w0.heap.size := by rw [← hw0]; simp
  have PK : Hid (∀ W, Below w0.heap.size w0 W → W.cell? ⟨w.heap.size, 0, none⟩ = some (.int .i64 a.lo) ∧ W.cell? ⟨w.heap.size, 1, none⟩ = some (.int .i64 a.hi) ∧ W.cell? ⟨w.heap.size, 2, none⟩ = some (.int .i64 a.m) ∧ W.cell? ⟨w.heap.size, 3, none⟩ = some (.int .i64 a.r) ∧ W.cell? ⟨w.heap.size, 4, none⟩ = some (.int .i64 a.k) ∧ W.cell? ⟨w.heap.size + 1, 0, none⟩ = some (.int .i64 b.lo) ∧ W.cell? ⟨w.heap.size + 1, 1, none⟩ = some (.int .i64 b.hi) ∧ W.cell? ⟨w.heap.size + 1, 2, none⟩ = some (.int .i64 b.m) ∧ W.cell? ⟨w.heap.size + 1, 3, none⟩ = some (.int .i64 b.r) ∧ W.cell? ⟨w.heap.size + 1, 4, none⟩ = some (.int .i64 b.k) ∧ W.cell? ⟨w.heap.size + 1 + 1, 0, none⟩ = some (.int .i64 0) ∧ W.cell? ⟨w.heap.size + 1 + 1, 1, none⟩ = some (.int .i64 0) ∧ W.cell? ⟨w.heap.size + 1 + 1, 2, none⟩ = some (.int .i64 0) ∧ W.cell? ⟨w.heap.size + 1 + 1, 3, none⟩ = some (.int .i64 0) ∧ W.cell? ⟨w.heap.size + 1 + 1, 4, none⟩ = some (.int .i64 0) ∧ W.cell? ⟨w.heap.size + 1 + 1, 5, none⟩ = some (.bool false) ∧ w.heap.size < W.heap.size ∧ w.heap.size + 1 < W.heap.size ∧ w.heap.size + 1 + 1 < W.heap.size ∧ (∀ i, W.frozen? ⟨w.heap.size + 1 + 1, i, none⟩ = false)) := hidA (fun W hW => ⟨cellA hW (by rw [← hw0]; simp [go_sem]), cellA hW (by rw [← hw0]; simp [go_sem]), cellA hW (by rw [← hw0]; simp [go_sem]), cellA hW (by rw [← hw0]; simp [go_sem]), cellA hW (by rw [← hw0]; simp [go_sem]), cellA hW (by rw [← hw0]; simp [go_sem]), cellA hW (by rw [← hw0]; simp [go_sem]), cellA hW (by rw [← hw0]; simp [go_sem]), cellA hW (by rw [← hw0]; simp [go_sem]), cellA hW (by rw [← hw0]; simp [go_sem]), cellA hW (by rw [← hw0]; simp [go_sem]), cellA hW (by rw [← hw0]; simp [go_sem]), cellA hW (by rw [← hw0]; simp [go_sem]), cellA hW (by rw [← hw0]; simp [go_sem]), cellA hW (by rw [← hw0]; simp [go_sem]), cellA hW (by rw [← hw0]; simp [go_sem]), (by have h0 := hW.size; have h1 := hsz; omega), (by have h0 := hW.size; have h1 := hsz; omega), (by have h0 := hW.size; have h1 := hsz; omega), (fun i => (hW.frozen (p := ⟨w.heap.size + 1 + 1, i, none⟩) (show w.heap.size + 1 + 1 < w0.heap.size by have h1 := hsz; omega)).trans (by rw [← hw0]; simp [go_sem]))⟩)
  have Hw := hidA hw0; clear hw0
  go_enter Try.func65, Try.ntmps65
  go_wp2_with fail
  rw [Hw.out]
  clear Hw
  have HS : Hid (Below w0.heap.size w0 w0) := hidA (Below.refl _ _)
  obtain ⟨c0, c1, c2, c3, c4, c5, c6, c7, c8, c9, c10, c11, c12, c13, c14, c15, z0, z1, z2, fr2⟩ := PK.out _ HS.out
  go_wp2_with (first | (go_at_call 50; (with_reducible refine (step_any _ _).mono ?_); rintro e w1 ⟨rfl, hb⟩; have hs1 := stepA HS.out hb; clear hb; have HS' := hidA hs1; clear HS hs1; clear c0 c1 c2 c3 c4 c5 c6 c7 c8 c9 c10 c11 c12 c13 c14 c15 z0 z1 z2 fr2; have HS := HS'; clear HS'; obtain ⟨c0, c1, c2, c3, c4, c5, c6, c7, c8, c9, c10, c11, c12, c13, c14, c15, z0, z1, z2, fr2⟩ := PK.out _ HS.out))
  exact bodyPost_ret (v := .agg #[.int .i64 a.lo, .int .i64 a.hi, .int .i64 a.m, .int .i64 a.r, .int .i64 a.k, .bool true]) (by simp [results, Try.results65, go_sem, c10, c11, c12, c13, c14, c15, z2]) rfl ⟨by rfl, (by repeat (first | with_reducible exact Below.refl _ _ | with_reducible exact HS.out | with_reducible exact B0.out | with_reducible refine Below.setCell ?_ (by first | omega | (dsimp only; omega) | (simp; done) | (simp; omega)) _ | with_reducible refine Below.alloc ?_ (by first | omega | (dsimp only; omega) | (simp; done) | (simp; omega)) _ | with_reducible refine Below.drew ?_ | with_reducible refine drewnA ?_ _ | with_reducible refine Below.trans ?_ (HS.out.mono (by first | omega | (dsimp only; omega) | (simp; done) | (simp; omega))) | with_reducible refine Below.trans ?_ (B0.out.mono (by first | omega | (dsimp only; omega) | (simp; done) | (simp; omega)))))⟩
/-- A set without a value, if this is one of its ends. -/
def apIs (a b : Ab) : Bool := if stp b ≠ 0 then true else if a.lo = b.lo then clipIs a (a.lo + 1) 2147483647 else if a.hi = b.lo then clipIs a (-2147483648) (a.hi - 1) else true
def apA (a b : Ab) : Ab := if stp b ≠ 0 then a else if a.lo = b.lo then clipA a (a.lo + 1) 2147483647 else if a.hi = b.lo then clipA a (-2147483648) (a.hi - 1) else a
theorem ap_s {a b : Ab} (h : stp b ≠ 0) : apA a b = a ∧ apIs a b = true := ⟨if_pos h, if_pos h⟩
theorem ap_l {a b : Ab} (h : stp b = 0) (c : a.lo = b.lo) : apA a b = clipA a (a.lo + 1) 2147483647 ∧ apIs a b = clipIs a (a.lo + 1) 2147483647 := by
  unfold apA apIs
  exact ⟨(if_neg (fun g => g h)).trans (if_pos c), (if_neg (fun g => g h)).trans (if_pos c)⟩
theorem ap_h {a b : Ab} (h : stp b = 0) (c : ¬ a.lo = b.lo) (d : a.hi = b.lo) : apA a b = clipA a (-2147483648) (a.hi - 1) ∧ apIs a b = clipIs a (-2147483648) (a.hi - 1) := by
  unfold apA apIs
  exact ⟨(if_neg (fun g => g h)).trans ((if_neg c).trans (if_pos d)), (if_neg (fun g => g h)).trans ((if_neg c).trans (if_pos d))⟩
theorem ap_n {a b : Ab} (h : stp b = 0) (c : ¬ a.lo = b.lo) (d : ¬ a.hi = b.lo) : apA a b = a ∧ apIs a b = true := by
  unfold apA apIs
  exact ⟨(if_neg (fun g => g h)).trans ((if_neg c).trans (if_neg d)), (if_neg (fun g => g h)).trans ((if_neg c).trans (if_neg d))⟩
theorem apart_any (a b : Ab) (A : Val a) (B : Val b) (w : World) :
    Calls Try.prog 65 #[.agg #[.int .i64 a.lo, .int .i64 a.hi, .int .i64 a.m, .int .i64 a.r, .int .i64 a.k], .agg #[.int .i64 b.lo, .int .i64 b.hi, .int .i64 b.m, .int .i64 b.r, .int .i64 b.k]] w fun e w' => e = .returned (.agg #[.int .i64 (apA a b).lo, .int .i64 (apA a b).hi, .int .i64 (apA a b).m, .int .i64 (apA a b).r, .int .i64 (apA a b).k, .bool (apIs a b)]) ∧ Below w.heap.size w w' := by
  have al := A.l; have ah := A.h; have ao := A.o
  by_cases h : stp b = 0
  · have f1 : (stp b == 0) = true := by simpa using h
    have f2 : (stp b != 0) = false := by simpa using h
    by_cases c1 : a.lo = b.lo
    · rw [(ap_l h c1).1, (ap_l h c1).2]
      exact apart_lo a b A B _ _ f1 f2 (by simpa using c1) (hidA (fun w => clip_any a A _ _ (by omega) (by omega) (by omega) (by omega) w)) w
    · by_cases c2 : a.hi = b.lo
      · rw [(ap_h h c1 c2).1, (ap_h h c1 c2).2]
        exact apart_hi a b A B _ _ f1 f2 (by simpa using c1) (by simpa using c2) (hidA (fun w => clip_any a A _ _ (by omega) (by omega) (by omega) (by omega) w)) w
      · rw [(ap_n h c1 c2).1, (ap_n h c1 c2).2]
        exact apart_no a b A B a true f1 f2 (by simpa using c1) (by simpa using c2) w
  · rw [(ap_s h).1, (ap_s h).2]
    exact apart_set a b A B a true (by simpa using h) (by simpa using h) w
/-- what is left: its words -/
theorem ap_r {a b : Ab} (A : Val a) (B : Val b) : PartR a (fun v => ¬ (stp b = 0 ∧ v = b.lo ∧ (a.lo = b.lo ∨ a.hi = b.lo))) (apIs a b) (apA a b) := by
  by_cases h : stp b = 0
  · by_cases c1 : a.lo = b.lo
    · rw [(ap_l h c1).1, (ap_l h c1).2]
      refine part_iff (fun v hv => ?_) (clip_r A _ _)
      have := hv.1; have := hv.2.1; have := A.h
      constructor
      · rintro ⟨x, y⟩ ⟨_, e, _⟩; omega
      · intro g
        refine ⟨?_, by omega⟩
        rcases Int.lt_or_le a.lo v with c | c
        · omega
        · exact absurd ⟨h, by omega, Or.inl c1⟩ g
    · by_cases c2 : a.hi = b.lo
      · rw [(ap_h h c1 c2).1, (ap_h h c1 c2).2]
        refine part_iff (fun v hv => ?_) (clip_r A _ _)
        have := hv.1; have := hv.2.1; have := A.l
        constructor
        · rintro ⟨x, y⟩ ⟨_, e, _⟩; omega
        · intro g
          refine ⟨by omega, ?_⟩
          rcases Int.lt_or_le v a.hi with c | c
          · omega
          · exact absurd ⟨h, by omega, Or.inr c2⟩ g
      · rw [(ap_n h c1 c2).1, (ap_n h c1 c2).2]
        exact part_all A (fun v _ ⟨_, _, g⟩ => g.elim c1 c2)
  · rw [(ap_s h).1, (ap_s h).2]
    exact part_all A (fun v _ ⟨g, _⟩ => h g)
/-- The inverse that the steps find. -/
def invF (m : Int) : Nat → Int → Int → Int → Int → Int
  | 0, x, _, _, _ => x % m
  | n + 1, x, y, u, v => if v = 0 then x % m else invF m n y (x - u / v * y) v (u - u / v * v)
def inv (a m : Int) : Int := if m = 1 then 0 else invF m (m.toNat + 1) 1 0 (a % m) m
theorem invF_ok {a m : Int} (hm : 1 ≤ m) (hg : gc a m = 1) : ∀ (n : Nat) (x y u v : Int), EuI a m x y u v → v.toNat < n → m ∣ a * invF m n x y u v - 1 := by
  intro n
  induction n with
  | zero => intro x y u v _ h; omega
  | succ n ih =>
    intro x y u v H h
    unfold invF
    by_cases hv : v = 0
    · rw [if_pos hv]
      subst hv
      have hu : u = 1 := by
        have e := H.g
        rw [hg] at e
        rw [gc_nil H.u0] at e
        exact e
      have d1 := H.hx
      rw [hu] at d1
      have d2 : m ∣ x - x % m := Int.dvd_self_sub_emod ..
      have d3 := Int.dvd_sub d1 (Int.dvd_trans d2 (Int.dvd_mul_left a _))
      rw [Int.mul_sub] at d3
      rwa [show x * a - 1 - (a * x - a * (x % m)) = a * (x % m) - 1 by rw [Int.mul_comm x a]; omega] at d3
    · rw [if_neg hv]
      have N := eu_next H hv
      refine ih _ _ _ _ N ?_
      have v0 := H.v0
      have e := Int.mul_ediv_add_emod u v
      rw [Int.mul_comm] at e
      have l := Int.emod_lt_of_pos u (show 0 < v by omega)
      have l0 := Int.emod_nonneg u hv
      omega
theorem inv_ok {a m : Int} (hm : 1 ≤ m) (hg : gc a m = 1) : m ∣ a * inv a m - 1 := by
  unfold inv
  by_cases h : m = 1
  · rw [if_pos h, h]; exact Int.one_dvd _
  · rw [if_neg h]; exact invF_ok hm hg _ _ _ _ _ (eu_first hm) (by omega)
theorem eu_bd {a m x y u v : Int} (H : EuI a m x y u v) (hv : v ≠ 0) (hm : 1 ≤ m) : -m ≤ x ∧ x ≤ m := by
  have v0 := H.v0
  have u0 := H.u0
  rcases H.s with ⟨s1, s2, s3⟩ | ⟨s1, s2, s3⟩
  · have p := Int.mul_nonneg u0 s2
    have q := Int.mul_le_mul_of_nonneg_right (show 1 ≤ v by omega) (show 0 ≤ -x by omega)
    have q2 := Int.mul_neg v x
    omega
  · have p := Int.mul_nonneg u0 (show 0 ≤ -y by omega)
    rw [Int.mul_neg] at p
    have q := Int.mul_le_mul_of_nonneg_right (show 1 ≤ v by omega) s1
    omega
end Go.Proofs.Ytnholabamjodhaa

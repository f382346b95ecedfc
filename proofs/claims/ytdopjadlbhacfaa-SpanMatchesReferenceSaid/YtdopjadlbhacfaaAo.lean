import Derived.Test.YtdopjadlbhacfaaAa
namespace Go.Proofs.Ytdopjadlbhacfaa
section
open Go.RowKit Go.Instr Sp
set_option linter.unusedVariables false
set_option linter.unusedSimpArgs false

/-! The reference's parts of sets: clip, apart, inverse. -/
set_option maxHeartbeats 1000000 in
theorem clip_yes (a : Ab) (A : Val a) (V : Ab) (lo hi L H Z : Int) (mx : (if a.lo < lo then lo else a.lo) = L) (mn : (if hi < a.hi then hi else a.hi) = H) (l1 : -4294967296 ≤ L) (l2 : L ≤ 4294967296) (hm : 1 ≤ a.m) (hm2 : a.m ≤ 4294967296) (hz : (a.lo - L) % a.m = Z) (z0 : 0 ≤ Z) (z1 : Z < a.m) (hc : ¬ H < L + Z) (BYC : Hid (∀ w, Calls Try.prog 46 #[.int .i64 (L + Z), .int .i64 H, .int .i64 a.m, .int .i64 a.k] w fun e w' => e = .returned (.agg #[.int .i64 V.lo, .int .i64 V.hi, .int .i64 V.m, .int .i64 V.r, .int .i64 V.k]) ∧ Below w.heap.size w w')) (w : World) :
    Calls Try.prog 91 #[.agg #[.int .i64 a.lo, .int .i64 a.hi, .int .i64 a.m, .int .i64 a.r, .int .i64 a.k], .int .i64 lo, .int .i64 hi] w fun e w' => e = .returned (.agg #[.int .i64 V.lo, .int .i64 V.hi, .int .i64 V.m, .int .i64 V.r, .int .i64 V.k, .bool true]) ∧ Below w.heap.size w w' := by
  have al := A.l; have ah := A.h; have ao := A.o
  obtain ⟨w0, hw0⟩ : ∃ w0, ((w.alloc (.cells #[.int .i64 a.lo, .int .i64 a.hi, .int .i64 a.m, .int .i64 a.r, .int .i64 a.k] 27)).alloc (.cells #[.int .i64 0, .int .i64 0, .int .i64 0, .int .i64 0, .int .i64 0, .bool false] 37)) = w0 := ⟨_, rfl⟩
  have B0 : Hid (Below w.heap.size w w0) := hidA (by rw [← hw0]; exact (alA (alA (Below.refl _ _) _) _))
  have hsz : w.heap.size + 1 < w0.heap.size := by rw [← hw0]; simp
  have PK : Hid (∀ W, Below w0.heap.size w0 W → abF W (w.heap.size) a (W.cell? ⟨w.heap.size + 1, 0, none⟩ = some (.int .i64 0) ∧ W.cell? ⟨w.heap.size + 1, 1, none⟩ = some (.int .i64 0) ∧ W.cell? ⟨w.heap.size + 1, 2, none⟩ = some (.int .i64 0) ∧ W.cell? ⟨w.heap.size + 1, 3, none⟩ = some (.int .i64 0) ∧ W.cell? ⟨w.heap.size + 1, 4, none⟩ = some (.int .i64 0) ∧ W.cell? ⟨w.heap.size + 1, 5, none⟩ = some (.bool false) ∧ w.heap.size < W.heap.size ∧ w.heap.size + 1 < W.heap.size ∧ (∀ i, W.frozen? ⟨w.heap.size + 1, i, none⟩ = false))) := hidA (fun W hW => by and_intros <;> first | exact cellA hW (by rw [← hw0]; simp [go_sem]) | exact (by have h0 := hW.size; have h1 := hsz; omega) | exact (fun i => (hW.frozen (p := ⟨w.heap.size + 1, i, none⟩) (show w.heap.size + 1 < w0.heap.size by have h1 := hsz; omega)).trans (by rw [← hw0]; simp [go_sem])))
  have Hw := hidA hw0; clear hw0
  go_enter Try.func91, Try.ntmps91
  go_wp2_with fail
  rw [Hw.out]
  clear Hw
  have HS : Hid (Below w0.heap.size w0 w0) := hidA (Below.refl _ _)
  obtain ⟨c0, c1, c2, c3, c4, c5, c6, c7, c8, c9, c10, z0, z1, fr1⟩ := PK.out _ HS.out
  go_wp2_with (first | (go_at_call 42; refine (mod_all _ _ (by omega) (by omega) _).mono ?_; rintro e w1 ⟨rfl, rfl⟩) | (go_at_call 46; (with_reducible refine (BYC.out _).mono ?_); rintro e w1 ⟨rfl, hb⟩; have hs1 := stepA HS.out hb; clear hb; clear HS; have HS := hidA hs1; clear hs1 c0 c1 c2 c3 c4 c5 c6 c7 c8 c9 c10 z0 z1 fr1; obtain ⟨c0, c1, c2, c3, c4, c5, c6, c7, c8, c9, c10, z0, z1, fr1⟩ := PK.out _ HS.out))
  exact bodyPost_ret (v := .agg #[.int .i64 V.lo, .int .i64 V.hi, .int .i64 V.m, .int .i64 V.r, .int .i64 V.k, .bool true]) (by simp [results, Try.results91, go_sem, c5, c6, c7, c8, c9, c10, z1]) rfl ⟨by rfl, (by repeat (first | with_reducible exact Below.refl _ _ | with_reducible exact HS.out | with_reducible exact B0.out | with_reducible refine Below.setCell ?_ (by first | omega | simp <;> omega) _ | with_reducible refine Below.alloc ?_ (by first | omega | simp <;> omega) _ | with_reducible refine Below.drew ?_ | with_reducible refine drewnA ?_ _ | with_reducible refine Below.trans ?_ (HS.out.mono (by first | omega | simp <;> omega)) | with_reducible refine Below.trans ?_ (B0.out.mono (by first | omega | simp <;> omega))))⟩
set_option maxHeartbeats 1000000 in
theorem clip_no (a : Ab) (A : Val a) (V : Ab) (lo hi L H Z : Int) (mx : (if a.lo < lo then lo else a.lo) = L) (mn : (if hi < a.hi then hi else a.hi) = H) (l1 : -4294967296 ≤ L) (l2 : L ≤ 4294967296) (hm : 1 ≤ a.m) (hm2 : a.m ≤ 4294967296) (hz : (a.lo - L) % a.m = Z) (z0 : 0 ≤ Z) (z1 : Z < a.m) (hc : H < L + Z)  (w : World) :
    Calls Try.prog 91 #[.agg #[.int .i64 a.lo, .int .i64 a.hi, .int .i64 a.m, .int .i64 a.r, .int .i64 a.k], .int .i64 lo, .int .i64 hi] w fun e w' => e = .returned (.agg #[.int .i64 0, .int .i64 0, .int .i64 0, .int .i64 0, .int .i64 0, .bool false]) ∧ Below w.heap.size w w' := by
  have al := A.l; have ah := A.h; have ao := A.o
  obtain ⟨w0, hw0⟩ : ∃ w0, ((w.alloc (.cells #[.int .i64 a.lo, .int .i64 a.hi, .int .i64 a.m, .int .i64 a.r, .int .i64 a.k] 27)).alloc (.cells #[.int .i64 0, .int .i64 0, .int .i64 0, .int .i64 0, .int .i64 0, .bool false] 37)) = w0 := ⟨_, rfl⟩
  have B0 : Hid (Below w.heap.size w w0) := hidA (by rw [← hw0]; exact (alA (alA (Below.refl _ _) _) _))
  have hsz : w.heap.size + 1 < w0.heap.size := by rw [← hw0]; simp
  have PK : Hid (∀ W, Below w0.heap.size w0 W → abF W (w.heap.size) a (W.cell? ⟨w.heap.size + 1, 0, none⟩ = some (.int .i64 0) ∧ W.cell? ⟨w.heap.size + 1, 1, none⟩ = some (.int .i64 0) ∧ W.cell? ⟨w.heap.size + 1, 2, none⟩ = some (.int .i64 0) ∧ W.cell? ⟨w.heap.size + 1, 3, none⟩ = some (.int .i64 0) ∧ W.cell? ⟨w.heap.size + 1, 4, none⟩ = some (.int .i64 0) ∧ W.cell? ⟨w.heap.size + 1, 5, none⟩ = some (.bool false) ∧ w.heap.size < W.heap.size ∧ w.heap.size + 1 < W.heap.size ∧ (∀ i, W.frozen? ⟨w.heap.size + 1, i, none⟩ = false))) := hidA (fun W hW => by and_intros <;> first | exact cellA hW (by rw [← hw0]; simp [go_sem]) | exact (by have h0 := hW.size; have h1 := hsz; omega) | exact (fun i => (hW.frozen (p := ⟨w.heap.size + 1, i, none⟩) (show w.heap.size + 1 < w0.heap.size by have h1 := hsz; omega)).trans (by rw [← hw0]; simp [go_sem])))
  have Hw := hidA hw0; clear hw0
  go_enter Try.func91, Try.ntmps91
  go_wp2_with fail
  rw [Hw.out]
  clear Hw
  have HS : Hid (Below w0.heap.size w0 w0) := hidA (Below.refl _ _)
  obtain ⟨c0, c1, c2, c3, c4, c5, c6, c7, c8, c9, c10, z0, z1, fr1⟩ := PK.out _ HS.out
  go_wp2_with (first | (go_at_call 42; refine (mod_all _ _ (by omega) (by omega) _).mono ?_; rintro e w1 ⟨rfl, rfl⟩))
  exact bodyPost_ret (v := .agg #[.int .i64 0, .int .i64 0, .int .i64 0, .int .i64 0, .int .i64 0, .bool false]) (by simp [results, Try.results91, go_sem, c5, c6, c7, c8, c9, c10, z1]) rfl ⟨by rfl, (by repeat (first | with_reducible exact Below.refl _ _ | with_reducible exact HS.out | with_reducible exact B0.out | with_reducible refine Below.setCell ?_ (by first | omega | simp <;> omega) _ | with_reducible refine Below.alloc ?_ (by first | omega | simp <;> omega) _ | with_reducible refine Below.drew ?_ | with_reducible refine drewnA ?_ _ | with_reducible refine Below.trans ?_ (HS.out.mono (by first | omega | simp <;> omega)) | with_reducible refine Below.trans ?_ (B0.out.mono (by first | omega | simp <;> omega))))⟩
/-- What 'clip' and others return: a set, and whether there is one. -/
theorem clip_any (a : Ab) (A : Val a) (lo hi : Int) (h1 : -2147483650 ≤ lo) (h2 : lo ≤ 2147483650) (h3 : -2147483650 ≤ hi) (h4 : hi ≤ 2147483650) (w : World) :
    Calls Try.prog 91 #[.agg #[.int .i64 a.lo, .int .i64 a.hi, .int .i64 a.m, .int .i64 a.r, .int .i64 a.k], .int .i64 lo, .int .i64 hi] w fun e w' => e = .returned (.agg #[.int .i64 (clipA a lo hi).lo, .int .i64 (clipA a lo hi).hi, .int .i64 (clipA a lo hi).m, .int .i64 (clipA a lo hi).r, .int .i64 (clipA a lo hi).k, .bool (clipIs a lo hi)]) ∧ Below w.heap.size w w' := by
  have al := A.l; have ah := A.h; have ao := A.o
  have hm := m_pos A
  have wb := (val_wb A).m2
  have l1 := Int.emod_nonneg (a.lo - max a.lo lo) (show a.m ≠ 0 by omega)
  have l2 := Int.emod_lt_of_pos (a.lo - max a.lo lo) (show 0 < a.m by omega)
  have ec : clipLo a lo = max a.lo lo + (a.lo - max a.lo lo) % a.m := rfl
  by_cases c : clipLo a lo ≤ min a.hi hi
  · rw [show clipIs a lo hi = true from decide_eq_true c, show clipA a lo hi = byA (clipLo a lo) (min a.hi hi) a.m a.k from if_pos c]
    have C := hidA (fun w => by_any (clipLo a lo) (min a.hi hi) a.m a.k ⟨c, by omega, by omega⟩ ⟨by omega, by omega, by omega⟩ w)
    rw [ec] at C c ⊢
    exact clip_yes a A _ lo hi (max a.lo lo) (min a.hi hi) _ (by split <;> omega) (by split <;> omega) (by omega) (by omega) hm wb rfl l1 l2 (by omega) C w
  · rw [show clipIs a lo hi = false from decide_eq_false c, show clipA a lo hi = ⟨0, 0, 0, 0, 0⟩ from if_neg c]
    rw [ec] at c
    exact clip_no a A a lo hi (max a.lo lo) (min a.hi hi) _ (by split <;> omega) (by split <;> omega) (by omega) (by omega) hm wb rfl l1 l2 (by omega) w
set_option maxHeartbeats 1000000 in
theorem apart_set (a b : Ab) (A : Val a) (B : Val b) (V : Ab) (i : Bool) (hs : (stp b == 0) = false) (hs2 : (stp b != 0) = true) (w : World) :
    Calls Try.prog 65 #[.agg #[.int .i64 a.lo, .int .i64 a.hi, .int .i64 a.m, .int .i64 a.r, .int .i64 a.k], .agg #[.int .i64 b.lo, .int .i64 b.hi, .int .i64 b.m, .int .i64 b.r, .int .i64 b.k]] w fun e w' => e = .returned (.agg #[.int .i64 a.lo, .int .i64 a.hi, .int .i64 a.m, .int .i64 a.r, .int .i64 a.k, .bool true]) ∧ Below w.heap.size w w' := by
  have al := A.l; have ah := A.h; have ao := A.o
  have bl := B.l; have bh := B.h; have bo := B.o
  obtain ⟨w0, hw0⟩ : ∃ w0, (((w.alloc (.cells #[.int .i64 a.lo, .int .i64 a.hi, .int .i64 a.m, .int .i64 a.r, .int .i64 a.k] 27)).alloc (.cells #[.int .i64 b.lo, .int .i64 b.hi, .int .i64 b.m, .int .i64 b.r, .int .i64 b.k] 27)).alloc (.cells #[.int .i64 0, .int .i64 0, .int .i64 0, .int .i64 0, .int .i64 0, .bool false] 37)) = w0 := ⟨_, rfl⟩
  have B0 : Hid (Below w.heap.size w w0) := hidA (by rw [← hw0]; exact (alA (alA (alA (Below.refl _ _) _) _) _))
  have hsz : w.heap.size + 1 + 1 < w0.heap.size := by rw [← hw0]; simp
  have PK : Hid (∀ W, Below w0.heap.size w0 W → abF W (w.heap.size) a (abF W (w.heap.size + 1) b (W.cell? ⟨w.heap.size + 1 + 1, 0, none⟩ = some (.int .i64 0) ∧ W.cell? ⟨w.heap.size + 1 + 1, 1, none⟩ = some (.int .i64 0) ∧ W.cell? ⟨w.heap.size + 1 + 1, 2, none⟩ = some (.int .i64 0) ∧ W.cell? ⟨w.heap.size + 1 + 1, 3, none⟩ = some (.int .i64 0) ∧ W.cell? ⟨w.heap.size + 1 + 1, 4, none⟩ = some (.int .i64 0) ∧ W.cell? ⟨w.heap.size + 1 + 1, 5, none⟩ = some (.bool false) ∧ w.heap.size < W.heap.size ∧ w.heap.size + 1 < W.heap.size ∧ w.heap.size + 1 + 1 < W.heap.size ∧ (∀ i, W.frozen? ⟨w.heap.size + 1 + 1, i, none⟩ = false)))) := hidA (fun W hW => by and_intros <;> first | exact cellA hW (by rw [← hw0]; simp [go_sem]) | exact (by have h0 := hW.size; have h1 := hsz; omega) | exact (fun i => (hW.frozen (p := ⟨w.heap.size + 1 + 1, i, none⟩) (show w.heap.size + 1 + 1 < w0.heap.size by have h1 := hsz; omega)).trans (by rw [← hw0]; simp [go_sem])))
  have Hw := hidA hw0; clear hw0
  go_enter Try.func65, Try.ntmps65
  go_wp2_with fail
  rw [Hw.out]
  clear Hw
  have HS : Hid (Below w0.heap.size w0 w0) := hidA (Below.refl _ _)
  obtain ⟨c0, c1, c2, c3, c4, c5, c6, c7, c8, c9, c10, c11, c12, c13, c14, c15, z0, z1, z2, fr2⟩ := PK.out _ HS.out
  go_wp2_with (first | (go_at_call 50; (with_reducible refine (step_any _ _).mono ?_); rintro e w1 ⟨rfl, hb⟩; have hs1 := stepA HS.out hb; clear hb; clear HS; have HS := hidA hs1; clear hs1 c0 c1 c2 c3 c4 c5 c6 c7 c8 c9 c10 c11 c12 c13 c14 c15 z0 z1 z2 fr2; obtain ⟨c0, c1, c2, c3, c4, c5, c6, c7, c8, c9, c10, c11, c12, c13, c14, c15, z0, z1, z2, fr2⟩ := PK.out _ HS.out))
  exact bodyPost_ret (v := .agg #[.int .i64 a.lo, .int .i64 a.hi, .int .i64 a.m, .int .i64 a.r, .int .i64 a.k, .bool true]) (by simp [results, Try.results65, go_sem, c10, c11, c12, c13, c14, c15, z2]) rfl ⟨by rfl, (by repeat (first | with_reducible exact Below.refl _ _ | with_reducible exact HS.out | with_reducible exact B0.out | with_reducible refine Below.setCell ?_ (by first | omega | simp <;> omega) _ | with_reducible refine Below.alloc ?_ (by first | omega | simp <;> omega) _ | with_reducible refine Below.drew ?_ | with_reducible refine drewnA ?_ _ | with_reducible refine Below.trans ?_ (HS.out.mono (by first | omega | simp <;> omega)) | with_reducible refine Below.trans ?_ (B0.out.mono (by first | omega | simp <;> omega))))⟩
set_option maxHeartbeats 1000000 in
theorem core_apart_lo (a b : Ab) (A : Val a) (B : Val b) (V : Ab) (i : Bool) (hs : (stp b == 0) = true) (hs2 : (stp b != 0) = false) (HH : (((a.lo == b.lo) = true) ∧ (Hid (∀ w, Calls Try.prog 91 #[.agg #[.int .i64 a.lo, .int .i64 a.hi, .int .i64 a.m, .int .i64 a.r, .int .i64 a.k], .int .i64 (a.lo + 1), .int .i64 2147483647] w fun e w' => e = .returned (.agg #[.int .i64 V.lo, .int .i64 V.hi, .int .i64 V.m, .int .i64 V.r, .int .i64 V.k, .bool i]) ∧ Below w.heap.size w w'))) ∨ (((a.lo == b.lo) = false) ∧ ((a.hi == b.lo) = true) ∧ (Hid (∀ w, Calls Try.prog 91 #[.agg #[.int .i64 a.lo, .int .i64 a.hi, .int .i64 a.m, .int .i64 a.r, .int .i64 a.k], .int .i64 (-2147483648), .int .i64 (a.hi - 1)] w fun e w' => e = .returned (.agg #[.int .i64 V.lo, .int .i64 V.hi, .int .i64 V.m, .int .i64 V.r, .int .i64 V.k, .bool i]) ∧ Below w.heap.size w w')))) (w : World) :
    Calls Try.prog 65 #[.agg #[.int .i64 a.lo, .int .i64 a.hi, .int .i64 a.m, .int .i64 a.r, .int .i64 a.k], .agg #[.int .i64 b.lo, .int .i64 b.hi, .int .i64 b.m, .int .i64 b.r, .int .i64 b.k]] w fun e w' => e = .returned (.agg #[.int .i64 V.lo, .int .i64 V.hi, .int .i64 V.m, .int .i64 V.r, .int .i64 V.k, .bool i]) ∧ Below w.heap.size w w' := by
  rcases HH with ⟨h1, CC⟩ | ⟨h1, h2, CC⟩
  all_goals
    have al := A.l; have ah := A.h; have ao := A.o
    have bl := B.l; have bh := B.h; have bo := B.o
    obtain ⟨w0, hw0⟩ : ∃ w0, (((w.alloc (.cells #[.int .i64 a.lo, .int .i64 a.hi, .int .i64 a.m, .int .i64 a.r, .int .i64 a.k] 27)).alloc (.cells #[.int .i64 b.lo, .int .i64 b.hi, .int .i64 b.m, .int .i64 b.r, .int .i64 b.k] 27)).alloc (.cells #[.int .i64 0, .int .i64 0, .int .i64 0, .int .i64 0, .int .i64 0, .bool false] 37)) = w0 := ⟨_, rfl⟩
    have B0 : Hid (Below w.heap.size w w0) := hidA (by rw [← hw0]; exact (alA (alA (alA (Below.refl _ _) _) _) _))
    have hsz : w.heap.size + 1 + 1 < w0.heap.size := by rw [← hw0]; simp
    have PK : Hid (∀ W, Below w0.heap.size w0 W → abF W (w.heap.size) a (abF W (w.heap.size + 1) b (W.cell? ⟨w.heap.size + 1 + 1, 0, none⟩ = some (.int .i64 0) ∧ W.cell? ⟨w.heap.size + 1 + 1, 1, none⟩ = some (.int .i64 0) ∧ W.cell? ⟨w.heap.size + 1 + 1, 2, none⟩ = some (.int .i64 0) ∧ W.cell? ⟨w.heap.size + 1 + 1, 3, none⟩ = some (.int .i64 0) ∧ W.cell? ⟨w.heap.size + 1 + 1, 4, none⟩ = some (.int .i64 0) ∧ W.cell? ⟨w.heap.size + 1 + 1, 5, none⟩ = some (.bool false) ∧ w.heap.size < W.heap.size ∧ w.heap.size + 1 < W.heap.size ∧ w.heap.size + 1 + 1 < W.heap.size ∧ (∀ i, W.frozen? ⟨w.heap.size + 1 + 1, i, none⟩ = false)))) := hidA (fun W hW => by and_intros <;> first | exact cellA hW (by rw [← hw0]; simp [go_sem]) | exact (by have h0 := hW.size; have h1 := hsz; omega) | exact (fun i => (hW.frozen (p := ⟨w.heap.size + 1 + 1, i, none⟩) (show w.heap.size + 1 + 1 < w0.heap.size by have h1 := hsz; omega)).trans (by rw [← hw0]; simp [go_sem])))
    have Hw := hidA hw0; clear hw0
    go_enter Try.func65, Try.ntmps65
    go_wp2_with fail
    rw [Hw.out]
    clear Hw
    have HS : Hid (Below w0.heap.size w0 w0) := hidA (Below.refl _ _)
    obtain ⟨c0, c1, c2, c3, c4, c5, c6, c7, c8, c9, c10, c11, c12, c13, c14, c15, z0, z1, z2, fr2⟩ := PK.out _ HS.out
    go_wp2_with (first | (go_at_call 50; (with_reducible refine (step_any _ _).mono ?_); rintro e w1 ⟨rfl, hb⟩; have hs1 := stepA HS.out hb; clear hb; clear HS; have HS := hidA hs1; clear hs1 c0 c1 c2 c3 c4 c5 c6 c7 c8 c9 c10 c11 c12 c13 c14 c15 z0 z1 z2 fr2; obtain ⟨c0, c1, c2, c3, c4, c5, c6, c7, c8, c9, c10, c11, c12, c13, c14, c15, z0, z1, z2, fr2⟩ := PK.out _ HS.out) | (go_at_call 91; (with_reducible refine (CC.out _).mono ?_); rintro e w1 ⟨rfl, hb⟩; have hs1 := stepA HS.out hb; clear hb; clear HS; have HS := hidA hs1; clear hs1 c0 c1 c2 c3 c4 c5 c6 c7 c8 c9 c10 c11 c12 c13 c14 c15 z0 z1 z2 fr2; obtain ⟨c0, c1, c2, c3, c4, c5, c6, c7, c8, c9, c10, c11, c12, c13, c14, c15, z0, z1, z2, fr2⟩ := PK.out _ HS.out))
    exact bodyPost_ret (v := .agg #[.int .i64 V.lo, .int .i64 V.hi, .int .i64 V.m, .int .i64 V.r, .int .i64 V.k, .bool i]) (by simp [results, Try.results65, go_sem, c10, c11, c12, c13, c14, c15, z2]) rfl ⟨by rfl, (by repeat (first | with_reducible exact Below.refl _ _ | with_reducible exact HS.out | with_reducible exact B0.out | with_reducible refine Below.setCell ?_ (by first | omega | simp <;> omega) _ | with_reducible refine Below.alloc ?_ (by first | omega | simp <;> omega) _ | with_reducible refine Below.drew ?_ | with_reducible refine drewnA ?_ _ | with_reducible refine Below.trans ?_ (HS.out.mono (by first | omega | simp <;> omega)) | with_reducible refine Below.trans ?_ (B0.out.mono (by first | omega | simp <;> omega))))⟩
theorem apart_lo (a b : Ab) (A : Val a) (B : Val b) (V : Ab) (i : Bool) (hs : (stp b == 0) = true) (hs2 : (stp b != 0) = false) (h1 : (a.lo == b.lo) = true) (CC : Hid (∀ w, Calls Try.prog 91 #[.agg #[.int .i64 a.lo, .int .i64 a.hi, .int .i64 a.m, .int .i64 a.r, .int .i64 a.k], .int .i64 (a.lo + 1), .int .i64 2147483647] w fun e w' => e = .returned (.agg #[.int .i64 V.lo, .int .i64 V.hi, .int .i64 V.m, .int .i64 V.r, .int .i64 V.k, .bool i]) ∧ Below w.heap.size w w')) (w : World) :
    Calls Try.prog 65 #[.agg #[.int .i64 a.lo, .int .i64 a.hi, .int .i64 a.m, .int .i64 a.r, .int .i64 a.k], .agg #[.int .i64 b.lo, .int .i64 b.hi, .int .i64 b.m, .int .i64 b.r, .int .i64 b.k]] w fun e w' => e = .returned (.agg #[.int .i64 V.lo, .int .i64 V.hi, .int .i64 V.m, .int .i64 V.r, .int .i64 V.k, .bool i]) ∧ Below w.heap.size w w' :=
  core_apart_lo a b A B V i hs hs2 (Or.inl ⟨h1, CC⟩) w
set_option maxHeartbeats 1000000 in
theorem apart_hi (a b : Ab) (A : Val a) (B : Val b) (V : Ab) (i : Bool) (hs : (stp b == 0) = true) (hs2 : (stp b != 0) = false) (h1 : (a.lo == b.lo) = false) (h2 : (a.hi == b.lo) = true) (CC : Hid (∀ w, Calls Try.prog 91 #[.agg #[.int .i64 a.lo, .int .i64 a.hi, .int .i64 a.m, .int .i64 a.r, .int .i64 a.k], .int .i64 (-2147483648), .int .i64 (a.hi - 1)] w fun e w' => e = .returned (.agg #[.int .i64 V.lo, .int .i64 V.hi, .int .i64 V.m, .int .i64 V.r, .int .i64 V.k, .bool i]) ∧ Below w.heap.size w w')) (w : World) :
    Calls Try.prog 65 #[.agg #[.int .i64 a.lo, .int .i64 a.hi, .int .i64 a.m, .int .i64 a.r, .int .i64 a.k], .agg #[.int .i64 b.lo, .int .i64 b.hi, .int .i64 b.m, .int .i64 b.r, .int .i64 b.k]] w fun e w' => e = .returned (.agg #[.int .i64 V.lo, .int .i64 V.hi, .int .i64 V.m, .int .i64 V.r, .int .i64 V.k, .bool i]) ∧ Below w.heap.size w w' :=
  core_apart_lo a b A B V i hs hs2 (Or.inr ⟨h1, h2, CC⟩) w
set_option maxHeartbeats 1000000 in
theorem apart_no (a b : Ab) (A : Val a) (B : Val b) (V : Ab) (i : Bool) (hs : (stp b == 0) = true) (hs2 : (stp b != 0) = false) (h1 : (a.lo == b.lo) = false) (h2 : (a.hi == b.lo) = false)  (w : World) :
    Calls Try.prog 65 #[.agg #[.int .i64 a.lo, .int .i64 a.hi, .int .i64 a.m, .int .i64 a.r, .int .i64 a.k], .agg #[.int .i64 b.lo, .int .i64 b.hi, .int .i64 b.m, .int .i64 b.r, .int .i64 b.k]] w fun e w' => e = .returned (.agg #[.int .i64 a.lo, .int .i64 a.hi, .int .i64 a.m, .int .i64 a.r, .int .i64 a.k, .bool true]) ∧ Below w.heap.size w w' := by
  have al := A.l; have ah := A.h; have ao := A.o
  have bl := B.l; have bh := B.h; have bo := B.o
  obtain ⟨w0, hw0⟩ : ∃ w0, (((w.alloc (.cells #[.int .i64 a.lo, .int .i64 a.hi, .int .i64 a.m, .int .i64 a.r, .int .i64 a.k] 27)).alloc (.cells #[.int .i64 b.lo, .int .i64 b.hi, .int .i64 b.m, .int .i64 b.r, .int .i64 b.k] 27)).alloc (.cells #[.int .i64 0, .int .i64 0, .int .i64 0, .int .i64 0, .int .i64 0, .bool false] 37)) = w0 := ⟨_, rfl⟩
  have B0 : Hid (Below w.heap.size w w0) := hidA (by rw [← hw0]; exact (alA (alA (alA (Below.refl _ _) _) _) _))
  have hsz : w.heap.size + 1 + 1 < w0.heap.size := by rw [← hw0]; simp
  have PK : Hid (∀ W, Below w0.heap.size w0 W → abF W (w.heap.size) a (abF W (w.heap.size + 1) b (W.cell? ⟨w.heap.size + 1 + 1, 0, none⟩ = some (.int .i64 0) ∧ W.cell? ⟨w.heap.size + 1 + 1, 1, none⟩ = some (.int .i64 0) ∧ W.cell? ⟨w.heap.size + 1 + 1, 2, none⟩ = some (.int .i64 0) ∧ W.cell? ⟨w.heap.size + 1 + 1, 3, none⟩ = some (.int .i64 0) ∧ W.cell? ⟨w.heap.size + 1 + 1, 4, none⟩ = some (.int .i64 0) ∧ W.cell? ⟨w.heap.size + 1 + 1, 5, none⟩ = some (.bool false) ∧ w.heap.size < W.heap.size ∧ w.heap.size + 1 < W.heap.size ∧ w.heap.size + 1 + 1 < W.heap.size ∧ (∀ i, W.frozen? ⟨w.heap.size + 1 + 1, i, none⟩ = false)))) := hidA (fun W hW => by and_intros <;> first | exact cellA hW (by rw [← hw0]; simp [go_sem]) | exact (by have h0 := hW.size; have h1 := hsz; omega) | exact (fun i => (hW.frozen (p := ⟨w.heap.size + 1 + 1, i, none⟩) (show w.heap.size + 1 + 1 < w0.heap.size by have h1 := hsz; omega)).trans (by rw [← hw0]; simp [go_sem])))
  have Hw := hidA hw0; clear hw0
  go_enter Try.func65, Try.ntmps65
  go_wp2_with fail
  rw [Hw.out]
  clear Hw
  have HS : Hid (Below w0.heap.size w0 w0) := hidA (Below.refl _ _)
  obtain ⟨c0, c1, c2, c3, c4, c5, c6, c7, c8, c9, c10, c11, c12, c13, c14, c15, z0, z1, z2, fr2⟩ := PK.out _ HS.out
  go_wp2_with (first | (go_at_call 50; (with_reducible refine (step_any _ _).mono ?_); rintro e w1 ⟨rfl, hb⟩; have hs1 := stepA HS.out hb; clear hb; clear HS; have HS := hidA hs1; clear hs1 c0 c1 c2 c3 c4 c5 c6 c7 c8 c9 c10 c11 c12 c13 c14 c15 z0 z1 z2 fr2; obtain ⟨c0, c1, c2, c3, c4, c5, c6, c7, c8, c9, c10, c11, c12, c13, c14, c15, z0, z1, z2, fr2⟩ := PK.out _ HS.out))
  exact bodyPost_ret (v := .agg #[.int .i64 a.lo, .int .i64 a.hi, .int .i64 a.m, .int .i64 a.r, .int .i64 a.k, .bool true]) (by simp [results, Try.results65, go_sem, c10, c11, c12, c13, c14, c15, z2]) rfl ⟨by rfl, (by repeat (first | with_reducible exact Below.refl _ _ | with_reducible exact HS.out | with_reducible exact B0.out | with_reducible refine Below.setCell ?_ (by first | omega | simp <;> omega) _ | with_reducible refine Below.alloc ?_ (by first | omega | simp <;> omega) _ | with_reducible refine Below.drew ?_ | with_reducible refine drewnA ?_ _ | with_reducible refine Below.trans ?_ (HS.out.mono (by first | omega | simp <;> omega)) | with_reducible refine Below.trans ?_ (B0.out.mono (by first | omega | simp <;> omega))))⟩
/-- A set without a value, if this is one of its ends. -/
def apIs (a b : Ab) : Bool := if stp b ≠ 0 then true else if a.lo = b.lo then clipIs a (a.lo + 1) 2147483647 else if a.hi = b.lo then clipIs a (-2147483648) (a.hi - 1) else true
def apA (a b : Ab) : Ab := if stp b ≠ 0 then a else if a.lo = b.lo then clipA a (a.lo + 1) 2147483647 else if a.hi = b.lo then clipA a (-2147483648) (a.hi - 1) else a
theorem ap_s {a b : Ab} (h : stp b ≠ 0) : apA a b = a ∧ apIs a b = true := ⟨if_pos h, if_pos h⟩
theorem ap_l {a b : Ab} (h : stp b = 0) (c : a.lo = b.lo) : apA a b = clipA a (a.lo + 1) 2147483647 ∧ apIs a b = clipIs a (a.lo + 1) 2147483647 := by
  unfold apA apIs
  exact ⟨(if_neg (fun g => g h)).trans (if_pos c), (if_neg (fun g => g h)).trans (if_pos c)⟩
theorem ap_h {a b : Ab} (h : stp b = 0) (c : ¬ a.lo = b.lo) (d : a.hi = b.lo) : apA a b = clipA a (-2147483648) (a.hi - 1) ∧ apIs a b = clipIs a (-2147483648) (a.hi - 1) := by
  unfold apA apIs
  exact ⟨(if_neg (fun g => g h)).trans ((if_neg c).trans (if_pos d)), (if_neg (fun g => g h)).trans ((if_neg c).trans (if_pos d))⟩
theorem ap_n {a b : Ab} (h : stp b = 0) (c : ¬ a.lo = b.lo) (d : ¬ a.hi = b.lo) : apA a b = a ∧ apIs a b = true := by
  unfold apA apIs
  exact ⟨(if_neg (fun g => g h)).trans ((if_neg c).trans (if_neg d)), (if_neg (fun g => g h)).trans ((if_neg c).trans (if_neg d))⟩
theorem apart_any (a b : Ab) (A : Val a) (B : Val b) (w : World) :
    Calls Try.prog 65 #[.agg #[.int .i64 a.lo, .int .i64 a.hi, .int .i64 a.m, .int .i64 a.r, .int .i64 a.k], .agg #[.int .i64 b.lo, .int .i64 b.hi, .int .i64 b.m, .int .i64 b.r, .int .i64 b.k]] w fun e w' => e = .returned (.agg #[.int .i64 (apA a b).lo, .int .i64 (apA a b).hi, .int .i64 (apA a b).m, .int .i64 (apA a b).r, .int .i64 (apA a b).k, .bool (apIs a b)]) ∧ Below w.heap.size w w' := by
  have al := A.l; have ah := A.h; have ao := A.o
  by_cases h : stp b = 0
  · have f1 : (stp b == 0) = true := by simpa using h
    have f2 : (stp b != 0) = false := by simpa using h
    by_cases c1 : a.lo = b.lo
    · rw [(ap_l h c1).1, (ap_l h c1).2]
      exact apart_lo a b A B _ _ f1 f2 (by simpa using c1) (hidA (fun w => clip_any a A _ _ (by omega) (by omega) (by omega) (by omega) w)) w
    · by_cases c2 : a.hi = b.lo
      · rw [(ap_h h c1 c2).1, (ap_h h c1 c2).2]
        exact apart_hi a b A B _ _ f1 f2 (by simpa using c1) (by simpa using c2) (hidA (fun w => clip_any a A _ _ (by omega) (by omega) (by omega) (by omega) w)) w
      · rw [(ap_n h c1 c2).1, (ap_n h c1 c2).2]
        exact apart_no a b A B a true f1 f2 (by simpa using c1) (by simpa using c2) w
  · rw [(ap_s h).1, (ap_s h).2]
    exact apart_set a b A B a true (by simpa using h) (by simpa using h) w
/-- what is left: its words -/
theorem ap_r {a b : Ab} (A : Val a) (B : Val b) : PartR a (fun v => ¬ (stp b = 0 ∧ v = b.lo ∧ (a.lo = b.lo ∨ a.hi = b.lo))) (apIs a b) (apA a b) := by
  by_cases h : stp b = 0
  · by_cases c1 : a.lo = b.lo
    · rw [(ap_l h c1).1, (ap_l h c1).2]
      refine part_iff (fun v hv => ?_) (clip_r A _ _)
      have := hv.1; have := hv.2.1; have := A.h
      constructor
      · rintro ⟨x, y⟩ ⟨_, e, _⟩; omega
      · intro g
        refine ⟨?_, by omega⟩
        rcases Int.lt_or_le a.lo v with c | c
        · omega
        · exact absurd ⟨h, by omega, Or.inl c1⟩ g
    · by_cases c2 : a.hi = b.lo
      · rw [(ap_h h c1 c2).1, (ap_h h c1 c2).2]
        refine part_iff (fun v hv => ?_) (clip_r A _ _)
        have := hv.1; have := hv.2.1; have := A.l
        constructor
        · rintro ⟨x, y⟩ ⟨_, e, _⟩; omega
        · intro g
          refine ⟨by omega, ?_⟩
          rcases Int.lt_or_le v a.hi with c | c
          · omega
          · exact absurd ⟨h, by omega, Or.inr c2⟩ g
      · rw [(ap_n h c1 c2).1, (ap_n h c1 c2).2]
        exact part_all A (fun v _ ⟨_, _, g⟩ => g.elim c1 c2)
  · rw [(ap_s h).1, (ap_s h).2]
    exact part_all A (fun v _ ⟨g, _⟩ => h g)
/-- The inverse that the steps find. -/
def invF (m : Int) : Nat → Int → Int → Int → Int → Int
  | 0, x, _, _, _ => x % m
  | n + 1, x, y, u, v => if v = 0 then x % m else invF m n y (x - u / v * y) v (u - u / v * v)
def inv (a m : Int) : Int := if m = 1 then 0 else invF m (m.toNat + 1) 1 0 (a % m) m
theorem invF_ok {a m : Int} (hm : 1 ≤ m) (hg : gc a m = 1) : ∀ (n : Nat) (x y u v : Int), EuI a m x y u v → v.toNat < n → m ∣ a * invF m n x y u v - 1 := by
  intro n
  induction n with
  | zero => intro x y u v _ h; omega
  | succ n ih =>
    intro x y u v H h
    unfold invF
    by_cases hv : v = 0
    · rw [if_pos hv]
      subst hv
      have hu : u = 1 := by
        have e := H.g
        rw [hg] at e
        rw [gc_nil H.u0] at e
        exact e
      have d1 := H.hx
      rw [hu] at d1
      have d2 : m ∣ x - x % m := Int.dvd_self_sub_emod ..
      have d3 := Int.dvd_sub d1 (Int.dvd_trans d2 (Int.dvd_mul_left a _))
      rw [Int.mul_sub] at d3
      rwa [show x * a - 1 - (a * x - a * (x % m)) = a * (x % m) - 1 by rw [Int.mul_comm x a]; omega] at d3
    · rw [if_neg hv]
      have N := eu_next H hv
      refine ih _ _ _ _ N ?_
      have v0 := H.v0
      have e := Int.mul_ediv_add_emod u v
      rw [Int.mul_comm] at e
      have l := Int.emod_lt_of_pos u (show 0 < v by omega)
      have l0 := Int.emod_nonneg u hv
      omega
theorem inv_ok {a m : Int} (hm : 1 ≤ m) (hg : gc a m = 1) : m ∣ a * inv a m - 1 := by
  unfold inv
  by_cases h : m = 1
  · rw [if_pos h, h]; exact Int.one_dvd _
  · rw [if_neg h]; exact invF_ok hm hg _ _ _ _ _ (eu_first hm) (by omega)
end

section
open Go.RowKit Go.Instr
set_option linter.unusedVariables false
set_option linter.unusedSimpArgs false

/-! A block that is known whole: stores of whole structs, and the end of a function whose result lies there. -/
def KnA (w : World) (g : Nat) (t : TypeId) (cs : Array Value) : Prop := w.heap[g]? = some (.cells cs t (0, 0))
theorem KnA.new (w : World) (t : TypeId) (cs : Array Value) : KnA (w.alloc (.cells cs t)) w.heap.size t cs := heap_alloc_new w _
theorem KnA.lt {w : World} {g : Nat} {t : TypeId} {cs : Array Value} (h : KnA w g t cs) : g < w.heap.size := (Array.getElem?_eq_some_iff.1 h).1
theorem KnA.alloc {w : World} {g : Nat} {t : TypeId} {cs : Array Value} (h : KnA w g t cs) (o : Obj) : KnA (w.alloc o) g t cs := (Below.heap_alloc w o g h.lt).trans h
theorem KnA.below {w w' : World} {g B : Nat} {t : TypeId} {cs : Array Value} (h : KnA w g t cs) (hb : Below B w w') (hg : g < B) : KnA w' g t cs := (hb.block g hg).trans h
theorem KnA.set_far {w : World} {g : Nat} {t : TypeId} {cs : Array Value} (h : KnA w g t cs) {p : Addr} (hp : g ≠ p.block) (u : Value) : KnA (w.setCell p u) g t cs := (heap_setCell_other w p g u hp).trans h
theorem KnA.drew {w : World} {g : Nat} {t : TypeId} {cs : Array Value} (h : KnA w g t cs) : KnA w.drew g t cs := h
theorem KnA.setRow {w : World} {g : Nat} {t : TypeId} {cs : Array Value} (h : KnA w g t cs) (cs' : Array Value) : KnA (w.setRow g cs') g t cs' := setRow_heap w g cs cs' t _ h
theorem below_setRow {B : Nat} {a w : World} (h : Below B a w) {g : Nat} (hg : B ≤ g) (cs : Array Value) : Below B a (w.setRow g cs) :=
  ⟨h.os, h.tape, h.output, by simpa using h.size, fun k hk => (setRow_other w g k cs (by omega)).trans (h.block k hk)⟩
theorem wpList_store_knA {P : Program} {ops : Array Oper} {rest : List Oper} {o : Oper} {a : Act} {w : World} {Q : Exit → Act → World → Prop} (hgd : o.guard = none) (ty : TypeId) (x y : Operand) (ho : o.op = .store ty x y)
    (g : Nat) (cells : Array Value) (hx : a.eval x = .pointer (some ⟨g, 0, none⟩)) (hy : a.eval y = .agg cells)
    (t : TypeId) (old : Array Value) (hg : KnA w g t old) (hi : (P.info? ty).map (·.size) = some cells.size)
    (hold : old.size = cells.size) (h1 : cells.toList.all (·.oneCell') = true)
    (h : wpList P ops Q rest (a.put o.dst undef) (w.setRow g cells)) : wpList P ops Q (o :: rest) a w :=
  wpList_plain hgd fun _ hK => wp_store_row ty x y ho g cells hx hy t old hg hi hold (by rw [← Array.all_toList]; exact h1) (hK _ _ h)
def aggD : TypeDesc → Bool
  | .struct _ => true
  | .array _ _ => true
  | _ => false
/-- The end of a function whose result lies in a block. -/
theorem end_knA {P : Program} {fn : Func} {Q : Ending → World → Prop} {tmps : Array Value} {w : World} {p : Tmp} {ty : TypeId} (hr : fn.results = #[.cell p ty]) (g : Nat) {t : TypeId} {cs : Array Value}
    (hp : tmps.getD p undef = .pointer (some ⟨g, 0, none⟩)) (hg : KnA w g t cs) (hu : (P.underlying ty).map aggD = some true) (hi : (P.info? ty).map (·.size) = some cs.size)
    (h : Q (.returned (.agg cs)) w) : bodyPost P fn Q .ret { tmps := tmps, defers := [] } w := by
  cases hd : P.underlying ty with
  | none => rw [hd] at hu; cases hu
  | some d =>
    rw [hd] at hu
    refine bodyPost_ret (results_cell_row hr tmps w g t cs (0, 0) d hp hg hd ?_ hi) rfl h
    cases d <;> first | rfl | (simp [aggD] at hu)
end

section
open Go.RowKit Go.Instr Sp
set_option linter.unusedVariables false
set_option linter.unusedSimpArgs false

/-! The reference's inverse; the order of sets. -/
set_option maxHeartbeats 1000000 in
theorem inverse_any (a m : Int) (hm : 1 ≤ m) (hm2 : m ≤ 4294967296) (w : World) :
    Calls Try.prog 54 #[.int .i64 a, .int .i64 m] w fun e w' => e = .returned (.int .i64 (inv a m)) ∧ w = w' := by
  by_cases h1 : m = 1
  · subst h1
    have e : inv a 1 = 0 := if_pos rfl
    rw [e]
    clear e
    go_enter Try.func54, Try.ntmps54
    go_wp2
    go_ret
    exact ⟨rfl, rfl⟩
  · have hz : (m == 1) = false := by simpa using h1
    have EI : Hid (inv a m = invF m (m.toNat + 1) 1 0 (a % m) m) := hidA (if_neg h1)
    have E0 := hidA (eu_first (a := a) hm)
    have hn : m.toNat < m.toNat + 1 := Nat.lt_succ_self _
    have l0 := Int.emod_nonneg a (show m ≠ 0 by omega)
    have l1 := Int.emod_lt_of_pos a (show 0 < m by omega)
    clear h1
    go_enter Try.func54, Try.ntmps54
    go_wp2_with (go_at_call 42; refine (mod_all _ _ (by omega) (by omega) _).mono ?_; rintro e w1 ⟨rfl, rfl⟩)
    go_loop [5, 6, 7, 8] (fun s t p q => ∃ (n : Nat) (x y u v : Int), Hid (EuI a m x y u v) ∧ v.toNat < n ∧ 0 ≤ u ∧ 0 ≤ v ∧ u ≤ m ∧ v ≤ m ∧ Hid (invF m n x y u v = inv a m) ∧ s = .int .i64 x ∧ t = .int .i64 y ∧ p = .int .i64 u ∧ q = .int .i64 v ∧ -m ≤ x ∧ x ≤ m ∧ -m ≤ y ∧ y ≤ m) (fun _ _ _ q => (intOf q).toNat)
    case atStart => exact ⟨m.toNat + 1, 1, 0, a % m, m, E0, by omega, l0, by omega, by omega, by omega, hidA EI.out.symm, rfl, rfl, rfl, rfl, by omega, by omega, by omega, by omega⟩
    case round =>
      obtain ⟨n, x, y, u, v, EU, hv, u0, v0, u1, v1, IF, rfl, rfl, rfl, rfl, x1, x2, y1, y2⟩ := hrel
      cases n with
      | zero => omega
      | succ n =>
        by_cases hy : v = 0
        · subst hy
          have e : inv a m = x % m := by rw [← IF.out]; unfold invF; rw [if_pos rfl]
          have E := hidA e
          clear e
          go_wp2_with (go_at_call 42; refine (mod_all _ _ (by omega) (by omega) _).mono ?_; rintro e w1 ⟨rfl, rfl⟩)
          go_ret
          exact ⟨retA E.out.symm, rfl⟩
        · have hz0 : (v == 0) = false := by simpa using hy
          have hz1 : (v != 0) = true := by simpa using hy
          have N := hidA (eu_next EU.out hy)
          have IF2 : Hid (invF m n y (x - u / v * y) v (u - u / v * v) = inv a m) := hidA (by rw [← IF.out]; conv => rhs; unfold invF; rw [if_neg hy])
          have q0 : 0 ≤ u / v := Int.ediv_nonneg u0 v0
          have q1 : u / v ≤ u := Int.ediv_le_self _ u0
          have ed := Int.mul_ediv_add_emod u v
          rw [Int.mul_comm] at ed
          have r0 := Int.emod_nonneg u hy
          have r1 := Int.emod_lt_of_pos u (show 0 < v by omega)
          have eb : Hid (-m ≤ x - u / v * y ∧ x - u / v * y ≤ m) := hidA (by
            have hN := N.out
            have s := hN.s
            have yb : v * (x - u / v * y) - (u - u / v * v) * y = v * x - u * y := by
              rw [Int.mul_sub, Int.sub_mul, ← Int.mul_assoc, Int.mul_comm v (u / v)]; omega
            rcases s with ⟨s1, s2, s3⟩ | ⟨s1, s2, s3⟩
            · have p := Int.mul_nonneg (show 0 ≤ u - u / v * v by omega) (show 0 ≤ -y by omega)
              have q := Int.mul_le_mul_of_nonneg_right (show 1 ≤ v by omega) s2
              have p2 := Int.mul_neg (u - u / v * v) y
              omega
            · have p := Int.mul_nonneg (show 0 ≤ u - u / v * v by omega) s1
              have q := Int.mul_le_mul_of_nonneg_right (show 1 ≤ v by omega) (show 0 ≤ -(x - u / v * y) by omega)
              have q2 := Int.mul_neg v (x - u / v * y)
              omega)
          have hd : u.tdiv v = u / v := Int.tdiv_eq_ediv_of_nonneg u0
          obtain ⟨Q, hQ⟩ : ∃ Q, u / v = Q := ⟨_, rfl⟩
          rw [hQ] at q0 q1 ed hd N IF2 eb
          obtain ⟨A1, hA1⟩ : ∃ A1, Q * v = A1 := ⟨_, rfl⟩
          obtain ⟨A2, hA2⟩ : ∃ A2, Q * y = A2 := ⟨_, rfl⟩
          rw [hA1] at ed N IF2
          rw [hA2] at N IF2 eb
          have b1 := eb.out.1
          have b2 := eb.out.2
          clear IF EU hy eb
          go_wp2
          go_round
          case rel => exact ⟨n, y, x - A2, v, u - A1, N, by omega, by omega, by omega, by omega, by omega, IF2, by first | rfl | go_num, by first | rfl | go_num, by first | rfl | go_num, by first | rfl | go_num, y1, y2, b1, b2⟩
          case measure => simp [intOf]; omega
set_option maxHeartbeats 1000000 in
theorem core_leq_1 (a b : Ab) (A : Val a) (B : Val b) (HH : ((withinB b a.lo = false)) ∨ ((withinB b a.lo = true) ∧ (withinB b a.hi = false))) (w : World) :
    Calls Try.prog 23 #[.agg #[.int .i64 a.lo, .int .i64 a.hi, .int .i64 a.m, .int .i64 a.r, .int .i64 a.k], .agg #[.int .i64 b.lo, .int .i64 b.hi, .int .i64 b.m, .int .i64 b.r, .int .i64 b.k]] w fun e w' => e = .returned (.bool false) ∧ Below w.heap.size w w' := by
  rcases HH with p1 | ⟨p1, p2⟩
  all_goals
    have WB := hidA (val_wb B)
    have m1 := m_pos A
    have m2 := m_pos B
    have hz : (b.m == 0) = false := by simp; omega
    have hz2 : (b.m != 0) = true := by simp; omega
    have hm1 := (val_wb A).m2
    have hm2 := (val_wb B).m2
    have l1 := Int.emod_nonneg a.m (show b.m ≠ 0 by omega)
    have l2 := Int.emod_lt_of_pos a.m (show 0 < b.m by omega)
    obtain ⟨w0, hw0⟩ : ∃ w0, ((w.alloc (.cells #[.int .i64 a.lo, .int .i64 a.hi, .int .i64 a.m, .int .i64 a.r, .int .i64 a.k] 27)).alloc (.cells #[.int .i64 b.lo, .int .i64 b.hi, .int .i64 b.m, .int .i64 b.r, .int .i64 b.k] 27)) = w0 := ⟨_, rfl⟩
    have B0 : Hid (Below w.heap.size w w0) := hidA (by rw [← hw0]; exact (alA (alA (Below.refl _ _) _) _))
    have hsz : w.heap.size + 1 < w0.heap.size := by rw [← hw0]; simp
    have PK : Hid (∀ W, Below w0.heap.size w0 W → abF W (w.heap.size) a (abF W (w.heap.size + 1) b (w.heap.size < W.heap.size ∧ w.heap.size + 1 < W.heap.size))) := hidA (fun W hW => by and_intros <;> first | exact cellA hW (by rw [← hw0]; simp [go_sem]) | exact (by have h0 := hW.size; have h1 := hsz; omega))
    have Hw := hidA hw0; clear hw0
    go_enter Try.func23, Try.ntmps23
    go_wp2_with fail
    rw [Hw.out]
    clear Hw
    have HS : Hid (Below w0.heap.size w0 w0) := hidA (Below.refl _ _)
    obtain ⟨c0, c1, c2, c3, c4, c5, c6, c7, c8, c9, z0, z1⟩ := PK.out _ HS.out
    go_wp2_with (first | (go_at_call 45; (with_reducible refine (within_any _ WB.out _ _).mono ?_); rintro e w1 ⟨rfl, hb⟩; have hs1 := stepA HS.out hb; clear hb; clear HS; have HS := hidA hs1; clear hs1 c0 c1 c2 c3 c4 c5 c6 c7 c8 c9 z0 z1; obtain ⟨c0, c1, c2, c3, c4, c5, c6, c7, c8, c9, z0, z1⟩ := PK.out _ HS.out) | (go_at_call 50; (with_reducible refine (step_any _ _).mono ?_); rintro e w1 ⟨rfl, hb⟩; have hs1 := stepA HS.out hb; clear hb; clear HS; have HS := hidA hs1; clear hs1 c0 c1 c2 c3 c4 c5 c6 c7 c8 c9 z0 z1; obtain ⟨c0, c1, c2, c3, c4, c5, c6, c7, c8, c9, z0, z1⟩ := PK.out _ HS.out))
    go_ret
    exact ⟨rfl, (by repeat (first | with_reducible exact Below.refl _ _ | with_reducible exact HS.out | with_reducible exact B0.out | with_reducible refine Below.setCell ?_ (by first | omega | simp <;> omega) _ | with_reducible refine Below.alloc ?_ (by first | omega | simp <;> omega) _ | with_reducible refine Below.drew ?_ | with_reducible refine drewnA ?_ _ | with_reducible refine Below.trans ?_ (HS.out.mono (by first | omega | simp <;> omega)) | with_reducible refine Below.trans ?_ (B0.out.mono (by first | omega | simp <;> omega))))⟩
theorem leq_1 (a b : Ab) (A : Val a) (B : Val b) (p1 : withinB b a.lo = false) (w : World) :
    Calls Try.prog 23 #[.agg #[.int .i64 a.lo, .int .i64 a.hi, .int .i64 a.m, .int .i64 a.r, .int .i64 a.k], .agg #[.int .i64 b.lo, .int .i64 b.hi, .int .i64 b.m, .int .i64 b.r, .int .i64 b.k]] w fun e w' => e = .returned (.bool false) ∧ Below w.heap.size w w' :=
  core_leq_1 a b A B (Or.inl p1) w
set_option maxHeartbeats 1000000 in
theorem leq_2 (a b : Ab) (A : Val a) (B : Val b) (p1 : withinB b a.lo = true) (p2 : withinB b a.hi = false) (w : World) :
    Calls Try.prog 23 #[.agg #[.int .i64 a.lo, .int .i64 a.hi, .int .i64 a.m, .int .i64 a.r, .int .i64 a.k], .agg #[.int .i64 b.lo, .int .i64 b.hi, .int .i64 b.m, .int .i64 b.r, .int .i64 b.k]] w fun e w' => e = .returned (.bool false) ∧ Below w.heap.size w w' :=
  core_leq_1 a b A B (Or.inr ⟨p1, p2⟩) w
set_option maxHeartbeats 1000000 in
theorem core_leq_3 (a b : Ab) (A : Val a) (B : Val b) (p1 : withinB b a.lo = true) (p2 : withinB b a.hi = true) (em : (bits .andNot .i64 (a.k : Int) (b.k : Int) == 0) = sbB a.k b.k) (HH : (((stp a == 0) = true)) ∨ (((stp a == 0) = false) ∧ ((stp b == 0) = true)) ∨ (((stp a == 0) = false) ∧ ((stp b == 0) = false) ∧ ((a.m % b.m == 0) = true))) (w : World) :
    Calls Try.prog 23 #[.agg #[.int .i64 a.lo, .int .i64 a.hi, .int .i64 a.m, .int .i64 a.r, .int .i64 a.k], .agg #[.int .i64 b.lo, .int .i64 b.hi, .int .i64 b.m, .int .i64 b.r, .int .i64 b.k]] w fun e w' => e = .returned (.bool (sbB a.k b.k)) ∧ Below w.heap.size w w' := by
  rcases HH with s | ⟨s, t⟩ | ⟨s, t, r⟩
  all_goals
    have WB := hidA (val_wb B)
    have m1 := m_pos A
    have m2 := m_pos B
    have hz : (b.m == 0) = false := by simp; omega
    have hz2 : (b.m != 0) = true := by simp; omega
    have hm1 := (val_wb A).m2
    have hm2 := (val_wb B).m2
    have l1 := Int.emod_nonneg a.m (show b.m ≠ 0 by omega)
    have l2 := Int.emod_lt_of_pos a.m (show 0 < b.m by omega)
    obtain ⟨w0, hw0⟩ : ∃ w0, ((w.alloc (.cells #[.int .i64 a.lo, .int .i64 a.hi, .int .i64 a.m, .int .i64 a.r, .int .i64 a.k] 27)).alloc (.cells #[.int .i64 b.lo, .int .i64 b.hi, .int .i64 b.m, .int .i64 b.r, .int .i64 b.k] 27)) = w0 := ⟨_, rfl⟩
    have B0 : Hid (Below w.heap.size w w0) := hidA (by rw [← hw0]; exact (alA (alA (Below.refl _ _) _) _))
    have hsz : w.heap.size + 1 < w0.heap.size := by rw [← hw0]; simp
    have PK : Hid (∀ W, Below w0.heap.size w0 W → abF W (w.heap.size) a (abF W (w.heap.size + 1) b (w.heap.size < W.heap.size ∧ w.heap.size + 1 < W.heap.size))) := hidA (fun W hW => by and_intros <;> first | exact cellA hW (by rw [← hw0]; simp [go_sem]) | exact (by have h0 := hW.size; have h1 := hsz; omega))
    have Hw := hidA hw0; clear hw0
    go_enter Try.func23, Try.ntmps23
    go_wp2_with fail
    rw [Hw.out]
    clear Hw
    have HS : Hid (Below w0.heap.size w0 w0) := hidA (Below.refl _ _)
    obtain ⟨c0, c1, c2, c3, c4, c5, c6, c7, c8, c9, z0, z1⟩ := PK.out _ HS.out
    go_wp2_with (first | (go_at_call 45; (with_reducible refine (within_any _ WB.out _ _).mono ?_); rintro e w1 ⟨rfl, hb⟩; have hs1 := stepA HS.out hb; clear hb; clear HS; have HS := hidA hs1; clear hs1 c0 c1 c2 c3 c4 c5 c6 c7 c8 c9 z0 z1; obtain ⟨c0, c1, c2, c3, c4, c5, c6, c7, c8, c9, z0, z1⟩ := PK.out _ HS.out) | (go_at_call 50; (with_reducible refine (step_any _ _).mono ?_); rintro e w1 ⟨rfl, hb⟩; have hs1 := stepA HS.out hb; clear hb; clear HS; have HS := hidA hs1; clear hs1 c0 c1 c2 c3 c4 c5 c6 c7 c8 c9 z0 z1; obtain ⟨c0, c1, c2, c3, c4, c5, c6, c7, c8, c9, z0, z1⟩ := PK.out _ HS.out))
    go_ret
    exact ⟨rfl, (by repeat (first | with_reducible exact Below.refl _ _ | with_reducible exact HS.out | with_reducible exact B0.out | with_reducible refine Below.setCell ?_ (by first | omega | simp <;> omega) _ | with_reducible refine Below.alloc ?_ (by first | omega | simp <;> omega) _ | with_reducible refine Below.drew ?_ | with_reducible refine drewnA ?_ _ | with_reducible refine Below.trans ?_ (HS.out.mono (by first | omega | simp <;> omega)) | with_reducible refine Below.trans ?_ (B0.out.mono (by first | omega | simp <;> omega))))⟩
theorem leq_3 (a b : Ab) (A : Val a) (B : Val b) (p1 : withinB b a.lo = true) (p2 : withinB b a.hi = true) (s : (stp a == 0) = true) (em : (bits .andNot .i64 (a.k : Int) (b.k : Int) == 0) = sbB a.k b.k) (w : World) :
    Calls Try.prog 23 #[.agg #[.int .i64 a.lo, .int .i64 a.hi, .int .i64 a.m, .int .i64 a.r, .int .i64 a.k], .agg #[.int .i64 b.lo, .int .i64 b.hi, .int .i64 b.m, .int .i64 b.r, .int .i64 b.k]] w fun e w' => e = .returned (.bool (sbB a.k b.k)) ∧ Below w.heap.size w w' :=
  core_leq_3 a b A B p1 p2 em (Or.inl s) w
set_option maxHeartbeats 1000000 in
theorem leq_4 (a b : Ab) (A : Val a) (B : Val b) (p1 : withinB b a.lo = true) (p2 : withinB b a.hi = true) (s : (stp a == 0) = false) (t : (stp b == 0) = true) (em : (bits .andNot .i64 (a.k : Int) (b.k : Int) == 0) = sbB a.k b.k) (w : World) :
    Calls Try.prog 23 #[.agg #[.int .i64 a.lo, .int .i64 a.hi, .int .i64 a.m, .int .i64 a.r, .int .i64 a.k], .agg #[.int .i64 b.lo, .int .i64 b.hi, .int .i64 b.m, .int .i64 b.r, .int .i64 b.k]] w fun e w' => e = .returned (.bool (sbB a.k b.k)) ∧ Below w.heap.size w w' :=
  core_leq_3 a b A B p1 p2 em (Or.inr (Or.inl ⟨s, t⟩)) w
set_option maxHeartbeats 1000000 in
theorem leq_5 (a b : Ab) (A : Val a) (B : Val b) (p1 : withinB b a.lo = true) (p2 : withinB b a.hi = true) (s : (stp a == 0) = false) (t : (stp b == 0) = false) (r : (a.m % b.m == 0) = true) (em : (bits .andNot .i64 (a.k : Int) (b.k : Int) == 0) = sbB a.k b.k) (w : World) :
    Calls Try.prog 23 #[.agg #[.int .i64 a.lo, .int .i64 a.hi, .int .i64 a.m, .int .i64 a.r, .int .i64 a.k], .agg #[.int .i64 b.lo, .int .i64 b.hi, .int .i64 b.m, .int .i64 b.r, .int .i64 b.k]] w fun e w' => e = .returned (.bool (sbB a.k b.k)) ∧ Below w.heap.size w w' :=
  core_leq_3 a b A B p1 p2 em (Or.inr (Or.inr ⟨s, t, r⟩)) w
set_option maxHeartbeats 1000000 in
theorem leq_6 (a b : Ab) (A : Val a) (B : Val b) (p1 : withinB b a.lo = true) (p2 : withinB b a.hi = true) (s : (stp a == 0) = false) (t : (stp b == 0) = false) (r : (a.m % b.m == 0) = false)  (w : World) :
    Calls Try.prog 23 #[.agg #[.int .i64 a.lo, .int .i64 a.hi, .int .i64 a.m, .int .i64 a.r, .int .i64 a.k], .agg #[.int .i64 b.lo, .int .i64 b.hi, .int .i64 b.m, .int .i64 b.r, .int .i64 b.k]] w fun e w' => e = .returned (.bool false) ∧ Below w.heap.size w w' := by
  have WB := hidA (val_wb B)
  have m1 := m_pos A
  have m2 := m_pos B
  have hz : (b.m == 0) = false := by simp; omega
  have hz2 : (b.m != 0) = true := by simp; omega
  have hm1 := (val_wb A).m2
  have hm2 := (val_wb B).m2
  have l1 := Int.emod_nonneg a.m (show b.m ≠ 0 by omega)
  have l2 := Int.emod_lt_of_pos a.m (show 0 < b.m by omega)
  obtain ⟨w0, hw0⟩ : ∃ w0, ((w.alloc (.cells #[.int .i64 a.lo, .int .i64 a.hi, .int .i64 a.m, .int .i64 a.r, .int .i64 a.k] 27)).alloc (.cells #[.int .i64 b.lo, .int .i64 b.hi, .int .i64 b.m, .int .i64 b.r, .int .i64 b.k] 27)) = w0 := ⟨_, rfl⟩
  have B0 : Hid (Below w.heap.size w w0) := hidA (by rw [← hw0]; exact (alA (alA (Below.refl _ _) _) _))
  have hsz : w.heap.size + 1 < w0.heap.size := by rw [← hw0]; simp
  have PK : Hid (∀ W, Below w0.heap.size w0 W → abF W (w.heap.size) a (abF W (w.heap.size + 1) b (w.heap.size < W.heap.size ∧ w.heap.size + 1 < W.heap.size))) := hidA (fun W hW => by and_intros <;> first | exact cellA hW (by rw [← hw0]; simp [go_sem]) | exact (by have h0 := hW.size; have h1 := hsz; omega))
  have Hw := hidA hw0; clear hw0
  go_enter Try.func23, Try.ntmps23
  go_wp2_with fail
  rw [Hw.out]
  clear Hw
  have HS : Hid (Below w0.heap.size w0 w0) := hidA (Below.refl _ _)
  obtain ⟨c0, c1, c2, c3, c4, c5, c6, c7, c8, c9, z0, z1⟩ := PK.out _ HS.out
  go_wp2_with (first | (go_at_call 45; (with_reducible refine (within_any _ WB.out _ _).mono ?_); rintro e w1 ⟨rfl, hb⟩; have hs1 := stepA HS.out hb; clear hb; clear HS; have HS := hidA hs1; clear hs1 c0 c1 c2 c3 c4 c5 c6 c7 c8 c9 z0 z1; obtain ⟨c0, c1, c2, c3, c4, c5, c6, c7, c8, c9, z0, z1⟩ := PK.out _ HS.out) | (go_at_call 50; (with_reducible refine (step_any _ _).mono ?_); rintro e w1 ⟨rfl, hb⟩; have hs1 := stepA HS.out hb; clear hb; clear HS; have HS := hidA hs1; clear hs1 c0 c1 c2 c3 c4 c5 c6 c7 c8 c9 z0 z1; obtain ⟨c0, c1, c2, c3, c4, c5, c6, c7, c8, c9, z0, z1⟩ := PK.out _ HS.out))
  go_ret
  exact ⟨rfl, (by repeat (first | with_reducible exact Below.refl _ _ | with_reducible exact HS.out | with_reducible exact B0.out | with_reducible refine Below.setCell ?_ (by first | omega | simp <;> omega) _ | with_reducible refine Below.alloc ?_ (by first | omega | simp <;> omega) _ | with_reducible refine Below.drew ?_ | with_reducible refine drewnA ?_ _ | with_reducible refine Below.trans ?_ (HS.out.mono (by first | omega | simp <;> omega)) | with_reducible refine Below.trans ?_ (B0.out.mono (by first | omega | simp <;> omega))))⟩
/-- Whether a set is in another one. -/
def leB (a b : Ab) : Bool := withinB b a.lo && (withinB b a.hi && (((stp a == 0) || (stp b == 0) || (a.m % b.m == 0)) && sbB a.k b.k))
theorem leB_iff {a b : Ab} (A : Val a) (B : Val b) : leB a b = true ↔ Le a b := by
  unfold leB Le
  rw [le_iff A B]
  simp only [Bool.and_eq_true, Bool.or_eq_true, beq_iff_eq, within_iff B, sbB_iff]
  have key : Mem b a.lo → Mem b a.hi → (((stp a = 0 ∨ stp b = 0) ∨ a.m % b.m = 0) ↔ stp b ∣ stp a) := by
    intro h1 h2
    have sa := val_stp A
    have sb := val_stp B
    constructor
    · rintro ((h | h) | h)
      · rw [h]; exact Int.dvd_zero _
      · have e1 := mem_single B h h1
        have e2 := mem_single B h h2
        have : stp a = 0 := by unfold stp; rw [if_pos (by omega)]
        rw [this]; exact Int.dvd_zero _
      · by_cases z : stp a = 0
        · rw [z]; exact Int.dvd_zero _
        · by_cases y : stp b = 0
          · have e1 := mem_single B y h1
            have e2 := mem_single B y h2
            have := (sa.2.2.2 z).2.1
            omega
          · rw [(sa.2.2.2 z).1, (sb.2.2.2 y).1]; exact Int.dvd_of_emod_eq_zero h
    · intro h
      by_cases z : stp a = 0
      · exact Or.inl (Or.inl z)
      · by_cases y : stp b = 0
        · exact Or.inl (Or.inr y)
        · rw [(sa.2.2.2 z).1, (sb.2.2.2 y).1] at h
          exact Or.inr (Int.emod_eq_zero_of_dvd h)
  constructor
  · rintro ⟨h1, h2, h3, h4⟩; exact ⟨⟨h1, h2, (key h1 h2).1 h3⟩, h4⟩
  · rintro ⟨⟨h1, h2, h3⟩, h4⟩; exact ⟨h1, h2, (key h1 h2).2 h3, h4⟩
theorem leq_any (a b : Ab) (A : Val a) (B : Val b) (w : World) :
    Calls Try.prog 23 #[.agg #[.int .i64 a.lo, .int .i64 a.hi, .int .i64 a.m, .int .i64 a.r, .int .i64 a.k], .agg #[.int .i64 b.lo, .int .i64 b.hi, .int .i64 b.m, .int .i64 b.r, .int .i64 b.k]] w fun e w' => e = .returned (.bool (leB a b)) ∧ Below w.heap.size w w' := by
  have em := bits_not8 A.k B.k
  unfold leB
  cases p1 : withinB b a.lo
  · exact leq_1 a b A B p1 w
  · cases p2 : withinB b a.hi
    · exact leq_2 a b A B p1 p2 w
    · cases s : (stp a == 0)
      · cases t : (stp b == 0)
        · cases r : (a.m % b.m == 0)
          · exact leq_6 a b A B p1 p2 s t r w
          · exact leq_5 a b A B p1 p2 s t r em w
        · exact leq_4 a b A B p1 p2 s t em w
      · exact leq_3 a b A B p1 p2 s em w
end
end Go.Proofs.Ytdopjadlbhacfaa

import Derived.Test.YtdopjadlbhacfaaAi
namespace Go.Proofs.Ytdopjadlbhacfaa
open Go.RowKit Go.Instr Sp
set_option linter.unusedVariables false
set_option linter.unusedSimpArgs false

/-! The reference's sets, by value: remainders. -/
set_option maxHeartbeats 1000000 in
theorem rem_set (a b : Ab) (A : Val a) (B : Val b) (k : Nat) (V : Ab) (hs : (stp b == 0) = false) (hs2 : (stp b != 0) = true) (lo hi : Int) (mn : (if 0 < a.lo then 0 else a.lo) = lo) (mx : (if a.hi < 0 then 0 else a.hi) = hi) (BYC : Hid (∀ w, Calls Try.prog 46 #[.int .i64 lo, .int .i64 hi, .int .i64 1, .int .i64 k] w fun e w' => e = .returned (.agg #[.int .i64 V.lo, .int .i64 V.hi, .int .i64 V.m, .int .i64 V.r, .int .i64 V.k]) ∧ Below w.heap.size w w')) (w : World) :
    Calls Try.prog 62 #[.agg #[.int .i64 a.lo, .int .i64 a.hi, .int .i64 a.m, .int .i64 a.r, .int .i64 a.k], .agg #[.int .i64 b.lo, .int .i64 b.hi, .int .i64 b.m, .int .i64 b.r, .int .i64 b.k], .int .i64 k] w fun e w' => e = .returned (.agg #[.int .i64 V.lo, .int .i64 V.hi, .int .i64 V.m, .int .i64 V.r, .int .i64 V.k]) ∧ Below w.heap.size w w' := by
  have al := A.l; have ah := A.h; have ao := A.o; have bl := B.l; have bh := B.h; have bo := B.o
  obtain ⟨w0, hw0⟩ : ∃ w0, (((w.alloc (.cells #[.int .i64 a.lo, .int .i64 a.hi, .int .i64 a.m, .int .i64 a.r, .int .i64 a.k] 27)).alloc (.cells #[.int .i64 b.lo, .int .i64 b.hi, .int .i64 b.m, .int .i64 b.r, .int .i64 b.k] 27)).alloc (.cells #[.int .i64 0, .int .i64 0, .int .i64 0, .int .i64 0, .int .i64 0] 27)) = w0 := ⟨_, rfl⟩
  have B0 : Hid (Below w.heap.size w w0) := hidA (by rw [← hw0]; exact (alA (alA (alA (Below.refl _ _) _) _) _))
  have hsz : w.heap.size + 1 + 1 < w0.heap.size := by rw [← hw0]; simp
  have PK : Hid (∀ W, Below w0.heap.size w0 W → abF W (w.heap.size) a (abF W (w.heap.size + 1) b (W.cell? ⟨w.heap.size + 1 + 1, 0, none⟩ = some (.int .i64 0) ∧ W.cell? ⟨w.heap.size + 1 + 1, 1, none⟩ = some (.int .i64 0) ∧ W.cell? ⟨w.heap.size + 1 + 1, 2, none⟩ = some (.int .i64 0) ∧ W.cell? ⟨w.heap.size + 1 + 1, 3, none⟩ = some (.int .i64 0) ∧ W.cell? ⟨w.heap.size + 1 + 1, 4, none⟩ = some (.int .i64 0) ∧ w.heap.size < W.heap.size ∧ w.heap.size + 1 < W.heap.size ∧ w.heap.size + 1 + 1 < W.heap.size ∧ (∀ i, W.frozen? ⟨w.heap.size, i, none⟩ = false) ∧ (∀ i, W.frozen? ⟨w.heap.size + 1 + 1, i, none⟩ = false)))) := hidA (fun W hW => by and_intros <;> first | exact cellA hW (by rw [← hw0]; simp [go_sem]) | exact (by have h0 := hW.size; have h1 := hsz; omega) | exact (fun i => (hW.frozen (p := ⟨w.heap.size, i, none⟩) (show w.heap.size < w0.heap.size by have h1 := hsz; omega)).trans (by rw [← hw0]; simp [go_sem])) | exact (fun i => (hW.frozen (p := ⟨w.heap.size + 1 + 1, i, none⟩) (show w.heap.size + 1 + 1 < w0.heap.size by have h1 := hsz; omega)).trans (by rw [← hw0]; simp [go_sem])))
  have Hw := hidA hw0; clear hw0
  go_enter Try.func62, Try.ntmps62
  go_wp2_with fail
  rw [Hw.out]
  clear Hw
  have HS : Hid (Below w0.heap.size w0 w0) := hidA (Below.refl _ _)
  obtain ⟨c0, c1, c2, c3, c4, c5, c6, c7, c8, c9, c10, c11, c12, c13, c14, z0, z1, z2, fr0, fr2⟩ := PK.out _ HS.out
  go_wp2_with (first | (go_at_call 50; (with_reducible refine (step_any _ _).mono ?_); rintro e w1 ⟨rfl, hb⟩; have hs1 := stepA HS.out hb; clear hb; clear HS; have HS := hidA hs1; clear hs1 c0 c1 c2 c3 c4 c5 c6 c7 c8 c9 c10 c11 c12 c13 c14 z0 z1 z2 fr0 fr2; obtain ⟨c0, c1, c2, c3, c4, c5, c6, c7, c8, c9, c10, c11, c12, c13, c14, z0, z1, z2, fr0, fr2⟩ := PK.out _ HS.out) | (go_at_call 46; (with_reducible refine (BYC.out _).mono ?_); rintro e w1 ⟨rfl, hb⟩; have hs1 := stepA HS.out hb; clear hb; clear HS; have HS := hidA hs1; clear hs1 c0 c1 c2 c3 c4 c5 c6 c7 c8 c9 c10 c11 c12 c13 c14 z0 z1 z2 fr0 fr2; obtain ⟨c0, c1, c2, c3, c4, c5, c6, c7, c8, c9, c10, c11, c12, c13, c14, z0, z1, z2, fr0, fr2⟩ := PK.out _ HS.out))
  exact bodyPost_ret (v := .agg #[.int .i64 V.lo, .int .i64 V.hi, .int .i64 V.m, .int .i64 V.r, .int .i64 V.k]) (by simp [results, Try.results62, go_sem, c10, c11, c12, c13, c14, z2]) rfl ⟨by rfl, (by repeat (first | with_reducible exact Below.refl _ _ | with_reducible exact HS.out | with_reducible exact B0.out | with_reducible refine Below.setCell ?_ (by first | omega | simp <;> omega) _ | with_reducible refine Below.alloc ?_ (by first | omega | simp <;> omega) _ | with_reducible refine Below.drew ?_ | with_reducible refine drewnA ?_ _ | with_reducible refine Below.trans ?_ (HS.out.mono (by first | omega | simp <;> omega)) | with_reducible refine Below.trans ?_ (B0.out.mono (by first | omega | simp <;> omega))))⟩
set_option maxHeartbeats 1000000 in
theorem core_rem_zero (a b : Ab) (A : Val a) (B : Val b) (k : Nat) (hs : (stp b == 0) = true) (hs2 : (stp b != 0) = false) (HH : (((absI b.lo == 0) = true)) ∨ (((absI b.lo == 0) = false) ∧ (0 ≤ a.lo) ∧ (a.hi < absI b.lo))) (w : World) :
    Calls Try.prog 62 #[.agg #[.int .i64 a.lo, .int .i64 a.hi, .int .i64 a.m, .int .i64 a.r, .int .i64 a.k], .agg #[.int .i64 b.lo, .int .i64 b.hi, .int .i64 b.m, .int .i64 b.r, .int .i64 b.k], .int .i64 k] w fun e w' => e = .returned (.agg #[.int .i64 a.lo, .int .i64 a.hi, .int .i64 a.m, .int .i64 a.r, .int .i64 k]) ∧ Below w.heap.size w w' := by
  rcases HH with h0 | ⟨h0, h1, h2⟩
  all_goals
    have al := A.l; have ah := A.h; have ao := A.o; have bl := B.l; have bh := B.h; have bo := B.o
    obtain ⟨w0, hw0⟩ : ∃ w0, (((w.alloc (.cells #[.int .i64 a.lo, .int .i64 a.hi, .int .i64 a.m, .int .i64 a.r, .int .i64 a.k] 27)).alloc (.cells #[.int .i64 b.lo, .int .i64 b.hi, .int .i64 b.m, .int .i64 b.r, .int .i64 b.k] 27)).alloc (.cells #[.int .i64 0, .int .i64 0, .int .i64 0, .int .i64 0, .int .i64 0] 27)) = w0 := ⟨_, rfl⟩
    have B0 : Hid (Below w.heap.size w w0) := hidA (by rw [← hw0]; exact (alA (alA (alA (Below.refl _ _) _) _) _))
    have hsz : w.heap.size + 1 + 1 < w0.heap.size := by rw [← hw0]; simp
    have PK : Hid (∀ W, Below w0.heap.size w0 W → abF W (w.heap.size) a (abF W (w.heap.size + 1) b (W.cell? ⟨w.heap.size + 1 + 1, 0, none⟩ = some (.int .i64 0) ∧ W.cell? ⟨w.heap.size + 1 + 1, 1, none⟩ = some (.int .i64 0) ∧ W.cell? ⟨w.heap.size + 1 + 1, 2, none⟩ = some (.int .i64 0) ∧ W.cell? ⟨w.heap.size + 1 + 1, 3, none⟩ = some (.int .i64 0) ∧ W.cell? ⟨w.heap.size + 1 + 1, 4, none⟩ = some (.int .i64 0) ∧ w.heap.size < W.heap.size ∧ w.heap.size + 1 < W.heap.size ∧ w.heap.size + 1 + 1 < W.heap.size ∧ (∀ i, W.frozen? ⟨w.heap.size, i, none⟩ = false) ∧ (∀ i, W.frozen? ⟨w.heap.size + 1 + 1, i, none⟩ = false)))) := hidA (fun W hW => by and_intros <;> first | exact cellA hW (by rw [← hw0]; simp [go_sem]) | exact (by have h0 := hW.size; have h1 := hsz; omega) | exact (fun i => (hW.frozen (p := ⟨w.heap.size, i, none⟩) (show w.heap.size < w0.heap.size by have h1 := hsz; omega)).trans (by rw [← hw0]; simp [go_sem])) | exact (fun i => (hW.frozen (p := ⟨w.heap.size + 1 + 1, i, none⟩) (show w.heap.size + 1 + 1 < w0.heap.size by have h1 := hsz; omega)).trans (by rw [← hw0]; simp [go_sem])))
    have Hw := hidA hw0; clear hw0
    go_enter Try.func62, Try.ntmps62
    go_wp2_with fail
    rw [Hw.out]
    clear Hw
    have HS : Hid (Below w0.heap.size w0 w0) := hidA (Below.refl _ _)
    obtain ⟨c0, c1, c2, c3, c4, c5, c6, c7, c8, c9, c10, c11, c12, c13, c14, z0, z1, z2, fr0, fr2⟩ := PK.out _ HS.out
    go_wp2_with (first | (go_at_call 50; (with_reducible refine (step_any _ _).mono ?_); rintro e w1 ⟨rfl, hb⟩; have hs1 := stepA HS.out hb; clear hb; clear HS; have HS := hidA hs1; clear hs1 c0 c1 c2 c3 c4 c5 c6 c7 c8 c9 c10 c11 c12 c13 c14 z0 z1 z2 fr0 fr2; obtain ⟨c0, c1, c2, c3, c4, c5, c6, c7, c8, c9, c10, c11, c12, c13, c14, z0, z1, z2, fr0, fr2⟩ := PK.out _ HS.out) | (go_at_call 51; refine (abs_any _ ⟨by omega, by omega⟩ _).mono ?_; rintro e w1 ⟨rfl, rfl⟩))
    exact bodyPost_ret (v := .agg #[.int .i64 a.lo, .int .i64 a.hi, .int .i64 a.m, .int .i64 a.r, .int .i64 k]) (by simp [results, Try.results62, go_sem, c10, c11, c12, c13, c14, z2]) rfl ⟨by rfl, (by repeat (first | with_reducible exact Below.refl _ _ | with_reducible exact HS.out | with_reducible exact B0.out | with_reducible refine Below.setCell ?_ (by first | omega | simp <;> omega) _ | with_reducible refine Below.alloc ?_ (by first | omega | simp <;> omega) _ | with_reducible refine Below.drew ?_ | with_reducible refine drewnA ?_ _ | with_reducible refine Below.trans ?_ (HS.out.mono (by first | omega | simp <;> omega)) | with_reducible refine Below.trans ?_ (B0.out.mono (by first | omega | simp <;> omega))))⟩
theorem rem_zero (a b : Ab) (A : Val a) (B : Val b) (k : Nat) (hs : (stp b == 0) = true) (hs2 : (stp b != 0) = false) (h0 : (absI b.lo == 0) = true) (w : World) :
    Calls Try.prog 62 #[.agg #[.int .i64 a.lo, .int .i64 a.hi, .int .i64 a.m, .int .i64 a.r, .int .i64 a.k], .agg #[.int .i64 b.lo, .int .i64 b.hi, .int .i64 b.m, .int .i64 b.r, .int .i64 b.k], .int .i64 k] w fun e w' => e = .returned (.agg #[.int .i64 a.lo, .int .i64 a.hi, .int .i64 a.m, .int .i64 a.r, .int .i64 k]) ∧ Below w.heap.size w w' :=
  core_rem_zero a b A B k hs hs2 (Or.inl h0) w
set_option maxHeartbeats 1000000 in
theorem rem_same (a b : Ab) (A : Val a) (B : Val b) (k : Nat) (hs : (stp b == 0) = true) (hs2 : (stp b != 0) = false) (h0 : (absI b.lo == 0) = false) (h1 : 0 ≤ a.lo) (h2 : a.hi < absI b.lo) (w : World) :
    Calls Try.prog 62 #[.agg #[.int .i64 a.lo, .int .i64 a.hi, .int .i64 a.m, .int .i64 a.r, .int .i64 a.k], .agg #[.int .i64 b.lo, .int .i64 b.hi, .int .i64 b.m, .int .i64 b.r, .int .i64 b.k], .int .i64 k] w fun e w' => e = .returned (.agg #[.int .i64 a.lo, .int .i64 a.hi, .int .i64 a.m, .int .i64 a.r, .int .i64 k]) ∧ Below w.heap.size w w' :=
  core_rem_zero a b A B k hs hs2 (Or.inr ⟨h0, h1, h2⟩) w
set_option maxHeartbeats 2000000 in
theorem rem_nn (a b : Ab) (A : Val a) (B : Val b) (k : Nat) (V : Ab) (G lo hi : Int) (s0 : 0 ≤ stp a) (s1 : stp a ≤ 4294967296) (hn1 : absI b.lo ≤ 2147483648) (hn : 1 ≤ absI b.lo) (hG : gc (stp a) (absI b.lo) = G) (hs : (stp b == 0) = true) (hs2 : (stp b != 0) = false) (h0 : (absI b.lo == 0) = false) (h1 : a.lo < 0) (h3 : 0 < a.hi) (mx : (if a.lo < 1 - absI b.lo then 1 - absI b.lo else a.lo) = lo) (mn : (if absI b.lo - 1 < a.hi then absI b.lo - 1 else a.hi) = hi) (LK : Hid (∀ w, Calls Try.prog 55 #[.int .i64 a.lo, .int .i64 G, .int .i64 lo, .int .i64 hi, .int .i64 k] w fun e w' => e = .returned (.agg #[.int .i64 V.lo, .int .i64 V.hi, .int .i64 V.m, .int .i64 V.r, .int .i64 V.k]) ∧ Below w.heap.size w w')) (w : World) :
    Calls Try.prog 62 #[.agg #[.int .i64 a.lo, .int .i64 a.hi, .int .i64 a.m, .int .i64 a.r, .int .i64 a.k], .agg #[.int .i64 b.lo, .int .i64 b.hi, .int .i64 b.m, .int .i64 b.r, .int .i64 b.k], .int .i64 k] w fun e w' => e = .returned (.agg #[.int .i64 V.lo, .int .i64 V.hi, .int .i64 V.m, .int .i64 V.r, .int .i64 V.k]) ∧ Below w.heap.size w w' := by
  have al := A.l; have ah := A.h; have ao := A.o; have bl := B.l; have bh := B.h; have bo := B.o
  obtain ⟨w0, hw0⟩ : ∃ w0, (((w.alloc (.cells #[.int .i64 a.lo, .int .i64 a.hi, .int .i64 a.m, .int .i64 a.r, .int .i64 a.k] 27)).alloc (.cells #[.int .i64 b.lo, .int .i64 b.hi, .int .i64 b.m, .int .i64 b.r, .int .i64 b.k] 27)).alloc (.cells #[.int .i64 0, .int .i64 0, .int .i64 0, .int .i64 0, .int .i64 0] 27)) = w0 := ⟨_, rfl⟩
  have B0 : Hid (Below w.heap.size w w0) := hidA (by rw [← hw0]; exact (alA (alA (alA (Below.refl _ _) _) _) _))
  have hsz : w.heap.size + 1 + 1 < w0.heap.size := by rw [← hw0]; simp
  have PK : Hid (∀ W, Below w0.heap.size w0 W → abF W (w.heap.size) a (abF W (w.heap.size + 1) b (W.cell? ⟨w.heap.size + 1 + 1, 0, none⟩ = some (.int .i64 0) ∧ W.cell? ⟨w.heap.size + 1 + 1, 1, none⟩ = some (.int .i64 0) ∧ W.cell? ⟨w.heap.size + 1 + 1, 2, none⟩ = some (.int .i64 0) ∧ W.cell? ⟨w.heap.size + 1 + 1, 3, none⟩ = some (.int .i64 0) ∧ W.cell? ⟨w.heap.size + 1 + 1, 4, none⟩ = some (.int .i64 0) ∧ w.heap.size < W.heap.size ∧ w.heap.size + 1 < W.heap.size ∧ w.heap.size + 1 + 1 < W.heap.size ∧ (∀ i, W.frozen? ⟨w.heap.size, i, none⟩ = false) ∧ (∀ i, W.frozen? ⟨w.heap.size + 1 + 1, i, none⟩ = false)))) := hidA (fun W hW => by and_intros <;> first | exact cellA hW (by rw [← hw0]; simp [go_sem]) | exact (by have h0 := hW.size; have h1 := hsz; omega) | exact (fun i => (hW.frozen (p := ⟨w.heap.size, i, none⟩) (show w.heap.size < w0.heap.size by have h1 := hsz; omega)).trans (by rw [← hw0]; simp [go_sem])) | exact (fun i => (hW.frozen (p := ⟨w.heap.size + 1 + 1, i, none⟩) (show w.heap.size + 1 + 1 < w0.heap.size by have h1 := hsz; omega)).trans (by rw [← hw0]; simp [go_sem])))
  have Hw := hidA hw0; clear hw0
  go_enter Try.func62, Try.ntmps62
  go_wp2_with fail
  rw [Hw.out]
  clear Hw
  have HS : Hid (Below w0.heap.size w0 w0) := hidA (Below.refl _ _)
  obtain ⟨c0, c1, c2, c3, c4, c5, c6, c7, c8, c9, c10, c11, c12, c13, c14, z0, z1, z2, fr0, fr2⟩ := PK.out _ HS.out
  go_wp2_with (first | (go_at_call 50; (with_reducible refine (step_any _ _).mono ?_); rintro e w1 ⟨rfl, hb⟩; have hs1 := stepA HS.out hb; clear hb; clear HS; have HS := hidA hs1; clear hs1 c0 c1 c2 c3 c4 c5 c6 c7 c8 c9 c10 c11 c12 c13 c14 z0 z1 z2 fr0 fr2; obtain ⟨c0, c1, c2, c3, c4, c5, c6, c7, c8, c9, c10, c11, c12, c13, c14, z0, z1, z2, fr0, fr2⟩ := PK.out _ HS.out) | (go_at_call 51; refine (abs_any _ ⟨by omega, by omega⟩ _).mono ?_; rintro e w1 ⟨rfl, rfl⟩))
  obtain ⟨u0, hu0⟩ : ∃ u0, (w1.setCell ⟨w.heap.size, 4, none⟩ (.int .i64 (k : Int))) = u0 := ⟨_, rfl⟩
  have BN : Hid (Below w.heap.size w u0) := hidA (by rw [← hu0]; exact ((B0.out.trans (HS.out.mono (by omega))).setCell (by simp) _))
  have hszN : w.heap.size + 1 + 1 < u0.heap.size := by rw [← hu0]; simp [go_sem]; omega
  have K0 : Hid (u0.cell? ⟨w.heap.size, 0, none⟩ = some (.int .i64 a.lo)) := hidA (by rw [← hu0]; simp [go_sem, z0, z1, z2, c0, c1, c2, c3, c4, c5, c6, c7, c8, c9, c10, c11, c12, c13, c14])
  have K1 : Hid (u0.cell? ⟨w.heap.size, 1, none⟩ = some (.int .i64 a.hi)) := hidA (by rw [← hu0]; simp [go_sem, z0, z1, z2, c0, c1, c2, c3, c4, c5, c6, c7, c8, c9, c10, c11, c12, c13, c14])
  have K2 : Hid (u0.cell? ⟨w.heap.size, 2, none⟩ = some (.int .i64 a.m)) := hidA (by rw [← hu0]; simp [go_sem, z0, z1, z2, c0, c1, c2, c3, c4, c5, c6, c7, c8, c9, c10, c11, c12, c13, c14])
  have K3 : Hid (u0.cell? ⟨w.heap.size, 3, none⟩ = some (.int .i64 a.r)) := hidA (by rw [← hu0]; simp [go_sem, z0, z1, z2, c0, c1, c2, c3, c4, c5, c6, c7, c8, c9, c10, c11, c12, c13, c14])
  have K4 : Hid (u0.cell? ⟨w.heap.size, 4, none⟩ = some (.int .i64 k)) := hidA (by rw [← hu0]; simp [go_sem, z0, z1, z2, c0, c1, c2, c3, c4, c5, c6, c7, c8, c9, c10, c11, c12, c13, c14])
  have K5 : Hid (u0.cell? ⟨w.heap.size + 1, 0, none⟩ = some (.int .i64 b.lo)) := hidA (by rw [← hu0]; simp [go_sem, z0, z1, z2, c0, c1, c2, c3, c4, c5, c6, c7, c8, c9, c10, c11, c12, c13, c14])
  have K6 : Hid (u0.cell? ⟨w.heap.size + 1, 1, none⟩ = some (.int .i64 b.hi)) := hidA (by rw [← hu0]; simp [go_sem, z0, z1, z2, c0, c1, c2, c3, c4, c5, c6, c7, c8, c9, c10, c11, c12, c13, c14])
  have K7 : Hid (u0.cell? ⟨w.heap.size + 1, 2, none⟩ = some (.int .i64 b.m)) := hidA (by rw [← hu0]; simp [go_sem, z0, z1, z2, c0, c1, c2, c3, c4, c5, c6, c7, c8, c9, c10, c11, c12, c13, c14])
  have K8 : Hid (u0.cell? ⟨w.heap.size + 1, 3, none⟩ = some (.int .i64 b.r)) := hidA (by rw [← hu0]; simp [go_sem, z0, z1, z2, c0, c1, c2, c3, c4, c5, c6, c7, c8, c9, c10, c11, c12, c13, c14])
  have K9 : Hid (u0.cell? ⟨w.heap.size + 1, 4, none⟩ = some (.int .i64 b.k)) := hidA (by rw [← hu0]; simp [go_sem, z0, z1, z2, c0, c1, c2, c3, c4, c5, c6, c7, c8, c9, c10, c11, c12, c13, c14])
  have K10 : Hid (u0.cell? ⟨w.heap.size + 1 + 1, 0, none⟩ = some (.int .i64 0)) := hidA (by rw [← hu0]; simp [go_sem, z0, z1, z2, c0, c1, c2, c3, c4, c5, c6, c7, c8, c9, c10, c11, c12, c13, c14])
  have K11 : Hid (u0.cell? ⟨w.heap.size + 1 + 1, 1, none⟩ = some (.int .i64 0)) := hidA (by rw [← hu0]; simp [go_sem, z0, z1, z2, c0, c1, c2, c3, c4, c5, c6, c7, c8, c9, c10, c11, c12, c13, c14])
  have K12 : Hid (u0.cell? ⟨w.heap.size + 1 + 1, 2, none⟩ = some (.int .i64 0)) := hidA (by rw [← hu0]; simp [go_sem, z0, z1, z2, c0, c1, c2, c3, c4, c5, c6, c7, c8, c9, c10, c11, c12, c13, c14])
  have K13 : Hid (u0.cell? ⟨w.heap.size + 1 + 1, 3, none⟩ = some (.int .i64 0)) := hidA (by rw [← hu0]; simp [go_sem, z0, z1, z2, c0, c1, c2, c3, c4, c5, c6, c7, c8, c9, c10, c11, c12, c13, c14])
  have K14 : Hid (u0.cell? ⟨w.heap.size + 1 + 1, 4, none⟩ = some (.int .i64 0)) := hidA (by rw [← hu0]; simp [go_sem, z0, z1, z2, c0, c1, c2, c3, c4, c5, c6, c7, c8, c9, c10, c11, c12, c13, c14])
  have KF2 : Hid (∀ i, u0.frozen? ⟨w.heap.size + 1 + 1, i, none⟩ = false) := hidA (by intro i; rw [← hu0]; simp [go_sem, fr2])
  rw [hu0]
  clear hu0 PK B0 HS hsz
  clear c0 c1 c2 c3 c4 c5 c6 c7 c8 c9 c10 c11 c12 c13 c14 z0 z1 z2 fr0 fr2
  have PK : Hid (∀ W, Below u0.heap.size u0 W → W.cell? ⟨w.heap.size, 0, none⟩ = some (.int .i64 a.lo) ∧ W.cell? ⟨w.heap.size, 1, none⟩ = some (.int .i64 a.hi) ∧ W.cell? ⟨w.heap.size, 2, none⟩ = some (.int .i64 a.m) ∧ W.cell? ⟨w.heap.size, 3, none⟩ = some (.int .i64 a.r) ∧ W.cell? ⟨w.heap.size, 4, none⟩ = some (.int .i64 k) ∧ abF W (w.heap.size + 1) b (W.cell? ⟨w.heap.size + 1 + 1, 0, none⟩ = some (.int .i64 0) ∧ W.cell? ⟨w.heap.size + 1 + 1, 1, none⟩ = some (.int .i64 0) ∧ W.cell? ⟨w.heap.size + 1 + 1, 2, none⟩ = some (.int .i64 0) ∧ W.cell? ⟨w.heap.size + 1 + 1, 3, none⟩ = some (.int .i64 0) ∧ W.cell? ⟨w.heap.size + 1 + 1, 4, none⟩ = some (.int .i64 0) ∧ w.heap.size < W.heap.size ∧ w.heap.size + 1 < W.heap.size ∧ w.heap.size + 1 + 1 < W.heap.size ∧ (∀ i, W.frozen? ⟨w.heap.size + 1 + 1, i, none⟩ = false))) := hidA (fun W hW => ⟨cellA hW K0.out, cellA hW K1.out, cellA hW K2.out, cellA hW K3.out, cellA hW K4.out, cellA hW K5.out, cellA hW K6.out, cellA hW K7.out, cellA hW K8.out, cellA hW K9.out, cellA hW K10.out, cellA hW K11.out, cellA hW K12.out, cellA hW K13.out, cellA hW K14.out, (by have h0 := hW.size; have h1 := hszN; omega), (by have h0 := hW.size; have h1 := hszN; omega), (by have h0 := hW.size; have h1 := hszN; omega), (fun i => (hW.frozen (p := ⟨w.heap.size + 1 + 1, i, none⟩) (show w.heap.size + 1 + 1 < u0.heap.size by have h1 := hszN; omega)).trans (KF2.out i))⟩)
  clear K0 K1 K2 K3 K4 K5 K6 K7 K8 K9 K10 K11 K12 K13 K14 KF2
  have B0 := BN
  clear BN
  have hsz := hszN
  clear hszN
  have HS : Hid (Below u0.heap.size u0 u0) := hidA (Below.refl _ _)
  generalize u0 = w0 at *
  obtain ⟨c0, c1, c2, c3, c4, c5, c6, c7, c8, c9, c10, c11, c12, c13, c14, z0, z1, z2, fr2⟩ := PK.out _ HS.out
  have g0 := gc_nn (stp a) (absI b.lo)
  have STK : Hid (∀ w, Calls Try.prog 50 #[.agg #[.int .i64 a.lo, .int .i64 a.hi, .int .i64 a.m, .int .i64 a.r, .int .i64 k]] w fun e w' => e = .returned (.int .i64 (stp a)) ∧ Below w.heap.size w w') := hidA (fun w => step_any ⟨a.lo, a.hi, a.m, a.r, k⟩ w)
  clear mx mn
  rw [hG] at g0
  have hsD := HS.out.drew
  go_region_held3 (fun w' => w'.cell? ⟨w.heap.size, 0, none⟩ = some (.int .i64 a.lo) ∧ w'.cell? ⟨w.heap.size, 1, none⟩ = some (.int .i64 a.hi) ∧ w'.cell? ⟨w.heap.size, 2, none⟩ = some (.int .i64 a.m) ∧ w'.cell? ⟨w.heap.size, 3, none⟩ = some (.int .i64 a.r) ∧ w'.cell? ⟨w.heap.size, 4, none⟩ = some (.int .i64 k) ∧ Below (w.heap.size + 1 + 1) w0 w')
    (first | with_reducible exact ⟨cellD c0, cellD c1, cellD c2, cellD c3, cellD c4, Below.mono hsD (by omega)⟩ | with_reducible exact ⟨(PK.out _ (by assumption)).1, (PK.out _ (by assumption)).2.1, (PK.out _ (by assumption)).2.2.1, (PK.out _ (by assumption)).2.2.2.1, (PK.out _ (by assumption)).2.2.2.2.1, Below.mono (by assumption) (by omega)⟩ | exact ⟨by simpa [go_sem] using (PK.out _ hs1).1, by simpa [go_sem] using (PK.out _ hs1).2.1, by simpa [go_sem] using (PK.out _ hs1).2.2.1, by simpa [go_sem] using (PK.out _ hs1).2.2.2.1, by simpa [go_sem] using (PK.out _ hs1).2.2.2.2.1, ((((((Below.mono hs1 (by omega)).setCell (by first | exact Nat.le_refl _ | (simp; done) | (simp; omega) | omega) _).setCell (by first | exact Nat.le_refl _ | (simp; done) | (simp; omega) | omega) _).setCell (by first | exact Nat.le_refl _ | (simp; done) | (simp; omega) | omega) _).setCell (by first | exact Nat.le_refl _ | (simp; done) | (simp; omega) | omega) _).setCell (by first | exact Nat.le_refl _ | (simp; done) | (simp; omega) | omega) _)⟩)
    (first
      | ((go_at_call 50; refine (STK.out _).mono ?_; rintro e w1 ⟨rfl, hb1⟩; have hs1 : Below w0.heap.size w0 w1 := stepA (by assumption) hb1))
      | ((go_at_call 49; refine (gcd_any _ _ (by omega) (by omega) (by omega) (by omega) _).mono ?_; rintro e w1 ⟨rfl, hb1⟩; have hs1 : Below w0.heap.size w0 w1 := stepA (by assumption) hb1))
      | ((go_at_call 55; (with_reducible refine (LK.out _).mono ?_); rintro e w1 ⟨rfl, hb1⟩; have hs1 : Below w0.heap.size w0 w1 := stepA (by assumption) hb1; obtain ⟨dc0, dc1, dc2, dc3, dc4, dc5, dc6, dc7, dc8, dc9, dc10, dc11, dc12, dc13, dc14, dz0, dz1, dz2, dfr2⟩ := PK.out _ hs1)))
  go_wp2
  exact bodyPost_ret (v := .agg #[.int .i64 V.lo, .int .i64 V.hi, .int .i64 V.m, .int .i64 V.r, .int .i64 V.k]) (by simp [results, Try.results62, go_sem, dc10, dc11, dc12, dc13, dc14, dz2]) rfl ⟨by rfl, (by repeat (first | with_reducible exact Below.refl _ _ | with_reducible exact hs1 | with_reducible exact B0.out | with_reducible refine Below.setCell ?_ (by first | omega | simp <;> omega) _ | with_reducible refine Below.alloc ?_ (by first | omega | simp <;> omega) _ | with_reducible refine Below.drew ?_ | with_reducible refine drewnA ?_ _ | with_reducible refine Below.trans ?_ (hs1.mono (by first | omega | simp <;> omega)) | with_reducible refine Below.trans ?_ (B0.out.mono (by first | omega | simp <;> omega))))⟩
set_option maxHeartbeats 2000000 in
theorem rem_np (a b : Ab) (A : Val a) (B : Val b) (k : Nat) (V : Ab) (G lo hi : Int) (s0 : 0 ≤ stp a) (s1 : stp a ≤ 4294967296) (hn1 : absI b.lo ≤ 2147483648) (hn : 1 ≤ absI b.lo) (hG : gc (stp a) (absI b.lo) = G) (hs : (stp b == 0) = true) (hs2 : (stp b != 0) = false) (h0 : (absI b.lo == 0) = false) (h1 : a.lo < 0) (h3 : ¬ 0 < a.hi) (mx : (if a.lo < 1 - absI b.lo then 1 - absI b.lo else a.lo) = lo) (LK : Hid (∀ w, Calls Try.prog 55 #[.int .i64 a.lo, .int .i64 G, .int .i64 lo, .int .i64 0, .int .i64 k] w fun e w' => e = .returned (.agg #[.int .i64 V.lo, .int .i64 V.hi, .int .i64 V.m, .int .i64 V.r, .int .i64 V.k]) ∧ Below w.heap.size w w')) (w : World) :
    Calls Try.prog 62 #[.agg #[.int .i64 a.lo, .int .i64 a.hi, .int .i64 a.m, .int .i64 a.r, .int .i64 a.k], .agg #[.int .i64 b.lo, .int .i64 b.hi, .int .i64 b.m, .int .i64 b.r, .int .i64 b.k], .int .i64 k] w fun e w' => e = .returned (.agg #[.int .i64 V.lo, .int .i64 V.hi, .int .i64 V.m, .int .i64 V.r, .int .i64 V.k]) ∧ Below w.heap.size w w' := by
  have al := A.l; have ah := A.h; have ao := A.o; have bl := B.l; have bh := B.h; have bo := B.o
  obtain ⟨w0, hw0⟩ : ∃ w0, (((w.alloc (.cells #[.int .i64 a.lo, .int .i64 a.hi, .int .i64 a.m, .int .i64 a.r, .int .i64 a.k] 27)).alloc (.cells #[.int .i64 b.lo, .int .i64 b.hi, .int .i64 b.m, .int .i64 b.r, .int .i64 b.k] 27)).alloc (.cells #[.int .i64 0, .int .i64 0, .int .i64 0, .int .i64 0, .int .i64 0] 27)) = w0 := ⟨_, rfl⟩
  have B0 : Hid (Below w.heap.size w w0) := hidA (by rw [← hw0]; exact (alA (alA (alA (Below.refl _ _) _) _) _))
  have hsz : w.heap.size + 1 + 1 < w0.heap.size := by rw [← hw0]; simp
  have PK : Hid (∀ W, Below w0.heap.size w0 W → abF W (w.heap.size) a (abF W (w.heap.size + 1) b (W.cell? ⟨w.heap.size + 1 + 1, 0, none⟩ = some (.int .i64 0) ∧ W.cell? ⟨w.heap.size + 1 + 1, 1, none⟩ = some (.int .i64 0) ∧ W.cell? ⟨w.heap.size + 1 + 1, 2, none⟩ = some (.int .i64 0) ∧ W.cell? ⟨w.heap.size + 1 + 1, 3, none⟩ = some (.int .i64 0) ∧ W.cell? ⟨w.heap.size + 1 + 1, 4, none⟩ = some (.int .i64 0) ∧ w.heap.size < W.heap.size ∧ w.heap.size + 1 < W.heap.size ∧ w.heap.size + 1 + 1 < W.heap.size ∧ (∀ i, W.frozen? ⟨w.heap.size, i, none⟩ = false) ∧ (∀ i, W.frozen? ⟨w.heap.size + 1 + 1, i, none⟩ = false)))) := hidA (fun W hW => by and_intros <;> first | exact cellA hW (by rw [← hw0]; simp [go_sem]) | exact (by have h0 := hW.size; have h1 := hsz; omega) | exact (fun i => (hW.frozen (p := ⟨w.heap.size, i, none⟩) (show w.heap.size < w0.heap.size by have h1 := hsz; omega)).trans (by rw [← hw0]; simp [go_sem])) | exact (fun i => (hW.frozen (p := ⟨w.heap.size + 1 + 1, i, none⟩) (show w.heap.size + 1 + 1 < w0.heap.size by have h1 := hsz; omega)).trans (by rw [← hw0]; simp [go_sem])))
  have Hw := hidA hw0; clear hw0
  go_enter Try.func62, Try.ntmps62
  go_wp2_with fail
  rw [Hw.out]
  clear Hw
  have HS : Hid (Below w0.heap.size w0 w0) := hidA (Below.refl _ _)
  obtain ⟨c0, c1, c2, c3, c4, c5, c6, c7, c8, c9, c10, c11, c12, c13, c14, z0, z1, z2, fr0, fr2⟩ := PK.out _ HS.out
  go_wp2_with (first | (go_at_call 50; (with_reducible refine (step_any _ _).mono ?_); rintro e w1 ⟨rfl, hb⟩; have hs1 := stepA HS.out hb; clear hb; clear HS; have HS := hidA hs1; clear hs1 c0 c1 c2 c3 c4 c5 c6 c7 c8 c9 c10 c11 c12 c13 c14 z0 z1 z2 fr0 fr2; obtain ⟨c0, c1, c2, c3, c4, c5, c6, c7, c8, c9, c10, c11, c12, c13, c14, z0, z1, z2, fr0, fr2⟩ := PK.out _ HS.out) | (go_at_call 51; refine (abs_any _ ⟨by omega, by omega⟩ _).mono ?_; rintro e w1 ⟨rfl, rfl⟩))
  obtain ⟨u0, hu0⟩ : ∃ u0, (w1.setCell ⟨w.heap.size, 4, none⟩ (.int .i64 (k : Int))) = u0 := ⟨_, rfl⟩
  have BN : Hid (Below w.heap.size w u0) := hidA (by rw [← hu0]; exact ((B0.out.trans (HS.out.mono (by omega))).setCell (by simp) _))
  have hszN : w.heap.size + 1 + 1 < u0.heap.size := by rw [← hu0]; simp [go_sem]; omega
  have K0 : Hid (u0.cell? ⟨w.heap.size, 0, none⟩ = some (.int .i64 a.lo)) := hidA (by rw [← hu0]; simp [go_sem, z0, z1, z2, c0, c1, c2, c3, c4, c5, c6, c7, c8, c9, c10, c11, c12, c13, c14])
  have K1 : Hid (u0.cell? ⟨w.heap.size, 1, none⟩ = some (.int .i64 a.hi)) := hidA (by rw [← hu0]; simp [go_sem, z0, z1, z2, c0, c1, c2, c3, c4, c5, c6, c7, c8, c9, c10, c11, c12, c13, c14])
  have K2 : Hid (u0.cell? ⟨w.heap.size, 2, none⟩ = some (.int .i64 a.m)) := hidA (by rw [← hu0]; simp [go_sem, z0, z1, z2, c0, c1, c2, c3, c4, c5, c6, c7, c8, c9, c10, c11, c12, c13, c14])
  have K3 : Hid (u0.cell? ⟨w.heap.size, 3, none⟩ = some (.int .i64 a.r)) := hidA (by rw [← hu0]; simp [go_sem, z0, z1, z2, c0, c1, c2, c3, c4, c5, c6, c7, c8, c9, c10, c11, c12, c13, c14])
  have K4 : Hid (u0.cell? ⟨w.heap.size, 4, none⟩ = some (.int .i64 k)) := hidA (by rw [← hu0]; simp [go_sem, z0, z1, z2, c0, c1, c2, c3, c4, c5, c6, c7, c8, c9, c10, c11, c12, c13, c14])
  have K5 : Hid (u0.cell? ⟨w.heap.size + 1, 0, none⟩ = some (.int .i64 b.lo)) := hidA (by rw [← hu0]; simp [go_sem, z0, z1, z2, c0, c1, c2, c3, c4, c5, c6, c7, c8, c9, c10, c11, c12, c13, c14])
  have K6 : Hid (u0.cell? ⟨w.heap.size + 1, 1, none⟩ = some (.int .i64 b.hi)) := hidA (by rw [← hu0]; simp [go_sem, z0, z1, z2, c0, c1, c2, c3, c4, c5, c6, c7, c8, c9, c10, c11, c12, c13, c14])
  have K7 : Hid (u0.cell? ⟨w.heap.size + 1, 2, none⟩ = some (.int .i64 b.m)) := hidA (by rw [← hu0]; simp [go_sem, z0, z1, z2, c0, c1, c2, c3, c4, c5, c6, c7, c8, c9, c10, c11, c12, c13, c14])
  have K8 : Hid (u0.cell? ⟨w.heap.size + 1, 3, none⟩ = some (.int .i64 b.r)) := hidA (by rw [← hu0]; simp [go_sem, z0, z1, z2, c0, c1, c2, c3, c4, c5, c6, c7, c8, c9, c10, c11, c12, c13, c14])
  have K9 : Hid (u0.cell? ⟨w.heap.size + 1, 4, none⟩ = some (.int .i64 b.k)) := hidA (by rw [← hu0]; simp [go_sem, z0, z1, z2, c0, c1, c2, c3, c4, c5, c6, c7, c8, c9, c10, c11, c12, c13, c14])
  have K10 : Hid (u0.cell? ⟨w.heap.size + 1 + 1, 0, none⟩ = some (.int .i64 0)) := hidA (by rw [← hu0]; simp [go_sem, z0, z1, z2, c0, c1, c2, c3, c4, c5, c6, c7, c8, c9, c10, c11, c12, c13, c14])
  have K11 : Hid (u0.cell? ⟨w.heap.size + 1 + 1, 1, none⟩ = some (.int .i64 0)) := hidA (by rw [← hu0]; simp [go_sem, z0, z1, z2, c0, c1, c2, c3, c4, c5, c6, c7, c8, c9, c10, c11, c12, c13, c14])
  have K12 : Hid (u0.cell? ⟨w.heap.size + 1 + 1, 2, none⟩ = some (.int .i64 0)) := hidA (by rw [← hu0]; simp [go_sem, z0, z1, z2, c0, c1, c2, c3, c4, c5, c6, c7, c8, c9, c10, c11, c12, c13, c14])
  have K13 : Hid (u0.cell? ⟨w.heap.size + 1 + 1, 3, none⟩ = some (.int .i64 0)) := hidA (by rw [← hu0]; simp [go_sem, z0, z1, z2, c0, c1, c2, c3, c4, c5, c6, c7, c8, c9, c10, c11, c12, c13, c14])
  have K14 : Hid (u0.cell? ⟨w.heap.size + 1 + 1, 4, none⟩ = some (.int .i64 0)) := hidA (by rw [← hu0]; simp [go_sem, z0, z1, z2, c0, c1, c2, c3, c4, c5, c6, c7, c8, c9, c10, c11, c12, c13, c14])
  have KF2 : Hid (∀ i, u0.frozen? ⟨w.heap.size + 1 + 1, i, none⟩ = false) := hidA (by intro i; rw [← hu0]; simp [go_sem, fr2])
  rw [hu0]
  clear hu0 PK B0 HS hsz
  clear c0 c1 c2 c3 c4 c5 c6 c7 c8 c9 c10 c11 c12 c13 c14 z0 z1 z2 fr0 fr2
  have PK : Hid (∀ W, Below u0.heap.size u0 W → W.cell? ⟨w.heap.size, 0, none⟩ = some (.int .i64 a.lo) ∧ W.cell? ⟨w.heap.size, 1, none⟩ = some (.int .i64 a.hi) ∧ W.cell? ⟨w.heap.size, 2, none⟩ = some (.int .i64 a.m) ∧ W.cell? ⟨w.heap.size, 3, none⟩ = some (.int .i64 a.r) ∧ W.cell? ⟨w.heap.size, 4, none⟩ = some (.int .i64 k) ∧ abF W (w.heap.size + 1) b (W.cell? ⟨w.heap.size + 1 + 1, 0, none⟩ = some (.int .i64 0) ∧ W.cell? ⟨w.heap.size + 1 + 1, 1, none⟩ = some (.int .i64 0) ∧ W.cell? ⟨w.heap.size + 1 + 1, 2, none⟩ = some (.int .i64 0) ∧ W.cell? ⟨w.heap.size + 1 + 1, 3, none⟩ = some (.int .i64 0) ∧ W.cell? ⟨w.heap.size + 1 + 1, 4, none⟩ = some (.int .i64 0) ∧ w.heap.size < W.heap.size ∧ w.heap.size + 1 < W.heap.size ∧ w.heap.size + 1 + 1 < W.heap.size ∧ (∀ i, W.frozen? ⟨w.heap.size + 1 + 1, i, none⟩ = false))) := hidA (fun W hW => ⟨cellA hW K0.out, cellA hW K1.out, cellA hW K2.out, cellA hW K3.out, cellA hW K4.out, cellA hW K5.out, cellA hW K6.out, cellA hW K7.out, cellA hW K8.out, cellA hW K9.out, cellA hW K10.out, cellA hW K11.out, cellA hW K12.out, cellA hW K13.out, cellA hW K14.out, (by have h0 := hW.size; have h1 := hszN; omega), (by have h0 := hW.size; have h1 := hszN; omega), (by have h0 := hW.size; have h1 := hszN; omega), (fun i => (hW.frozen (p := ⟨w.heap.size + 1 + 1, i, none⟩) (show w.heap.size + 1 + 1 < u0.heap.size by have h1 := hszN; omega)).trans (KF2.out i))⟩)
  clear K0 K1 K2 K3 K4 K5 K6 K7 K8 K9 K10 K11 K12 K13 K14 KF2
  have B0 := BN
  clear BN
  have hsz := hszN
  clear hszN
  have HS : Hid (Below u0.heap.size u0 u0) := hidA (Below.refl _ _)
  generalize u0 = w0 at *
  obtain ⟨c0, c1, c2, c3, c4, c5, c6, c7, c8, c9, c10, c11, c12, c13, c14, z0, z1, z2, fr2⟩ := PK.out _ HS.out
  have g0 := gc_nn (stp a) (absI b.lo)
  have STK : Hid (∀ w, Calls Try.prog 50 #[.agg #[.int .i64 a.lo, .int .i64 a.hi, .int .i64 a.m, .int .i64 a.r, .int .i64 k]] w fun e w' => e = .returned (.int .i64 (stp a)) ∧ Below w.heap.size w w') := hidA (fun w => step_any ⟨a.lo, a.hi, a.m, a.r, k⟩ w)
  clear mx
  rw [hG] at g0
  have hsD := HS.out.drew
  go_region_held3 (fun w' => w'.cell? ⟨w.heap.size, 0, none⟩ = some (.int .i64 a.lo) ∧ w'.cell? ⟨w.heap.size, 1, none⟩ = some (.int .i64 a.hi) ∧ w'.cell? ⟨w.heap.size, 2, none⟩ = some (.int .i64 a.m) ∧ w'.cell? ⟨w.heap.size, 3, none⟩ = some (.int .i64 a.r) ∧ w'.cell? ⟨w.heap.size, 4, none⟩ = some (.int .i64 k) ∧ Below (w.heap.size + 1 + 1) w0 w')
    (first | with_reducible exact ⟨cellD c0, cellD c1, cellD c2, cellD c3, cellD c4, Below.mono hsD (by omega)⟩ | with_reducible exact ⟨(PK.out _ (by assumption)).1, (PK.out _ (by assumption)).2.1, (PK.out _ (by assumption)).2.2.1, (PK.out _ (by assumption)).2.2.2.1, (PK.out _ (by assumption)).2.2.2.2.1, Below.mono (by assumption) (by omega)⟩ | exact ⟨by simpa [go_sem] using (PK.out _ hs1).1, by simpa [go_sem] using (PK.out _ hs1).2.1, by simpa [go_sem] using (PK.out _ hs1).2.2.1, by simpa [go_sem] using (PK.out _ hs1).2.2.2.1, by simpa [go_sem] using (PK.out _ hs1).2.2.2.2.1, ((((((Below.mono hs1 (by omega)).setCell (by first | exact Nat.le_refl _ | (simp; done) | (simp; omega) | omega) _).setCell (by first | exact Nat.le_refl _ | (simp; done) | (simp; omega) | omega) _).setCell (by first | exact Nat.le_refl _ | (simp; done) | (simp; omega) | omega) _).setCell (by first | exact Nat.le_refl _ | (simp; done) | (simp; omega) | omega) _).setCell (by first | exact Nat.le_refl _ | (simp; done) | (simp; omega) | omega) _)⟩)
    (first
      | ((go_at_call 50; refine (STK.out _).mono ?_; rintro e w1 ⟨rfl, hb1⟩; have hs1 : Below w0.heap.size w0 w1 := stepA (by assumption) hb1))
      | ((go_at_call 49; refine (gcd_any _ _ (by omega) (by omega) (by omega) (by omega) _).mono ?_; rintro e w1 ⟨rfl, hb1⟩; have hs1 : Below w0.heap.size w0 w1 := stepA (by assumption) hb1))
      | ((go_at_call 55; (with_reducible refine (LK.out _).mono ?_); rintro e w1 ⟨rfl, hb1⟩; have hs1 : Below w0.heap.size w0 w1 := stepA (by assumption) hb1; obtain ⟨dc0, dc1, dc2, dc3, dc4, dc5, dc6, dc7, dc8, dc9, dc10, dc11, dc12, dc13, dc14, dz0, dz1, dz2, dfr2⟩ := PK.out _ hs1)))
  go_wp2
  exact bodyPost_ret (v := .agg #[.int .i64 V.lo, .int .i64 V.hi, .int .i64 V.m, .int .i64 V.r, .int .i64 V.k]) (by simp [results, Try.results62, go_sem, dc10, dc11, dc12, dc13, dc14, dz2]) rfl ⟨by rfl, (by repeat (first | with_reducible exact Below.refl _ _ | with_reducible exact hs1 | with_reducible exact B0.out | with_reducible refine Below.setCell ?_ (by first | omega | simp <;> omega) _ | with_reducible refine Below.alloc ?_ (by first | omega | simp <;> omega) _ | with_reducible refine Below.drew ?_ | with_reducible refine drewnA ?_ _ | with_reducible refine Below.trans ?_ (hs1.mono (by first | omega | simp <;> omega)) | with_reducible refine Below.trans ?_ (B0.out.mono (by first | omega | simp <;> omega))))⟩
set_option maxHeartbeats 2000000 in
theorem rem_pp (a b : Ab) (A : Val a) (B : Val b) (k : Nat) (V : Ab) (G lo hi : Int) (s0 : 0 ≤ stp a) (s1 : stp a ≤ 4294967296) (hn1 : absI b.lo ≤ 2147483648) (hn : 1 ≤ absI b.lo) (hG : gc (stp a) (absI b.lo) = G) (hs : (stp b == 0) = true) (hs2 : (stp b != 0) = false) (h0 : (absI b.lo == 0) = false) (h1 : ¬ a.lo < 0) (h3 : 0 < a.hi) (h4 : ¬ a.hi < absI b.lo) (LK : Hid (∀ w, Calls Try.prog 55 #[.int .i64 a.lo, .int .i64 G, .int .i64 0, .int .i64 (absI b.lo - 1), .int .i64 k] w fun e w' => e = .returned (.agg #[.int .i64 V.lo, .int .i64 V.hi, .int .i64 V.m, .int .i64 V.r, .int .i64 V.k]) ∧ Below w.heap.size w w')) (w : World) :
    Calls Try.prog 62 #[.agg #[.int .i64 a.lo, .int .i64 a.hi, .int .i64 a.m, .int .i64 a.r, .int .i64 a.k], .agg #[.int .i64 b.lo, .int .i64 b.hi, .int .i64 b.m, .int .i64 b.r, .int .i64 b.k], .int .i64 k] w fun e w' => e = .returned (.agg #[.int .i64 V.lo, .int .i64 V.hi, .int .i64 V.m, .int .i64 V.r, .int .i64 V.k]) ∧ Below w.heap.size w w' := by
  have al := A.l; have ah := A.h; have ao := A.o; have bl := B.l; have bh := B.h; have bo := B.o
  obtain ⟨w0, hw0⟩ : ∃ w0, (((w.alloc (.cells #[.int .i64 a.lo, .int .i64 a.hi, .int .i64 a.m, .int .i64 a.r, .int .i64 a.k] 27)).alloc (.cells #[.int .i64 b.lo, .int .i64 b.hi, .int .i64 b.m, .int .i64 b.r, .int .i64 b.k] 27)).alloc (.cells #[.int .i64 0, .int .i64 0, .int .i64 0, .int .i64 0, .int .i64 0] 27)) = w0 := ⟨_, rfl⟩
  have B0 : Hid (Below w.heap.size w w0) := hidA (by rw [← hw0]; exact (alA (alA (alA (Below.refl _ _) _) _) _))
  have hsz : w.heap.size + 1 + 1 < w0.heap.size := by rw [← hw0]; simp
  have PK : Hid (∀ W, Below w0.heap.size w0 W → abF W (w.heap.size) a (abF W (w.heap.size + 1) b (W.cell? ⟨w.heap.size + 1 + 1, 0, none⟩ = some (.int .i64 0) ∧ W.cell? ⟨w.heap.size + 1 + 1, 1, none⟩ = some (.int .i64 0) ∧ W.cell? ⟨w.heap.size + 1 + 1, 2, none⟩ = some (.int .i64 0) ∧ W.cell? ⟨w.heap.size + 1 + 1, 3, none⟩ = some (.int .i64 0) ∧ W.cell? ⟨w.heap.size + 1 + 1, 4, none⟩ = some (.int .i64 0) ∧ w.heap.size < W.heap.size ∧ w.heap.size + 1 < W.heap.size ∧ w.heap.size + 1 + 1 < W.heap.size ∧ (∀ i, W.frozen? ⟨w.heap.size, i, none⟩ = false) ∧ (∀ i, W.frozen? ⟨w.heap.size + 1 + 1, i, none⟩ = false)))) := hidA (fun W hW => by and_intros <;> first | exact cellA hW (by rw [← hw0]; simp [go_sem]) | exact (by have h0 := hW.size; have h1 := hsz; omega) | exact (fun i => (hW.frozen (p := ⟨w.heap.size, i, none⟩) (show w.heap.size < w0.heap.size by have h1 := hsz; omega)).trans (by rw [← hw0]; simp [go_sem])) | exact (fun i => (hW.frozen (p := ⟨w.heap.size + 1 + 1, i, none⟩) (show w.heap.size + 1 + 1 < w0.heap.size by have h1 := hsz; omega)).trans (by rw [← hw0]; simp [go_sem])))
  have Hw := hidA hw0; clear hw0
  go_enter Try.func62, Try.ntmps62
  go_wp2_with fail
  rw [Hw.out]
  clear Hw
  have HS : Hid (Below w0.heap.size w0 w0) := hidA (Below.refl _ _)
  obtain ⟨c0, c1, c2, c3, c4, c5, c6, c7, c8, c9, c10, c11, c12, c13, c14, z0, z1, z2, fr0, fr2⟩ := PK.out _ HS.out
  go_wp2_with (first | (go_at_call 50; (with_reducible refine (step_any _ _).mono ?_); rintro e w1 ⟨rfl, hb⟩; have hs1 := stepA HS.out hb; clear hb; clear HS; have HS := hidA hs1; clear hs1 c0 c1 c2 c3 c4 c5 c6 c7 c8 c9 c10 c11 c12 c13 c14 z0 z1 z2 fr0 fr2; obtain ⟨c0, c1, c2, c3, c4, c5, c6, c7, c8, c9, c10, c11, c12, c13, c14, z0, z1, z2, fr0, fr2⟩ := PK.out _ HS.out) | (go_at_call 51; refine (abs_any _ ⟨by omega, by omega⟩ _).mono ?_; rintro e w1 ⟨rfl, rfl⟩))
  obtain ⟨u0, hu0⟩ : ∃ u0, (w1.setCell ⟨w.heap.size, 4, none⟩ (.int .i64 (k : Int))) = u0 := ⟨_, rfl⟩
  have BN : Hid (Below w.heap.size w u0) := hidA (by rw [← hu0]; exact ((B0.out.trans (HS.out.mono (by omega))).setCell (by simp) _))
  have hszN : w.heap.size + 1 + 1 < u0.heap.size := by rw [← hu0]; simp [go_sem]; omega
  have K0 : Hid (u0.cell? ⟨w.heap.size, 0, none⟩ = some (.int .i64 a.lo)) := hidA (by rw [← hu0]; simp [go_sem, z0, z1, z2, c0, c1, c2, c3, c4, c5, c6, c7, c8, c9, c10, c11, c12, c13, c14])
  have K1 : Hid (u0.cell? ⟨w.heap.size, 1, none⟩ = some (.int .i64 a.hi)) := hidA (by rw [← hu0]; simp [go_sem, z0, z1, z2, c0, c1, c2, c3, c4, c5, c6, c7, c8, c9, c10, c11, c12, c13, c14])
  have K2 : Hid (u0.cell? ⟨w.heap.size, 2, none⟩ = some (.int .i64 a.m)) := hidA (by rw [← hu0]; simp [go_sem, z0, z1, z2, c0, c1, c2, c3, c4, c5, c6, c7, c8, c9, c10, c11, c12, c13, c14])
  have K3 : Hid (u0.cell? ⟨w.heap.size, 3, none⟩ = some (.int .i64 a.r)) := hidA (by rw [← hu0]; simp [go_sem, z0, z1, z2, c0, c1, c2, c3, c4, c5, c6, c7, c8, c9, c10, c11, c12, c13, c14])
  have K4 : Hid (u0.cell? ⟨w.heap.size, 4, none⟩ = some (.int .i64 k)) := hidA (by rw [← hu0]; simp [go_sem, z0, z1, z2, c0, c1, c2, c3, c4, c5, c6, c7, c8, c9, c10, c11, c12, c13, c14])
  have K5 : Hid (u0.cell? ⟨w.heap.size + 1, 0, none⟩ = some (.int .i64 b.lo)) := hidA (by rw [← hu0]; simp [go_sem, z0, z1, z2, c0, c1, c2, c3, c4, c5, c6, c7, c8, c9, c10, c11, c12, c13, c14])
  have K6 : Hid (u0.cell? ⟨w.heap.size + 1, 1, none⟩ = some (.int .i64 b.hi)) := hidA (by rw [← hu0]; simp [go_sem, z0, z1, z2, c0, c1, c2, c3, c4, c5, c6, c7, c8, c9, c10, c11, c12, c13, c14])
  have K7 : Hid (u0.cell? ⟨w.heap.size + 1, 2, none⟩ = some (.int .i64 b.m)) := hidA (by rw [← hu0]; simp [go_sem, z0, z1, z2, c0, c1, c2, c3, c4, c5, c6, c7, c8, c9, c10, c11, c12, c13, c14])
  have K8 : Hid (u0.cell? ⟨w.heap.size + 1, 3, none⟩ = some (.int .i64 b.r)) := hidA (by rw [← hu0]; simp [go_sem, z0, z1, z2, c0, c1, c2, c3, c4, c5, c6, c7, c8, c9, c10, c11, c12, c13, c14])
  have K9 : Hid (u0.cell? ⟨w.heap.size + 1, 4, none⟩ = some (.int .i64 b.k)) := hidA (by rw [← hu0]; simp [go_sem, z0, z1, z2, c0, c1, c2, c3, c4, c5, c6, c7, c8, c9, c10, c11, c12, c13, c14])
  have K10 : Hid (u0.cell? ⟨w.heap.size + 1 + 1, 0, none⟩ = some (.int .i64 0)) := hidA (by rw [← hu0]; simp [go_sem, z0, z1, z2, c0, c1, c2, c3, c4, c5, c6, c7, c8, c9, c10, c11, c12, c13, c14])
  have K11 : Hid (u0.cell? ⟨w.heap.size + 1 + 1, 1, none⟩ = some (.int .i64 0)) := hidA (by rw [← hu0]; simp [go_sem, z0, z1, z2, c0, c1, c2, c3, c4, c5, c6, c7, c8, c9, c10, c11, c12, c13, c14])
  have K12 : Hid (u0.cell? ⟨w.heap.size + 1 + 1, 2, none⟩ = some (.int .i64 0)) := hidA (by rw [← hu0]; simp [go_sem, z0, z1, z2, c0, c1, c2, c3, c4, c5, c6, c7, c8, c9, c10, c11, c12, c13, c14])
  have K13 : Hid (u0.cell? ⟨w.heap.size + 1 + 1, 3, none⟩ = some (.int .i64 0)) := hidA (by rw [← hu0]; simp [go_sem, z0, z1, z2, c0, c1, c2, c3, c4, c5, c6, c7, c8, c9, c10, c11, c12, c13, c14])
  have K14 : Hid (u0.cell? ⟨w.heap.size + 1 + 1, 4, none⟩ = some (.int .i64 0)) := hidA (by rw [← hu0]; simp [go_sem, z0, z1, z2, c0, c1, c2, c3, c4, c5, c6, c7, c8, c9, c10, c11, c12, c13, c14])
  have KF2 : Hid (∀ i, u0.frozen? ⟨w.heap.size + 1 + 1, i, none⟩ = false) := hidA (by intro i; rw [← hu0]; simp [go_sem, fr2])
  rw [hu0]
  clear hu0 PK B0 HS hsz
  clear c0 c1 c2 c3 c4 c5 c6 c7 c8 c9 c10 c11 c12 c13 c14 z0 z1 z2 fr0 fr2
  have PK : Hid (∀ W, Below u0.heap.size u0 W → W.cell? ⟨w.heap.size, 0, none⟩ = some (.int .i64 a.lo) ∧ W.cell? ⟨w.heap.size, 1, none⟩ = some (.int .i64 a.hi) ∧ W.cell? ⟨w.heap.size, 2, none⟩ = some (.int .i64 a.m) ∧ W.cell? ⟨w.heap.size, 3, none⟩ = some (.int .i64 a.r) ∧ W.cell? ⟨w.heap.size, 4, none⟩ = some (.int .i64 k) ∧ abF W (w.heap.size + 1) b (W.cell? ⟨w.heap.size + 1 + 1, 0, none⟩ = some (.int .i64 0) ∧ W.cell? ⟨w.heap.size + 1 + 1, 1, none⟩ = some (.int .i64 0) ∧ W.cell? ⟨w.heap.size + 1 + 1, 2, none⟩ = some (.int .i64 0) ∧ W.cell? ⟨w.heap.size + 1 + 1, 3, none⟩ = some (.int .i64 0) ∧ W.cell? ⟨w.heap.size + 1 + 1, 4, none⟩ = some (.int .i64 0) ∧ w.heap.size < W.heap.size ∧ w.heap.size + 1 < W.heap.size ∧ w.heap.size + 1 + 1 < W.heap.size ∧ (∀ i, W.frozen? ⟨w.heap.size + 1 + 1, i, none⟩ = false))) := hidA (fun W hW => ⟨cellA hW K0.out, cellA hW K1.out, cellA hW K2.out, cellA hW K3.out, cellA hW K4.out, cellA hW K5.out, cellA hW K6.out, cellA hW K7.out, cellA hW K8.out, cellA hW K9.out, cellA hW K10.out, cellA hW K11.out, cellA hW K12.out, cellA hW K13.out, cellA hW K14.out, (by have h0 := hW.size; have h1 := hszN; omega), (by have h0 := hW.size; have h1 := hszN; omega), (by have h0 := hW.size; have h1 := hszN; omega), (fun i => (hW.frozen (p := ⟨w.heap.size + 1 + 1, i, none⟩) (show w.heap.size + 1 + 1 < u0.heap.size by have h1 := hszN; omega)).trans (KF2.out i))⟩)
  clear K0 K1 K2 K3 K4 K5 K6 K7 K8 K9 K10 K11 K12 K13 K14 KF2
  have B0 := BN
  clear BN
  have hsz := hszN
  clear hszN
  have HS : Hid (Below u0.heap.size u0 u0) := hidA (Below.refl _ _)
  generalize u0 = w0 at *
  obtain ⟨c0, c1, c2, c3, c4, c5, c6, c7, c8, c9, c10, c11, c12, c13, c14, z0, z1, z2, fr2⟩ := PK.out _ HS.out
  have g0 := gc_nn (stp a) (absI b.lo)
  have STK : Hid (∀ w, Calls Try.prog 50 #[.agg #[.int .i64 a.lo, .int .i64 a.hi, .int .i64 a.m, .int .i64 a.r, .int .i64 k]] w fun e w' => e = .returned (.int .i64 (stp a)) ∧ Below w.heap.size w w') := hidA (fun w => step_any ⟨a.lo, a.hi, a.m, a.r, k⟩ w)
  rw [hG] at g0
  have hsD := HS.out.drew
  go_region_held3 (fun w' => w'.cell? ⟨w.heap.size, 0, none⟩ = some (.int .i64 a.lo) ∧ w'.cell? ⟨w.heap.size, 1, none⟩ = some (.int .i64 a.hi) ∧ w'.cell? ⟨w.heap.size, 2, none⟩ = some (.int .i64 a.m) ∧ w'.cell? ⟨w.heap.size, 3, none⟩ = some (.int .i64 a.r) ∧ w'.cell? ⟨w.heap.size, 4, none⟩ = some (.int .i64 k) ∧ Below (w.heap.size + 1 + 1) w0 w')
    (first | with_reducible exact ⟨cellD c0, cellD c1, cellD c2, cellD c3, cellD c4, Below.mono hsD (by omega)⟩ | with_reducible exact ⟨(PK.out _ (by assumption)).1, (PK.out _ (by assumption)).2.1, (PK.out _ (by assumption)).2.2.1, (PK.out _ (by assumption)).2.2.2.1, (PK.out _ (by assumption)).2.2.2.2.1, Below.mono (by assumption) (by omega)⟩ | exact ⟨by simpa [go_sem] using (PK.out _ hs1).1, by simpa [go_sem] using (PK.out _ hs1).2.1, by simpa [go_sem] using (PK.out _ hs1).2.2.1, by simpa [go_sem] using (PK.out _ hs1).2.2.2.1, by simpa [go_sem] using (PK.out _ hs1).2.2.2.2.1, ((((((Below.mono hs1 (by omega)).setCell (by first | exact Nat.le_refl _ | (simp; done) | (simp; omega) | omega) _).setCell (by first | exact Nat.le_refl _ | (simp; done) | (simp; omega) | omega) _).setCell (by first | exact Nat.le_refl _ | (simp; done) | (simp; omega) | omega) _).setCell (by first | exact Nat.le_refl _ | (simp; done) | (simp; omega) | omega) _).setCell (by first | exact Nat.le_refl _ | (simp; done) | (simp; omega) | omega) _)⟩)
    (first
      | ((go_at_call 50; refine (STK.out _).mono ?_; rintro e w1 ⟨rfl, hb1⟩; have hs1 : Below w0.heap.size w0 w1 := stepA (by assumption) hb1))
      | ((go_at_call 49; refine (gcd_any _ _ (by omega) (by omega) (by omega) (by omega) _).mono ?_; rintro e w1 ⟨rfl, hb1⟩; have hs1 : Below w0.heap.size w0 w1 := stepA (by assumption) hb1))
      | ((go_at_call 55; (with_reducible refine (LK.out _).mono ?_); rintro e w1 ⟨rfl, hb1⟩; have hs1 : Below w0.heap.size w0 w1 := stepA (by assumption) hb1; obtain ⟨dc0, dc1, dc2, dc3, dc4, dc5, dc6, dc7, dc8, dc9, dc10, dc11, dc12, dc13, dc14, dz0, dz1, dz2, dfr2⟩ := PK.out _ hs1)))
  go_wp2
  exact bodyPost_ret (v := .agg #[.int .i64 V.lo, .int .i64 V.hi, .int .i64 V.m, .int .i64 V.r, .int .i64 V.k]) (by simp [results, Try.results62, go_sem, dc10, dc11, dc12, dc13, dc14, dz2]) rfl ⟨by rfl, (by repeat (first | with_reducible exact Below.refl _ _ | with_reducible exact hs1 | with_reducible exact B0.out | with_reducible refine Below.setCell ?_ (by first | omega | simp <;> omega) _ | with_reducible refine Below.alloc ?_ (by first | omega | simp <;> omega) _ | with_reducible refine Below.drew ?_ | with_reducible refine drewnA ?_ _ | with_reducible refine Below.trans ?_ (hs1.mono (by first | omega | simp <;> omega)) | with_reducible refine Below.trans ?_ (B0.out.mono (by first | omega | simp <;> omega))))⟩
theorem rem_any (a b : Ab) (A : Val a) (B : Val b) (k : Nat) (w : World) :
    Calls Try.prog 62 #[.agg #[.int .i64 a.lo, .int .i64 a.hi, .int .i64 a.m, .int .i64 a.r, .int .i64 a.k], .agg #[.int .i64 b.lo, .int .i64 b.hi, .int .i64 b.m, .int .i64 b.r, .int .i64 b.k], .int .i64 k] w fun e w' => e = .returned (.agg #[.int .i64 (remA a b k).lo, .int .i64 (remA a b k).hi, .int .i64 (remA a b k).m, .int .i64 (remA a b k).r, .int .i64 (remA a b k).k]) ∧ Below w.heap.size w w' := by
  have al := A.l; have ah := A.h; have ao := A.o; have bl := B.l; have bh := B.h; have bo := B.o
  have WA := stp_bd (val_wb A)
  unfold remA
  by_cases h : stp b = 0
  · rw [if_neg (fun g => g h)]
    have f1 : (stp b == 0) = true := by simpa using h
    have f2 : (stp b != 0) = false := by simpa using h
    have n0 : 0 ≤ absI b.lo := by unfold absI; omega
    have n1 : absI b.lo ≤ 2147483648 := by unfold absI; omega
    by_cases hz : absI b.lo = 0
    · rw [if_pos (Or.inl hz)]
      exact rem_zero a b A B k f1 f2 (by simpa using hz) w
    · have g0 : (absI b.lo == 0) = false := by simpa using hz
      by_cases hs : 0 ≤ a.lo ∧ a.hi < absI b.lo
      · rw [if_pos (Or.inr hs)]
        exact rem_same a b A B k f1 f2 g0 hs.1 hs.2 w
      · rw [if_neg (fun g => g.elim hz hs)]
        have RI := rem_in A hz (mem_lo A)
        have GC := rem_gc A hz
        have G2 : gc (stp a) (absI b.lo) ≤ 4294967296 := gc_le WA.1 n0 WA.2 (by omega)
        have LK : ∀ lo hi, lo = (if a.lo < 0 then max a.lo (1 - absI b.lo) else 0) → hi = (if 0 < a.hi then min a.hi (absI b.lo - 1) else 0) → Hid (∀ w, Calls Try.prog 55 #[.int .i64 a.lo, .int .i64 (gc (stp a) (absI b.lo)), .int .i64 lo, .int .i64 hi, .int .i64 k] w fun e w' => e = .returned (.agg #[.int .i64 (likeA a.lo (gc (stp a) (absI b.lo)) lo hi k).lo, .int .i64 (likeA a.lo (gc (stp a) (absI b.lo)) lo hi k).hi, .int .i64 (likeA a.lo (gc (stp a) (absI b.lo)) lo hi k).m, .int .i64 (likeA a.lo (gc (stp a) (absI b.lo)) lo hi k).r, .int .i64 (likeA a.lo (gc (stp a) (absI b.lo)) lo hi k).k]) ∧ Below w.heap.size w w') := by
          intro lo hi hlo hhi
          rw [← hlo, ← hhi] at RI
          have lo1 : -2147483648 ≤ lo := by rw [hlo]; split <;> omega
          have hi1 : hi ≤ 2147483647 := by rw [hhi]; split <;> omega
          have ex := (like_mem k GC RI _).2 RI
          have ex1 := ex.1
          unfold likeA at ex1
          rw [by_lo] at ex1
          exact hidA (fun w => like_any _ _ _ _ _ ⟨by omega, by omega⟩ GC (by omega) lo1 (by omega) hi1 ⟨by omega, by omega⟩ (by omega) w)
        by_cases c1 : a.lo < 0
        · by_cases c2 : 0 < a.hi
          · rw [if_pos c1, if_pos c2]
            exact rem_nn a b A B k _ _ _ _ WA.1 WA.2 n1 (by omega) rfl f1 f2 g0 c1 c2 (by split <;> omega) (by split <;> omega) (LK _ _ (by rw [if_pos c1]) (by rw [if_pos c2])) w
          · rw [if_pos c1, if_neg c2]
            exact rem_np a b A B k _ _ _ 0 WA.1 WA.2 n1 (by omega) rfl f1 f2 g0 c1 c2 (by split <;> omega) (LK _ _ (by rw [if_pos c1]) (by rw [if_neg c2])) w
        · have c2 : 0 < a.hi := by omega
          rw [if_neg c1, if_pos c2]
          exact rem_pp a b A B k _ _ 0 0 WA.1 WA.2 n1 (by omega) rfl f1 f2 g0 c1 c2 (by omega) (by rw [show min a.hi (absI b.lo - 1) = absI b.lo - 1 by omega]; exact LK _ _ (by rw [if_neg c1]) (by rw [if_pos c2]; omega)) w
  · rw [if_pos h]
    exact rem_set a b A B k _ (by simpa using h) (by simpa using h) (min a.lo 0) (max a.hi 0) (by split <;> omega) (by split <;> omega) (byc1 (by omega) (by omega) (by omega) k) w
end Go.Proofs.Ytdopjadlbhacfaa

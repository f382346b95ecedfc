import Derived.Test.YtdopjadlbhacfaaBa
import Derived.Deep.Cut
import Derived.Deep.DeepCutAuto
namespace Go.Proofs.Ytdopjadlbhacfaa
open Go.RowKit Go.Instr Sp
set_option linter.unusedVariables false
set_option linter.unusedSimpArgs false

/-! span's sets of a class, from one number to another. -/
set_option maxRecDepth 100000 in
set_option maxHeartbeats 2000000 in
theorem wi_znone (r m lo hi L H : Int) (hr : Far r) (l1 : -8589934592 ≤ lo) (l2 : lo ≤ 8589934592) (l3 : -8589934592 ≤ hi) (l4 : hi ≤ 8589934592) (hm : (m == 0) = true) (eL : (if lo < r then r else lo) = L) (eH : (if r < hi then r else hi) = H) (c : H < L) (w : World) :
    Calls Try.prog 41 #[.agg #[.int .i64 r, .int .i64 m], .int .i64 lo, .int .i64 hi] w fun e w' => e = .returned (.tuple #[.agg #[.int .i64 0, .int .i64 0, .int .i64 0, .int .i64 0, .int .i64 0], .bool false]) ∧ Below w.heap.size w w' := by
  obtain ⟨r1, r2⟩ := hr
  obtain ⟨w0, hw0⟩ : ∃ w0, ((w.alloc (.cells #[.int .i64 r, .int .i64 m] 69)).alloc (.cells #[.int .i64 0, .int .i64 0, .int .i64 0, .int .i64 0, .int .i64 0] 27)) = w0 := ⟨_, rfl⟩
  have B0 : Hid (Below w.heap.size w w0) := hidA (by rw [← hw0]; exact (alA (alA (Below.refl _ _) _) _))
  have hsz : w.heap.size + 1 < w0.heap.size := by rw [← hw0]; simp
  have PK : Hid (∀ W, Below w0.heap.size w0 W → W.cell? ⟨w.heap.size, 0, none⟩ = some (.int .i64 r) ∧ W.cell? ⟨w.heap.size, 1, none⟩ = some (.int .i64 m) ∧ W.cell? ⟨w.heap.size + 1, 0, none⟩ = some (.int .i64 0) ∧ W.cell? ⟨w.heap.size + 1, 1, none⟩ = some (.int .i64 0) ∧ W.cell? ⟨w.heap.size + 1, 2, none⟩ = some (.int .i64 0) ∧ W.cell? ⟨w.heap.size + 1, 3, none⟩ = some (.int .i64 0) ∧ W.cell? ⟨w.heap.size + 1, 4, none⟩ = some (.int .i64 0) ∧ w.heap.size < W.heap.size ∧ w.heap.size + 1 < W.heap.size ∧ (∀ i, W.frozen? ⟨w.heap.size + 1, i, none⟩ = false)) := hidA (fun W hW => by and_intros <;> first | exact cellA hW (by rw [← hw0]; simp [go_sem]) | exact (by have h0 := hW.size; have h1 := hsz; omega) | exact (fun i => (hW.frozen (p := ⟨w.heap.size + 1, i, none⟩) (show w.heap.size + 1 < w0.heap.size by have h1 := hsz; omega)).trans (by rw [← hw0]; simp [go_sem])))
  have Hw := hidA hw0; clear hw0
  go_enter Try.func41, Try.ntmps41
  go_wp2_with fail
  rw [Hw.out]
  clear Hw
  have HS : Hid (Below w0.heap.size w0 w0) := hidA (Below.refl _ _)
  obtain ⟨c0, c1, c2, c3, c4, c5, c6, z0, z1, fr1⟩ := PK.out _ HS.out
  have hsD := HS.out.drew
  go_region_held3 (fun w' => w'.cell? ⟨w.heap.size, 0, none⟩ = some (.int .i64 r) ∧ w'.cell? ⟨w.heap.size, 1, none⟩ = some (.int .i64 m) ∧ Below w0.heap.size w0 w')
    (first | with_reducible exact ⟨cellD c0, cellD c1, hsD⟩ | with_reducible exact ⟨(PK.out _ (by assumption)).1, (PK.out _ (by assumption)).2.1, by assumption⟩)
    (first
      | fail)
  all_goals
    try clear hsD
    have hs1 : Below w0.heap.size w0 w0.drew := HS.out.drew
    generalize w0.drew = wd at *
    clear HS; have HS := hidA hs1; clear hs1 c0 c1 c2 c3 c4 c5 c6 z0 z1 fr1; obtain ⟨c0, c1, c2, c3, c4, c5, c6, z0, z1, fr1⟩ := PK.out _ HS.out
    go_wp2_with fail
    exact bodyPost_ret (v := .tuple #[.agg #[.int .i64 0, .int .i64 0, .int .i64 0, .int .i64 0, .int .i64 0], .bool false]) (by simp [results, Try.results41, go_sem, c2, c3, c4, c5, c6, z1, fr1]) rfl ⟨by rfl, (by repeat (first | with_reducible exact Below.refl _ _ | with_reducible exact HS.out | with_reducible exact B0.out | with_reducible refine Below.setCell ?_ (by first | omega | simp <;> omega) _ | with_reducible refine Below.alloc ?_ (by first | omega | simp <;> omega) _ | with_reducible refine Below.drew ?_ | with_reducible refine drewnA ?_ _ | with_reducible refine Below.trans ?_ (HS.out.mono (by first | omega | simp <;> omega)) | with_reducible refine Below.trans ?_ (B0.out.mono (by first | omega | simp <;> omega))))⟩
set_option maxRecDepth 100000 in
set_option maxHeartbeats 2000000 in
theorem wi_zone (r m lo hi L H : Int) (hr : Far r) (l1 : -8589934592 ≤ lo) (l2 : lo ≤ 8589934592) (l3 : -8589934592 ≤ hi) (l4 : hi ≤ 8589934592) (hm : (m == 0) = true) (eL : (if lo < r then r else lo) = L) (eH : (if r < hi then r else hi) = H) (c : ¬ H < L) (c2 : L = H) (w : World) :
    Calls Try.prog 41 #[.agg #[.int .i64 r, .int .i64 m], .int .i64 lo, .int .i64 hi] w fun e w' => e = .returned (.tuple #[.agg #[.int .i64 L, .int .i64 L, .int .i64 1, .int .i64 0, .int .i64 0], .bool true]) ∧ Below w.heap.size w w' := by
  obtain ⟨r1, r2⟩ := hr
  subst c2
  have c3 : (L == L) = true := by simp
  obtain ⟨w0, hw0⟩ : ∃ w0, ((w.alloc (.cells #[.int .i64 r, .int .i64 m] 69)).alloc (.cells #[.int .i64 0, .int .i64 0, .int .i64 0, .int .i64 0, .int .i64 0] 27)) = w0 := ⟨_, rfl⟩
  have B0 : Hid (Below w.heap.size w w0) := hidA (by rw [← hw0]; exact (alA (alA (Below.refl _ _) _) _))
  have hsz : w.heap.size + 1 < w0.heap.size := by rw [← hw0]; simp
  have PK : Hid (∀ W, Below w0.heap.size w0 W → W.cell? ⟨w.heap.size, 0, none⟩ = some (.int .i64 r) ∧ W.cell? ⟨w.heap.size, 1, none⟩ = some (.int .i64 m) ∧ W.cell? ⟨w.heap.size + 1, 0, none⟩ = some (.int .i64 0) ∧ W.cell? ⟨w.heap.size + 1, 1, none⟩ = some (.int .i64 0) ∧ W.cell? ⟨w.heap.size + 1, 2, none⟩ = some (.int .i64 0) ∧ W.cell? ⟨w.heap.size + 1, 3, none⟩ = some (.int .i64 0) ∧ W.cell? ⟨w.heap.size + 1, 4, none⟩ = some (.int .i64 0) ∧ w.heap.size < W.heap.size ∧ w.heap.size + 1 < W.heap.size ∧ (∀ i, W.frozen? ⟨w.heap.size + 1, i, none⟩ = false)) := hidA (fun W hW => by and_intros <;> first | exact cellA hW (by rw [← hw0]; simp [go_sem]) | exact (by have h0 := hW.size; have h1 := hsz; omega) | exact (fun i => (hW.frozen (p := ⟨w.heap.size + 1, i, none⟩) (show w.heap.size + 1 < w0.heap.size by have h1 := hsz; omega)).trans (by rw [← hw0]; simp [go_sem])))
  have Hw := hidA hw0; clear hw0
  go_enter Try.func41, Try.ntmps41
  go_wp2_with fail
  rw [Hw.out]
  clear Hw
  have HS : Hid (Below w0.heap.size w0 w0) := hidA (Below.refl _ _)
  obtain ⟨c0, c1, c2, c3, c4, c5, c6, z0, z1, fr1⟩ := PK.out _ HS.out
  have hsD := HS.out.drew
  go_region_held3 (fun w' => w'.cell? ⟨w.heap.size, 0, none⟩ = some (.int .i64 r) ∧ w'.cell? ⟨w.heap.size, 1, none⟩ = some (.int .i64 m) ∧ Below w0.heap.size w0 w')
    (first | with_reducible exact ⟨cellD c0, cellD c1, hsD⟩ | with_reducible exact ⟨(PK.out _ (by assumption)).1, (PK.out _ (by assumption)).2.1, by assumption⟩)
    (first
      | fail)
  all_goals
    try clear hsD
    have hs1 : Below w0.heap.size w0 w0.drew := HS.out.drew
    generalize w0.drew = wd at *
    clear HS; have HS := hidA hs1; clear hs1 c0 c1 c2 c3 c4 c5 c6 z0 z1 fr1; obtain ⟨c0, c1, c2, c3, c4, c5, c6, z0, z1, fr1⟩ := PK.out _ HS.out
    go_wp2_with (go_at_call 16; (with_reducible refine (sof_any _ _ _).mono ?_); rintro e w1 ⟨rfl, hb⟩; have hs1 := stepA HS.out hb; clear hb; clear HS; have HS := hidA hs1; clear hs1 c0 c1 c2 c3 c4 c5 c6 z0 z1 fr1; obtain ⟨c0, c1, c2, c3, c4, c5, c6, z0, z1, fr1⟩ := PK.out _ HS.out)
    exact bodyPost_ret (v := .tuple #[.agg #[.int .i64 L, .int .i64 L, .int .i64 1, .int .i64 0, .int .i64 0], .bool true]) (by simp [results, Try.results41, go_sem, c2, c3, c4, c5, c6, z1]) rfl ⟨by rfl, (by repeat (first | with_reducible exact Below.refl _ _ | with_reducible exact HS.out | with_reducible exact B0.out | with_reducible refine Below.setCell ?_ (by first | omega | simp <;> omega) _ | with_reducible refine Below.alloc ?_ (by first | omega | simp <;> omega) _ | with_reducible refine Below.drew ?_ | with_reducible refine drewnA ?_ _ | with_reducible refine Below.trans ?_ (HS.out.mono (by first | omega | simp <;> omega)) | with_reducible refine Below.trans ?_ (B0.out.mono (by first | omega | simp <;> omega))))⟩
set_option maxRecDepth 100000 in
set_option maxHeartbeats 2000000 in
theorem wi_none (r m lo hi L H : Int) (hr : Far r) (l1 : -8589934592 ≤ lo) (l2 : lo ≤ 8589934592) (l3 : -8589934592 ≤ hi) (l4 : hi ≤ 8589934592) (hm : (m == 0) = false) (h1 : 1 ≤ m) (h2 : m ≤ 4611686018427387904 ∨ (m ≤ 9223372036854775807 ∧ lo ≤ r ∧ r ≤ hi)) (eL : lo + (r - lo) % m = L) (eH : hi - (hi - r) % m = H) (c : H < L) (w : World) :
    Calls Try.prog 41 #[.agg #[.int .i64 r, .int .i64 m], .int .i64 lo, .int .i64 hi] w fun e w' => e = .returned (.tuple #[.agg #[.int .i64 0, .int .i64 0, .int .i64 0, .int .i64 0, .int .i64 0], .bool false]) ∧ Below w.heap.size w w' := by
  obtain ⟨r1, r2⟩ := hr
  have q1 := Int.emod_nonneg (r - lo) (show m ≠ 0 by omega)
  have q2 := Int.emod_lt_of_pos (r - lo) (show 0 < m by omega)
  have q3 := Int.emod_nonneg (hi - r) (show m ≠ 0 by omega)
  have q4 := Int.emod_lt_of_pos (hi - r) (show 0 < m by omega)
  have q5 : lo ≤ r → (r - lo) % m ≤ r - lo := fun h => by
    have e := Int.mul_ediv_add_emod (r - lo) m
    have p := Int.mul_nonneg (show 0 ≤ m by omega) (Int.ediv_nonneg (show 0 ≤ r - lo by omega) (show 0 ≤ m by omega))
    omega
  have q6 : r ≤ hi → (hi - r) % m ≤ hi - r := fun h => by
    have e := Int.mul_ediv_add_emod (hi - r) m
    have p := Int.mul_nonneg (show 0 ≤ m by omega) (Int.ediv_nonneg (show 0 ≤ hi - r by omega) (show 0 ≤ m by omega))
    omega
  have e1 : IntKind.i64.wrap (r - lo) = r - lo := IntWalk.i64_in _ (by omega)
  have e2 : IntKind.i64.wrap (hi - r) = hi - r := IntWalk.i64_in _ (by omega)
  have C1 := hidA (fun w => (smod_any (r - lo) m ⟨by omega, by omega⟩ (by omega) (by omega) w).mono (fun _ _ h => And.intro h.1 h.2.symm))
  have C2 := hidA (fun w => (smod_any (hi - r) m ⟨by omega, by omega⟩ (by omega) (by omega) w).mono (fun _ _ h => And.intro h.1 h.2.symm))
  obtain ⟨M1, hM1⟩ : ∃ x, (r - lo) % m = x := ⟨_, rfl⟩
  obtain ⟨M2, hM2⟩ : ∃ x, (hi - r) % m = x := ⟨_, rfl⟩
  rw [hM1] at C1 q1 q2 q5 eL
  rw [hM2] at C2 q3 q4 q6 eH
  clear hM1 hM2
  have e3 : IntKind.i64.wrap (lo + M1) = L := by rw [eL]; exact IntWalk.i64_in _ (by omega)
  have e4 : IntKind.i64.wrap (hi - M2) = H := by rw [eH]; exact IntWalk.i64_in _ (by omega)
  have mm : m ≤ 9223372036854775807 := by omega
  have b1 : -9000000000000000000 ≤ L := by omega
  have b2 : L ≤ 9000000000000000000 := by omega
  have b3 : -9000000000000000000 ≤ H := by omega
  have b4 : H ≤ 9000000000000000000 := by omega
  clear q5 q6 h2
  obtain ⟨w0, hw0⟩ : ∃ w0, ((w.alloc (.cells #[.int .i64 r, .int .i64 m] 69)).alloc (.cells #[.int .i64 0, .int .i64 0, .int .i64 0, .int .i64 0, .int .i64 0] 27)) = w0 := ⟨_, rfl⟩
  have B0 : Hid (Below w.heap.size w w0) := hidA (by rw [← hw0]; exact (alA (alA (Below.refl _ _) _) _))
  have hsz : w.heap.size + 1 < w0.heap.size := by rw [← hw0]; simp
  have PK : Hid (∀ W, Below w0.heap.size w0 W → W.cell? ⟨w.heap.size, 0, none⟩ = some (.int .i64 r) ∧ W.cell? ⟨w.heap.size, 1, none⟩ = some (.int .i64 m) ∧ W.cell? ⟨w.heap.size + 1, 0, none⟩ = some (.int .i64 0) ∧ W.cell? ⟨w.heap.size + 1, 1, none⟩ = some (.int .i64 0) ∧ W.cell? ⟨w.heap.size + 1, 2, none⟩ = some (.int .i64 0) ∧ W.cell? ⟨w.heap.size + 1, 3, none⟩ = some (.int .i64 0) ∧ W.cell? ⟨w.heap.size + 1, 4, none⟩ = some (.int .i64 0) ∧ w.heap.size < W.heap.size ∧ w.heap.size + 1 < W.heap.size ∧ (∀ i, W.frozen? ⟨w.heap.size + 1, i, none⟩ = false)) := hidA (fun W hW => by and_intros <;> first | exact cellA hW (by rw [← hw0]; simp [go_sem]) | exact (by have h0 := hW.size; have h1 := hsz; omega) | exact (fun i => (hW.frozen (p := ⟨w.heap.size + 1, i, none⟩) (show w.heap.size + 1 < w0.heap.size by have h1 := hsz; omega)).trans (by rw [← hw0]; simp [go_sem])))
  have Hw := hidA hw0; clear hw0
  go_enter Try.func41, Try.ntmps41
  go_wp2_with fail
  rw [Hw.out]
  clear Hw
  have HS : Hid (Below w0.heap.size w0 w0) := hidA (Below.refl _ _)
  obtain ⟨c0, c1, c2, c3, c4, c5, c6, z0, z1, fr1⟩ := PK.out _ HS.out
  go_quiet (first | (go_at_call 76; with_reducible exact Calls.quiet_of_same (C1.out _)) | (go_at_call 76; with_reducible exact Calls.quiet_of_same (C2.out _)))
  have hs1 := drewnA HS.out nq
  generalize w0.drewN nq = wd at *
  clear HS; have HS := hidA hs1; clear hs1 c0 c1 c2 c3 c4 c5 c6 z0 z1 fr1; obtain ⟨c0, c1, c2, c3, c4, c5, c6, z0, z1, fr1⟩ := PK.out _ HS.out
  go_wp2_with fail
  exact bodyPost_ret (v := .tuple #[.agg #[.int .i64 0, .int .i64 0, .int .i64 0, .int .i64 0, .int .i64 0], .bool false]) (by simp [results, Try.results41, go_sem, c2, c3, c4, c5, c6, z1, fr1]) rfl ⟨by rfl, (by repeat (first | with_reducible exact Below.refl _ _ | with_reducible exact HS.out | with_reducible exact B0.out | with_reducible refine Below.setCell ?_ (by first | omega | simp <;> omega) _ | with_reducible refine Below.alloc ?_ (by first | omega | simp <;> omega) _ | with_reducible refine Below.drew ?_ | with_reducible refine drewnA ?_ _ | with_reducible refine Below.trans ?_ (HS.out.mono (by first | omega | simp <;> omega)) | with_reducible refine Below.trans ?_ (B0.out.mono (by first | omega | simp <;> omega))))⟩
set_option maxRecDepth 100000 in
set_option maxHeartbeats 2000000 in
theorem wi_one (r m lo hi L H : Int) (hr : Far r) (l1 : -8589934592 ≤ lo) (l2 : lo ≤ 8589934592) (l3 : -8589934592 ≤ hi) (l4 : hi ≤ 8589934592) (hm : (m == 0) = false) (h1 : 1 ≤ m) (h2 : m ≤ 4611686018427387904 ∨ (m ≤ 9223372036854775807 ∧ lo ≤ r ∧ r ≤ hi)) (eL : lo + (r - lo) % m = L) (eH : hi - (hi - r) % m = H) (c : ¬ H < L) (c2 : L = H) (w : World) :
    Calls Try.prog 41 #[.agg #[.int .i64 r, .int .i64 m], .int .i64 lo, .int .i64 hi] w fun e w' => e = .returned (.tuple #[.agg #[.int .i64 L, .int .i64 L, .int .i64 1, .int .i64 0, .int .i64 0], .bool true]) ∧ Below w.heap.size w w' := by
  obtain ⟨r1, r2⟩ := hr
  have q1 := Int.emod_nonneg (r - lo) (show m ≠ 0 by omega)
  have q2 := Int.emod_lt_of_pos (r - lo) (show 0 < m by omega)
  have q3 := Int.emod_nonneg (hi - r) (show m ≠ 0 by omega)
  have q4 := Int.emod_lt_of_pos (hi - r) (show 0 < m by omega)
  have q5 : lo ≤ r → (r - lo) % m ≤ r - lo := fun h => by
    have e := Int.mul_ediv_add_emod (r - lo) m
    have p := Int.mul_nonneg (show 0 ≤ m by omega) (Int.ediv_nonneg (show 0 ≤ r - lo by omega) (show 0 ≤ m by omega))
    omega
  have q6 : r ≤ hi → (hi - r) % m ≤ hi - r := fun h => by
    have e := Int.mul_ediv_add_emod (hi - r) m
    have p := Int.mul_nonneg (show 0 ≤ m by omega) (Int.ediv_nonneg (show 0 ≤ hi - r by omega) (show 0 ≤ m by omega))
    omega
  have e1 : IntKind.i64.wrap (r - lo) = r - lo := IntWalk.i64_in _ (by omega)
  have e2 : IntKind.i64.wrap (hi - r) = hi - r := IntWalk.i64_in _ (by omega)
  have C1 := hidA (fun w => (smod_any (r - lo) m ⟨by omega, by omega⟩ (by omega) (by omega) w).mono (fun _ _ h => And.intro h.1 h.2.symm))
  have C2 := hidA (fun w => (smod_any (hi - r) m ⟨by omega, by omega⟩ (by omega) (by omega) w).mono (fun _ _ h => And.intro h.1 h.2.symm))
  obtain ⟨M1, hM1⟩ : ∃ x, (r - lo) % m = x := ⟨_, rfl⟩
  obtain ⟨M2, hM2⟩ : ∃ x, (hi - r) % m = x := ⟨_, rfl⟩
  rw [hM1] at C1 q1 q2 q5 eL
  rw [hM2] at C2 q3 q4 q6 eH
  clear hM1 hM2
  have e3 : IntKind.i64.wrap (lo + M1) = L := by rw [eL]; exact IntWalk.i64_in _ (by omega)
  have e4 : IntKind.i64.wrap (hi - M2) = H := by rw [eH]; exact IntWalk.i64_in _ (by omega)
  have mm : m ≤ 9223372036854775807 := by omega
  have b1 : -9000000000000000000 ≤ L := by omega
  have b2 : L ≤ 9000000000000000000 := by omega
  have b3 : -9000000000000000000 ≤ H := by omega
  have b4 : H ≤ 9000000000000000000 := by omega
  clear q5 q6 h2
  subst c2
  have c3 : (L == L) = true := by simp
  obtain ⟨w0, hw0⟩ : ∃ w0, ((w.alloc (.cells #[.int .i64 r, .int .i64 m] 69)).alloc (.cells #[.int .i64 0, .int .i64 0, .int .i64 0, .int .i64 0, .int .i64 0] 27)) = w0 := ⟨_, rfl⟩
  have B0 : Hid (Below w.heap.size w w0) := hidA (by rw [← hw0]; exact (alA (alA (Below.refl _ _) _) _))
  have hsz : w.heap.size + 1 < w0.heap.size := by rw [← hw0]; simp
  have PK : Hid (∀ W, Below w0.heap.size w0 W → W.cell? ⟨w.heap.size, 0, none⟩ = some (.int .i64 r) ∧ W.cell? ⟨w.heap.size, 1, none⟩ = some (.int .i64 m) ∧ W.cell? ⟨w.heap.size + 1, 0, none⟩ = some (.int .i64 0) ∧ W.cell? ⟨w.heap.size + 1, 1, none⟩ = some (.int .i64 0) ∧ W.cell? ⟨w.heap.size + 1, 2, none⟩ = some (.int .i64 0) ∧ W.cell? ⟨w.heap.size + 1, 3, none⟩ = some (.int .i64 0) ∧ W.cell? ⟨w.heap.size + 1, 4, none⟩ = some (.int .i64 0) ∧ w.heap.size < W.heap.size ∧ w.heap.size + 1 < W.heap.size ∧ (∀ i, W.frozen? ⟨w.heap.size + 1, i, none⟩ = false)) := hidA (fun W hW => by and_intros <;> first | exact cellA hW (by rw [← hw0]; simp [go_sem]) | exact (by have h0 := hW.size; have h1 := hsz; omega) | exact (fun i => (hW.frozen (p := ⟨w.heap.size + 1, i, none⟩) (show w.heap.size + 1 < w0.heap.size by have h1 := hsz; omega)).trans (by rw [← hw0]; simp [go_sem])))
  have Hw := hidA hw0; clear hw0
  go_enter Try.func41, Try.ntmps41
  go_wp2_with fail
  rw [Hw.out]
  clear Hw
  have HS : Hid (Below w0.heap.size w0 w0) := hidA (Below.refl _ _)
  obtain ⟨c0, c1, c2, c3, c4, c5, c6, z0, z1, fr1⟩ := PK.out _ HS.out
  go_quiet (first | (go_at_call 76; with_reducible exact Calls.quiet_of_same (C1.out _)) | (go_at_call 76; with_reducible exact Calls.quiet_of_same (C2.out _)))
  have hs1 := drewnA HS.out nq
  generalize w0.drewN nq = wd at *
  clear HS; have HS := hidA hs1; clear hs1 c0 c1 c2 c3 c4 c5 c6 z0 z1 fr1; obtain ⟨c0, c1, c2, c3, c4, c5, c6, z0, z1, fr1⟩ := PK.out _ HS.out
  go_wp2_with (go_at_call 16; (with_reducible refine (sof_any _ _ _).mono ?_); rintro e w1 ⟨rfl, hb⟩; have hs1 := stepA HS.out hb; clear hb; clear HS; have HS := hidA hs1; clear hs1 c0 c1 c2 c3 c4 c5 c6 z0 z1 fr1; obtain ⟨c0, c1, c2, c3, c4, c5, c6, z0, z1, fr1⟩ := PK.out _ HS.out)
  exact bodyPost_ret (v := .tuple #[.agg #[.int .i64 L, .int .i64 L, .int .i64 1, .int .i64 0, .int .i64 0], .bool true]) (by simp [results, Try.results41, go_sem, c2, c3, c4, c5, c6, z1]) rfl ⟨by rfl, (by repeat (first | with_reducible exact Below.refl _ _ | with_reducible exact HS.out | with_reducible exact B0.out | with_reducible refine Below.setCell ?_ (by first | omega | simp <;> omega) _ | with_reducible refine Below.alloc ?_ (by first | omega | simp <;> omega) _ | with_reducible refine Below.drew ?_ | with_reducible refine drewnA ?_ _ | with_reducible refine Below.trans ?_ (HS.out.mono (by first | omega | simp <;> omega)) | with_reducible refine Below.trans ?_ (B0.out.mono (by first | omega | simp <;> omega))))⟩
set_option maxRecDepth 100000 in
set_option maxHeartbeats 2000000 in
theorem wi_more (r m lo hi L H : Int) (hr : Far r) (l1 : -8589934592 ≤ lo) (l2 : lo ≤ 8589934592) (l3 : -8589934592 ≤ hi) (l4 : hi ≤ 8589934592) (hm : (m == 0) = false) (h1 : 1 ≤ m) (h2 : m ≤ 4611686018427387904 ∨ (m ≤ 9223372036854775807 ∧ lo ≤ r ∧ r ≤ hi)) (eL : lo + (r - lo) % m = L) (eH : hi - (hi - r) % m = H) (c : ¬ H < L) (c2 : (L == H) = false) (R : Int) (eR : L % m = R) (w : World) :
    Calls Try.prog 41 #[.agg #[.int .i64 r, .int .i64 m], .int .i64 lo, .int .i64 hi] w fun e w' => e = .returned (.tuple #[.agg #[.int .i64 L, .int .i64 H, .int .i64 m, .int .i64 R, .int .i64 0], .bool true]) ∧ Below w.heap.size w w' := by
  obtain ⟨r1, r2⟩ := hr
  have q1 := Int.emod_nonneg (r - lo) (show m ≠ 0 by omega)
  have q2 := Int.emod_lt_of_pos (r - lo) (show 0 < m by omega)
  have q3 := Int.emod_nonneg (hi - r) (show m ≠ 0 by omega)
  have q4 := Int.emod_lt_of_pos (hi - r) (show 0 < m by omega)
  have q5 : lo ≤ r → (r - lo) % m ≤ r - lo := fun h => by
    have e := Int.mul_ediv_add_emod (r - lo) m
    have p := Int.mul_nonneg (show 0 ≤ m by omega) (Int.ediv_nonneg (show 0 ≤ r - lo by omega) (show 0 ≤ m by omega))
    omega
  have q6 : r ≤ hi → (hi - r) % m ≤ hi - r := fun h => by
    have e := Int.mul_ediv_add_emod (hi - r) m
    have p := Int.mul_nonneg (show 0 ≤ m by omega) (Int.ediv_nonneg (show 0 ≤ hi - r by omega) (show 0 ≤ m by omega))
    omega
  have e1 : IntKind.i64.wrap (r - lo) = r - lo := IntWalk.i64_in _ (by omega)
  have e2 : IntKind.i64.wrap (hi - r) = hi - r := IntWalk.i64_in _ (by omega)
  have C1 := hidA (fun w => (smod_any (r - lo) m ⟨by omega, by omega⟩ (by omega) (by omega) w).mono (fun _ _ h => And.intro h.1 h.2.symm))
  have C2 := hidA (fun w => (smod_any (hi - r) m ⟨by omega, by omega⟩ (by omega) (by omega) w).mono (fun _ _ h => And.intro h.1 h.2.symm))
  obtain ⟨M1, hM1⟩ : ∃ x, (r - lo) % m = x := ⟨_, rfl⟩
  obtain ⟨M2, hM2⟩ : ∃ x, (hi - r) % m = x := ⟨_, rfl⟩
  rw [hM1] at C1 q1 q2 q5 eL
  rw [hM2] at C2 q3 q4 q6 eH
  clear hM1 hM2
  have e3 : IntKind.i64.wrap (lo + M1) = L := by rw [eL]; exact IntWalk.i64_in _ (by omega)
  have e4 : IntKind.i64.wrap (hi - M2) = H := by rw [eH]; exact IntWalk.i64_in _ (by omega)
  have mm : m ≤ 9223372036854775807 := by omega
  have b1 : -9000000000000000000 ≤ L := by omega
  have b2 : L ≤ 9000000000000000000 := by omega
  have b3 : -9000000000000000000 ≤ H := by omega
  have b4 : H ≤ 9000000000000000000 := by omega
  clear q5 q6 h2
  obtain ⟨w0, hw0⟩ : ∃ w0, ((w.alloc (.cells #[.int .i64 r, .int .i64 m] 69)).alloc (.cells #[.int .i64 0, .int .i64 0, .int .i64 0, .int .i64 0, .int .i64 0] 27)) = w0 := ⟨_, rfl⟩
  have B0 : Hid (Below w.heap.size w w0) := hidA (by rw [← hw0]; exact (alA (alA (Below.refl _ _) _) _))
  have hsz : w.heap.size + 1 < w0.heap.size := by rw [← hw0]; simp
  have PK : Hid (∀ W, Below w0.heap.size w0 W → W.cell? ⟨w.heap.size, 0, none⟩ = some (.int .i64 r) ∧ W.cell? ⟨w.heap.size, 1, none⟩ = some (.int .i64 m) ∧ W.cell? ⟨w.heap.size + 1, 0, none⟩ = some (.int .i64 0) ∧ W.cell? ⟨w.heap.size + 1, 1, none⟩ = some (.int .i64 0) ∧ W.cell? ⟨w.heap.size + 1, 2, none⟩ = some (.int .i64 0) ∧ W.cell? ⟨w.heap.size + 1, 3, none⟩ = some (.int .i64 0) ∧ W.cell? ⟨w.heap.size + 1, 4, none⟩ = some (.int .i64 0) ∧ w.heap.size < W.heap.size ∧ w.heap.size + 1 < W.heap.size ∧ (∀ i, W.frozen? ⟨w.heap.size + 1, i, none⟩ = false)) := hidA (fun W hW => by and_intros <;> first | exact cellA hW (by rw [← hw0]; simp [go_sem]) | exact (by have h0 := hW.size; have h1 := hsz; omega) | exact (fun i => (hW.frozen (p := ⟨w.heap.size + 1, i, none⟩) (show w.heap.size + 1 < w0.heap.size by have h1 := hsz; omega)).trans (by rw [← hw0]; simp [go_sem])))
  have Hw := hidA hw0; clear hw0
  go_enter Try.func41, Try.ntmps41
  go_wp2_with fail
  rw [Hw.out]
  clear Hw
  have HS : Hid (Below w0.heap.size w0 w0) := hidA (Below.refl _ _)
  obtain ⟨c0, c1, c2, c3, c4, c5, c6, z0, z1, fr1⟩ := PK.out _ HS.out
  go_quiet (first | (go_at_call 76; with_reducible exact Calls.quiet_of_same (C1.out _)) | (go_at_call 76; with_reducible exact Calls.quiet_of_same (C2.out _)))
  have hs1 := drewnA HS.out nq
  generalize w0.drewN nq = wd at *
  clear HS; have HS := hidA hs1; clear hs1 c0 c1 c2 c3 c4 c5 c6 z0 z1 fr1; obtain ⟨c0, c1, c2, c3, c4, c5, c6, z0, z1, fr1⟩ := PK.out _ HS.out
  have CM := hidA (fun w => smod_b L m ⟨by omega, by omega⟩ (by omega) (by omega) w)
  rw [eR] at CM
  clear C1 C2 e1 e2 e3 e4
  go_wp2_with fail
  have hsD := HS.out.drew
  go_region_held3 (fun w' => w'.cell? ⟨w.heap.size, 0, none⟩ = some (.int .i64 r) ∧ w'.cell? ⟨w.heap.size, 1, none⟩ = some (.int .i64 m) ∧ Below (w.heap.size + 1) w0 w')
    (first | with_reducible exact ⟨cellD c0, cellD c1, Below.mono hsD (by omega)⟩ | with_reducible exact ⟨(PK.out _ (by assumption)).1, (PK.out _ (by assumption)).2.1, Below.mono (by assumption) (by omega)⟩ | exact ⟨by simpa [go_sem] using (PK.out _ hs1).1, by simpa [go_sem] using (PK.out _ hs1).2.1, ((((((Below.mono hs1 (by omega)).setCell (by first | exact Nat.le_refl _ | (simp; done) | (simp; omega) | omega) _).setCell (by first | exact Nat.le_refl _ | (simp; done) | (simp; omega) | omega) _).setCell (by first | exact Nat.le_refl _ | (simp; done) | (simp; omega) | omega) _).setCell (by first | exact Nat.le_refl _ | (simp; done) | (simp; omega) | omega) _).setCell (by first | exact Nat.le_refl _ | (simp; done) | (simp; omega) | omega) _)⟩)
    (first
      | ((go_at_call 76; (with_reducible refine (CM.out _).mono ?_); rintro e w1 ⟨rfl, hb1⟩; have hs1 : Below w0.heap.size w0 w1 := stepA (by assumption) hb1; obtain ⟨dc0, dc1, dc2, dc3, dc4, dc5, dc6, dz0, dz1, dfr1⟩ := PK.out _ hs1)))
  go_wp2
  exact bodyPost_ret (v := .tuple #[.agg #[.int .i64 L, .int .i64 H, .int .i64 m, .int .i64 R, .int .i64 0], .bool true]) (by simp [results, Try.results41, go_sem, dc2, dc3, dc4, dc5, dc6, dz1]) rfl ⟨by rfl, (by repeat (first | with_reducible exact Below.refl _ _ | with_reducible exact hs1 | with_reducible exact B0.out | with_reducible refine Below.setCell ?_ (by first | omega | simp <;> omega) _ | with_reducible refine Below.alloc ?_ (by first | omega | simp <;> omega) _ | with_reducible refine Below.drew ?_ | with_reducible refine drewnA ?_ _ | with_reducible refine Below.trans ?_ (hs1.mono (by first | omega | simp <;> omega)) | with_reducible refine Below.trans ?_ (B0.out.mono (by first | omega | simp <;> omega))))⟩
/-- From one number to another, all that are in the class: the valid set with these values. -/
theorem cls_low {m r lo hi v : Int} (hm : 1 ≤ m) (h1 : lo ≤ v) (h2 : m ∣ v - r) : lo + (r - lo) % m ≤ v ∧ m ∣ lo + (r - lo) % m - r := by
  have l1 := Int.emod_nonneg (r - lo) (show m ≠ 0 by omega)
  have l2 := Int.emod_lt_of_pos (r - lo) (show 0 < m by omega)
  have l3 : m ∣ (r - lo) - (r - lo) % m := Int.dvd_self_sub_emod ..
  have l4 : m ∣ lo + (r - lo) % m - r := by
    have := Int.dvd_neg.2 l3
    rwa [show -((r - lo) - (r - lo) % m) = lo + (r - lo) % m - r by omega] at this
  refine ⟨?_, l4⟩
  rcases Int.lt_or_le v (lo + (r - lo) % m) with c | c
  · exfalso
    have h4 := Int.dvd_sub l4 h2
    rw [show lo + (r - lo) % m - r - (v - r) = lo + (r - lo) % m - v by omega] at h4
    have := dvd_le_zero h4 (by omega) (by omega)
    omega
  · exact c
theorem cls_high {m r lo hi v : Int} (hm : 1 ≤ m) (h1 : v ≤ hi) (h2 : m ∣ v - r) : v ≤ hi - (hi - r) % m ∧ m ∣ hi - (hi - r) % m - r := by
  have l1 := Int.emod_nonneg (hi - r) (show m ≠ 0 by omega)
  have l2 := Int.emod_lt_of_pos (hi - r) (show 0 < m by omega)
  have l3 : m ∣ (hi - r) - (hi - r) % m := Int.dvd_self_sub_emod ..
  have l4 : m ∣ hi - (hi - r) % m - r := by rwa [show hi - (hi - r) % m - r = (hi - r) - (hi - r) % m by omega]
  refine ⟨?_, l4⟩
  rcases Int.lt_or_le (hi - (hi - r) % m) v with c | c
  · exfalso
    have h4 := Int.dvd_sub h2 l4
    rw [show v - r - (hi - (hi - r) % m - r) = v - (hi - (hi - r) % m) by omega] at h4
    have := dvd_le_zero h4 (by omega) (by omega)
    omega
  · exact c
def ClsIs (a : Ab) (r m lo hi : Int) : Prop := ∀ v, Mem a v ↔ lo ≤ v ∧ v ≤ hi ∧ m ∣ v - r
structure WiOk (r m lo hi : Int) : Prop where
  f : Far r
  l1 : -8589934592 ≤ lo
  l2 : lo ≤ 8589934592
  l3 : -8589934592 ≤ hi
  l4 : hi ≤ 8589934592
  m1 : 0 ≤ m
  m2 : m ≤ 4611686018427387904 ∨ (m ≤ 9223372036854775807 ∧ lo ≤ r ∧ r ≤ hi)
theorem within_some (a : Ab) (A : Val a) (r m lo hi : Int) (O : WiOk r m lo hi) (C : ClsIs a r m lo hi) (w : World) :
    Calls Try.prog 41 #[.agg #[.int .i64 r, .int .i64 m], .int .i64 lo, .int .i64 hi] w fun e w' => e = .returned (.tuple #[.agg #[.int .i64 a.lo, .int .i64 a.hi, .int .i64 a.m, .int .i64 a.r, .int .i64 0], .bool true]) ∧ Below w.heap.size w w' := by
  obtain ⟨hr, l1, l2, l3, l4, m1, m2⟩ := O
  have ml := (C _).1 (mem_lo A)
  have mh := (C _).1 (mem_hi A)
  have ao := A.o
  by_cases hm : m = 0
  · subst hm
    rw [zero_dvd_iff'] at ml mh
    rcases A.s with ⟨s1, s2, s3⟩ | ⟨s1, s2, s3, s4⟩
    · have eL : (if lo < r then r else lo) = a.lo := by split <;> omega
      have eH : (if r < hi then r else hi) = a.lo := by split <;> omega
      rw [← s1, s2, s3]
      exact wi_zone r 0 lo hi a.lo a.lo hr l1 l2 l3 l4 rfl eL eH (by omega) rfl w
    · omega
  · have h1 : 1 ≤ m := by omega
    obtain ⟨x1, x2⟩ := cls_low (hi := hi) h1 ml.1 ml.2.2
    obtain ⟨y1, y2⟩ := cls_high (lo := lo) h1 mh.2.1 mh.2.2
    have q1 := Int.emod_nonneg (r - lo) (show m ≠ 0 by omega)
    have q3 := Int.emod_nonneg (hi - r) (show m ≠ 0 by omega)
    have z1 := ((C _).2 ⟨by omega, by have := ml.2.1; omega, x2⟩).1
    have z2 := ((C _).2 ⟨by have := mh.1; omega, by omega, y2⟩).2.1
    have eL : lo + (r - lo) % m = a.lo := by omega
    have eH : hi - (hi - r) % m = a.hi := by omega
    have hz : (m == 0) = false := by simpa using hm
    rcases A.s with ⟨s1, s2, s3⟩ | ⟨s1, s2, s3, s4⟩
    · rw [s2, s3, ← s1]
      exact wi_one r m lo hi a.lo a.lo hr l1 l2 l3 l4 hz h1 m2 eL (by rw [eH, s1]) (by omega) rfl w
    · have n1 := (C _).1 (mem_next A (by omega))
      have d1 : m ∣ a.m := by
        have := Int.dvd_sub n1.2.2 ml.2.2
        rwa [show a.lo + a.m - r - (a.lo - r) = a.m by omega] at this
      have dd : m ∣ a.hi - a.lo := by
        have := Int.dvd_sub mh.2.2 ml.2.2
        rwa [show a.hi - r - (a.lo - r) = a.hi - a.lo by omega] at this
      have lm := Int.le_of_dvd (by omega) dd
      have d2 := ((C (a.lo + m)).2 ⟨by omega, by have := mh.2.1; omega, by
        have := Int.dvd_add ml.2.2 (Int.dvd_refl m)
        rwa [show a.lo - r + m = a.lo + m - r by omega] at this⟩).2.2
      unfold stp at d2
      rw [if_neg (by omega), show a.lo + m - a.lo = m by omega] at d2
      have e1 := Int.le_of_dvd (by omega) d1
      have e2 := Int.le_of_dvd (by omega) d2
      have em : m = a.m := by omega
      subst em
      rw [s4]
      exact wi_more r a.m lo hi a.lo a.hi hr l1 l2 l3 l4 hz h1 m2 eL eH (by omega) (by simp; omega) _ rfl w
theorem within_none (r m lo hi : Int) (O : WiOk r m lo hi) (C : ∀ v, ¬ (lo ≤ v ∧ v ≤ hi ∧ m ∣ v - r)) (w : World) :
    Calls Try.prog 41 #[.agg #[.int .i64 r, .int .i64 m], .int .i64 lo, .int .i64 hi] w fun e w' => e = .returned (.tuple #[.agg #[.int .i64 0, .int .i64 0, .int .i64 0, .int .i64 0, .int .i64 0], .bool false]) ∧ Below w.heap.size w w' := by
  obtain ⟨hr, l1, l2, l3, l4, m1, m2⟩ := O
  by_cases hm : m = 0
  · subst hm
    have c := C r
    rw [zero_dvd_iff'] at c
    exact wi_znone r 0 lo hi _ _ hr l1 l2 l3 l4 rfl rfl rfl (by split <;> split <;> omega) w
  · have h1 : 1 ≤ m := by omega
    have q1 := Int.emod_nonneg (r - lo) (show m ≠ 0 by omega)
    have hz : (m == 0) = false := by simpa using hm
    refine wi_none r m lo hi _ _ hr l1 l2 l3 l4 hz h1 m2 rfl rfl ?_ w
    rcases Int.lt_or_le (hi - (hi - r) % m) (lo + (r - lo) % m) with c | c
    · exact c
    · exfalso
      have x2 : m ∣ lo + (r - lo) % m - r := by
        have l3 : m ∣ (r - lo) - (r - lo) % m := Int.dvd_self_sub_emod ..
        have := Int.dvd_neg.2 l3
        rwa [show -((r - lo) - (r - lo) % m) = lo + (r - lo) % m - r by omega] at this
      have q3 := Int.emod_nonneg (hi - r) (show m ≠ 0 by omega)
      exact C _ ⟨by omega, by omega, x2⟩
end Go.Proofs.Ytdopjadlbhacfaa

import Derived.Test.YtdopjadlbhacfaaBd
namespace Go.Proofs.Ytdopjadlbhacfaa
open Go.RowKit Go.Instr Sp
set_option linter.unusedVariables false
set_option linter.unusedSimpArgs false

/-! span's words in sets. -/
set_option maxRecDepth 100000 in
set_option maxHeartbeats 2000000 in
theorem shas_1 (a : Ab) (v : Int) (k : Nat) (h1 : ¬ a.lo ≤ v) (h2 : decide (a.lo ≤ v) = false)  (w : World) :
    Calls Try.prog 14 #[.agg #[.int .i64 a.lo, .int .i64 a.hi, .int .i64 a.m, .int .i64 a.r, .int .i64 a.k], .agg #[.int .i64 v, .int .i64 k]] w fun e w' => e = .returned (.bool false) ∧ Below w.heap.size w w' := by
  obtain ⟨w0, hw0⟩ : ∃ w0, ((w.alloc (.cells #[.int .i64 a.lo, .int .i64 a.hi, .int .i64 a.m, .int .i64 a.r, .int .i64 a.k] 27)).alloc (.cells #[.int .i64 v, .int .i64 k] 31)) = w0 := ⟨_, rfl⟩
  have B0 : Hid (Below w.heap.size w w0) := hidA (by rw [← hw0]; exact (alA (alA (Below.refl _ _) _) _))
  have hsz : w.heap.size + 1 < w0.heap.size := by rw [← hw0]; simp
  have PK : Hid (∀ W, Below w0.heap.size w0 W → abF W (w.heap.size) a (W.cell? ⟨w.heap.size + 1, 0, none⟩ = some (.int .i64 v) ∧ W.cell? ⟨w.heap.size + 1, 1, none⟩ = some (.int .i64 k) ∧ w.heap.size < W.heap.size ∧ w.heap.size + 1 < W.heap.size)) := hidA (fun W hW => by and_intros <;> first | exact cellA hW (by rw [← hw0]; simp [go_sem]) | exact (by have h0 := hW.size; have h1 := hsz; omega))
  have Hw := hidA hw0; clear hw0
  go_enter Try.func14, Try.ntmps14
  go_wp2_with fail
  rw [Hw.out]
  clear Hw
  have HS : Hid (Below w0.heap.size w0 w0) := hidA (Below.refl _ _)
  obtain ⟨c0, c1, c2, c3, c4, c5, c6, z0, z1⟩ := PK.out _ HS.out
  refine' wp_region_det (by kernel_rfl) [_, _, _, _, _, _, _, _, _, _, _, _, _, _, _, _, _, _, _, _, _, _, _, _, _, _, _, _] (fun W => Below w0.heap.size w0 W) (by kernel_rfl) HS.out.drew ?steps1 ?rest1
  case steps1 =>
    simp only [putAll, Act.put, List.setIfInBounds_toArray, List.set_cons_zero, List.set_cons_succ]
    refine detSteps_cons ?_ ?_
    · (refine det_run [2] (by kernel_rfl) (by rfl) (fun a ha W hW => ?_); have g2 : a.tmps[2]? = some _ := (ha 2 rfl).trans rfl; clear ha; go_simp; first  | (refine yield1_value ?_ hW; exact rfl))
    refine detSteps_cons ?_ ?_
    · (refine det_run [5] (by kernel_rfl) (by rfl) (fun a ha W hW => ?_); have g5 : a.tmps[5]? = some _ := (ha 5 rfl).trans rfl; clear ha; obtain ⟨c0, c1, c2, c3, c4, c5, c6, z0, z1⟩ := PK.out _ hW; go_simp; first  | (refine yield1_value ?_ hW; exact rfl))
    refine detSteps_cons ?_ ?_
    · (refine det_run [3] (by kernel_rfl) (by rfl) (fun a ha W hW => ?_); have g3 : a.tmps[3]? = some _ := (ha 3 rfl).trans rfl; clear ha; go_simp; first  | (refine yield1_value ?_ hW; exact rfl))
    refine detSteps_cons ?_ ?_
    · (refine det_run [7] (by kernel_rfl) (by rfl) (fun a ha W hW => ?_); have g7 : a.tmps[7]? = some _ := (ha 7 rfl).trans rfl; clear ha; obtain ⟨c0, c1, c2, c3, c4, c5, c6, z0, z1⟩ := PK.out _ hW; go_simp; first  | (refine yield1_value ?_ hW; exact rfl))
    refine detSteps_cons ?_ ?_
    · (refine det_run [6, 8] (by kernel_rfl) (by rfl) (fun a ha W hW => ?_); have g6 : a.tmps[6]? = some _ := (ha 6 rfl).trans rfl; have g8 : a.tmps[8]? = some _ := (ha 8 rfl).trans rfl; clear ha; go_simp; first  | (refine yield1_value ?_ hW; exact rfl))
    refine detSteps_cons ?_ ?_
    · (refine det_run [9] (by kernel_rfl) (by rfl) (fun a ha W hW => ?_); have g9 : a.tmps[9]? = some _ := (ha 9 rfl).trans rfl; clear ha; go_simp; first  | (refine yield1_value ?_ hW; exact rfl))
    refine detSteps_cons ?_ ?_
    · (refine Or.inl ⟨by rfl, ?_⟩; exact rfl)
    refine detSteps_cons ?_ ?_
    · (refine Or.inl ⟨by rfl, ?_⟩; exact rfl)
    refine detSteps_cons ?_ ?_
    · (refine Or.inl ⟨by rfl, ?_⟩; exact rfl)
    refine detSteps_cons ?_ ?_
    · (refine Or.inl ⟨by rfl, ?_⟩; exact rfl)
    refine detSteps_cons ?_ ?_
    · (refine Or.inl ⟨by rfl, ?_⟩; exact rfl)
    refine detSteps_cons ?_ ?_
    · (refine det_run [10, 15] (by kernel_rfl) (by rfl) (fun a ha W hW => ?_); have g10 : a.tmps[10]? = some _ := (ha 10 rfl).trans rfl; have g15 : a.tmps[15]? = some _ := (ha 15 rfl).trans rfl; clear ha; go_simp; first  | (refine yield1_value ?_ hW; exact rfl))
    refine detSteps_cons ?_ ?_
    · (refine det_run [16] (by kernel_rfl) (by rfl) (fun a ha W hW => ?_); have g16 : a.tmps[16]? = some _ := (ha 16 rfl).trans rfl; clear ha; go_simp; first  | (refine yield1_value ?_ hW; exact rfl))
    refine detSteps_cons ?_ ?_
    · (refine Or.inl ⟨by rfl, ?_⟩; exact rfl)
    refine detSteps_cons ?_ ?_
    · (refine Or.inl ⟨by rfl, ?_⟩; exact rfl)
    refine detSteps_cons ?_ ?_
    · (refine Or.inl ⟨by rfl, ?_⟩; exact rfl)
    refine detSteps_cons ?_ ?_
    · (refine Or.inl ⟨by rfl, ?_⟩; exact rfl)
    refine detSteps_cons ?_ ?_
    · (refine Or.inl ⟨by rfl, ?_⟩; exact rfl)
    refine detSteps_cons ?_ ?_
    · (refine det_run [17, 22] (by kernel_rfl) (by rfl) (fun a ha W hW => ?_); have g17 : a.tmps[17]? = some _ := (ha 17 rfl).trans rfl; have g22 : a.tmps[22]? = some _ := (ha 22 rfl).trans rfl; clear ha; go_simp; first  | (refine yield1_value ?_ hW; exact rfl))
    refine detSteps_cons ?_ ?_
    · (refine det_run [23] (by kernel_rfl) (by rfl) (fun a ha W hW => ?_); have g23 : a.tmps[23]? = some _ := (ha 23 rfl).trans rfl; clear ha; go_simp; first  | (refine yield1_value ?_ hW; exact rfl))
    refine detSteps_cons ?_ ?_
    · (refine Or.inl ⟨by rfl, ?_⟩; exact rfl)
    refine detSteps_cons ?_ ?_
    · (refine Or.inl ⟨by rfl, ?_⟩; exact rfl)
    refine detSteps_cons ?_ ?_
    · (refine Or.inl ⟨by rfl, ?_⟩; exact rfl)
    refine detSteps_cons ?_ ?_
    · (refine Or.inl ⟨by rfl, ?_⟩; exact rfl)
    refine detSteps_cons ?_ ?_
    · (refine Or.inl ⟨by rfl, ?_⟩; exact rfl)
    refine detSteps_cons ?_ ?_
    · (refine Or.inl ⟨by rfl, ?_⟩; exact rfl)
    refine detSteps_cons ?_ ?_
    · (refine det_run [24, 30] (by kernel_rfl) (by rfl) (fun a ha W hW => ?_); have g24 : a.tmps[24]? = some _ := (ha 24 rfl).trans rfl; have g30 : a.tmps[30]? = some _ := (ha 30 rfl).trans rfl; clear ha; go_simp; first  | (refine yield1_value ?_ hW; exact rfl))
    refine detSteps_cons ?_ ?_
    · (refine det_run [31] (by kernel_rfl) (by rfl) (fun a ha W hW => ?_); have g31 : a.tmps[31]? = some _ := (ha 31 rfl).trans rfl; clear ha; go_simp; first  | (refine yield1_value ?_ hW; exact rfl))
    exact detSteps_nil
  case rest1 =>
    intro w1 hs1
    simp only [putAll, Act.put, List.setIfInBounds_toArray, List.set_cons_zero, List.set_cons_succ]
    go_wp2
    go_ret
    exact ⟨rfl, (by repeat (first | with_reducible exact Below.refl _ _ | with_reducible exact hs1 | with_reducible exact B0.out | with_reducible refine Below.setCell ?_ (by first | omega | simp <;> omega) _ | with_reducible refine Below.alloc ?_ (by first | omega | simp <;> omega) _ | with_reducible refine Below.drew ?_ | with_reducible refine drewnA ?_ _ | with_reducible refine Below.trans ?_ (hs1.mono (by first | omega | simp <;> omega)) | with_reducible refine Below.trans ?_ (B0.out.mono (by first | omega | simp <;> omega))))⟩
set_option maxRecDepth 100000 in
set_option maxHeartbeats 2000000 in
theorem shas_2 (a : Ab) (v : Int) (k : Nat) (h1 : a.lo ≤ v) (h2 : ¬ v ≤ a.hi) (h3 : decide (v ≤ a.hi) = false)  (w : World) :
    Calls Try.prog 14 #[.agg #[.int .i64 a.lo, .int .i64 a.hi, .int .i64 a.m, .int .i64 a.r, .int .i64 a.k], .agg #[.int .i64 v, .int .i64 k]] w fun e w' => e = .returned (.bool false) ∧ Below w.heap.size w w' := by
  obtain ⟨w0, hw0⟩ : ∃ w0, ((w.alloc (.cells #[.int .i64 a.lo, .int .i64 a.hi, .int .i64 a.m, .int .i64 a.r, .int .i64 a.k] 27)).alloc (.cells #[.int .i64 v, .int .i64 k] 31)) = w0 := ⟨_, rfl⟩
  have B0 : Hid (Below w.heap.size w w0) := hidA (by rw [← hw0]; exact (alA (alA (Below.refl _ _) _) _))
  have hsz : w.heap.size + 1 < w0.heap.size := by rw [← hw0]; simp
  have PK : Hid (∀ W, Below w0.heap.size w0 W → abF W (w.heap.size) a (W.cell? ⟨w.heap.size + 1, 0, none⟩ = some (.int .i64 v) ∧ W.cell? ⟨w.heap.size + 1, 1, none⟩ = some (.int .i64 k) ∧ w.heap.size < W.heap.size ∧ w.heap.size + 1 < W.heap.size)) := hidA (fun W hW => by and_intros <;> first | exact cellA hW (by rw [← hw0]; simp [go_sem]) | exact (by have h0 := hW.size; have h1 := hsz; omega))
  have Hw := hidA hw0; clear hw0
  go_enter Try.func14, Try.ntmps14
  go_wp2_with fail
  rw [Hw.out]
  clear Hw
  have HS : Hid (Below w0.heap.size w0 w0) := hidA (Below.refl _ _)
  obtain ⟨c0, c1, c2, c3, c4, c5, c6, z0, z1⟩ := PK.out _ HS.out
  refine' wp_region_det (by kernel_rfl) [_, _, _, _, _, _, _, _, _, _, _, _, _, _, _, _, _, _, _, _, _, _, _, _, _, _, _, _] (fun W => Below w0.heap.size w0 W) (by kernel_rfl) HS.out.drew ?steps2 ?rest2
  case steps2 =>
    simp only [putAll, Act.put, List.setIfInBounds_toArray, List.set_cons_zero, List.set_cons_succ]
    refine detSteps_cons ?_ ?_
    · (refine det_run [2] (by kernel_rfl) (by rfl) (fun a ha W hW => ?_); have g2 : a.tmps[2]? = some _ := (ha 2 rfl).trans rfl; clear ha; go_simp; first  | (refine yield1_value ?_ hW; exact rfl))
    refine detSteps_cons ?_ ?_
    · (refine det_run [5] (by kernel_rfl) (by rfl) (fun a ha W hW => ?_); have g5 : a.tmps[5]? = some _ := (ha 5 rfl).trans rfl; clear ha; obtain ⟨c0, c1, c2, c3, c4, c5, c6, z0, z1⟩ := PK.out _ hW; go_simp; first  | (refine yield1_value ?_ hW; exact rfl))
    refine detSteps_cons ?_ ?_
    · (refine det_run [3] (by kernel_rfl) (by rfl) (fun a ha W hW => ?_); have g3 : a.tmps[3]? = some _ := (ha 3 rfl).trans rfl; clear ha; go_simp; first  | (refine yield1_value ?_ hW; exact rfl))
    refine detSteps_cons ?_ ?_
    · (refine det_run [7] (by kernel_rfl) (by rfl) (fun a ha W hW => ?_); have g7 : a.tmps[7]? = some _ := (ha 7 rfl).trans rfl; clear ha; obtain ⟨c0, c1, c2, c3, c4, c5, c6, z0, z1⟩ := PK.out _ hW; go_simp; first  | (refine yield1_value ?_ hW; exact rfl))
    refine detSteps_cons ?_ ?_
    · (refine det_run [6, 8] (by kernel_rfl) (by rfl) (fun a ha W hW => ?_); have g6 : a.tmps[6]? = some _ := (ha 6 rfl).trans rfl; have g8 : a.tmps[8]? = some _ := (ha 8 rfl).trans rfl; clear ha; go_simp; first  | (refine yield1_value ?_ hW; exact rfl))
    refine detSteps_cons ?_ ?_
    · (refine det_run [9] (by kernel_rfl) (by rfl) (fun a ha W hW => ?_); have g9 : a.tmps[9]? = some _ := (ha 9 rfl).trans rfl; clear ha; go_simp; first  | (refine yield1_value ?_ hW; exact rfl))
    refine detSteps_cons ?_ ?_
    · (refine det_run [3] (by kernel_rfl) (by rfl) (fun a ha W hW => ?_); have g3 : a.tmps[3]? = some _ := (ha 3 rfl).trans rfl; clear ha; go_simp; first  | (refine yield1_value ?_ hW; exact rfl))
    refine detSteps_cons ?_ ?_
    · (refine det_run [11] (by kernel_rfl) (by rfl) (fun a ha W hW => ?_); have g11 : a.tmps[11]? = some _ := (ha 11 rfl).trans rfl; clear ha; obtain ⟨c0, c1, c2, c3, c4, c5, c6, z0, z1⟩ := PK.out _ hW; go_simp; first  | (refine yield1_value ?_ hW; exact rfl))
    refine detSteps_cons ?_ ?_
    · (refine det_run [2] (by kernel_rfl) (by rfl) (fun a ha W hW => ?_); have g2 : a.tmps[2]? = some _ := (ha 2 rfl).trans rfl; clear ha; go_simp; first  | (refine yield1_value ?_ hW; exact rfl))
    refine detSteps_cons ?_ ?_
    · (refine det_run [13] (by kernel_rfl) (by rfl) (fun a ha W hW => ?_); have g13 : a.tmps[13]? = some _ := (ha 13 rfl).trans rfl; clear ha; obtain ⟨c0, c1, c2, c3, c4, c5, c6, z0, z1⟩ := PK.out _ hW; go_simp; first  | (refine yield1_value ?_ hW; exact rfl))
    refine detSteps_cons ?_ ?_
    · (refine det_run [12, 14] (by kernel_rfl) (by rfl) (fun a ha W hW => ?_); have g12 : a.tmps[12]? = some _ := (ha 12 rfl).trans rfl; have g14 : a.tmps[14]? = some _ := (ha 14 rfl).trans rfl; clear ha; go_simp; first  | (refine yield1_value ?_ hW; exact rfl))
    refine detSteps_cons ?_ ?_
    · (refine det_run [10, 15] (by kernel_rfl) (by rfl) (fun a ha W hW => ?_); have g10 : a.tmps[10]? = some _ := (ha 10 rfl).trans rfl; have g15 : a.tmps[15]? = some _ := (ha 15 rfl).trans rfl; clear ha; go_simp; first  | (refine yield1_value ?_ hW; exact rfl))
    refine detSteps_cons ?_ ?_
    · (refine det_run [16] (by kernel_rfl) (by rfl) (fun a ha W hW => ?_); have g16 : a.tmps[16]? = some _ := (ha 16 rfl).trans rfl; clear ha; go_simp; first  | (refine yield1_value ?_ hW; exact rfl))
    refine detSteps_cons ?_ ?_
    · (refine Or.inl ⟨by rfl, ?_⟩; exact rfl)
    refine detSteps_cons ?_ ?_
    · (refine Or.inl ⟨by rfl, ?_⟩; exact rfl)
    refine detSteps_cons ?_ ?_
    · (refine Or.inl ⟨by rfl, ?_⟩; exact rfl)
    refine detSteps_cons ?_ ?_
    · (refine Or.inl ⟨by rfl, ?_⟩; exact rfl)
    refine detSteps_cons ?_ ?_
    · (refine Or.inl ⟨by rfl, ?_⟩; exact rfl)
    refine detSteps_cons ?_ ?_
    · (refine det_run [17, 22] (by kernel_rfl) (by rfl) (fun a ha W hW => ?_); have g17 : a.tmps[17]? = some _ := (ha 17 rfl).trans rfl; have g22 : a.tmps[22]? = some _ := (ha 22 rfl).trans rfl; clear ha; go_simp; first  | (refine yield1_value ?_ hW; exact rfl))
    refine detSteps_cons ?_ ?_
    · (refine det_run [23] (by kernel_rfl) (by rfl) (fun a ha W hW => ?_); have g23 : a.tmps[23]? = some _ := (ha 23 rfl).trans rfl; clear ha; go_simp; first  | (refine yield1_value ?_ hW; exact rfl))
    refine detSteps_cons ?_ ?_
    · (refine Or.inl ⟨by rfl, ?_⟩; exact rfl)
    refine detSteps_cons ?_ ?_
    · (refine Or.inl ⟨by rfl, ?_⟩; exact rfl)
    refine detSteps_cons ?_ ?_
    · (refine Or.inl ⟨by rfl, ?_⟩; exact rfl)
    refine detSteps_cons ?_ ?_
    · (refine Or.inl ⟨by rfl, ?_⟩; exact rfl)
    refine detSteps_cons ?_ ?_
    · (refine Or.inl ⟨by rfl, ?_⟩; exact rfl)
    refine detSteps_cons ?_ ?_
    · (refine Or.inl ⟨by rfl, ?_⟩; exact rfl)
    refine detSteps_cons ?_ ?_
    · (refine det_run [24, 30] (by kernel_rfl) (by rfl) (fun a ha W hW => ?_); have g24 : a.tmps[24]? = some _ := (ha 24 rfl).trans rfl; have g30 : a.tmps[30]? = some _ := (ha 30 rfl).trans rfl; clear ha; go_simp; first  | (refine yield1_value ?_ hW; exact rfl))
    refine detSteps_cons ?_ ?_
    · (refine det_run [31] (by kernel_rfl) (by rfl) (fun a ha W hW => ?_); have g31 : a.tmps[31]? = some _ := (ha 31 rfl).trans rfl; clear ha; go_simp; first  | (refine yield1_value ?_ hW; exact rfl))
    exact detSteps_nil
  case rest2 =>
    intro w1 hs1
    simp only [putAll, Act.put, List.setIfInBounds_toArray, List.set_cons_zero, List.set_cons_succ]
    go_wp2
    go_ret
    exact ⟨rfl, (by repeat (first | with_reducible exact Below.refl _ _ | with_reducible exact hs1 | with_reducible exact B0.out | with_reducible refine Below.setCell ?_ (by first | omega | simp <;> omega) _ | with_reducible refine Below.alloc ?_ (by first | omega | simp <;> omega) _ | with_reducible refine Below.drew ?_ | with_reducible refine drewnA ?_ _ | with_reducible refine Below.trans ?_ (hs1.mono (by first | omega | simp <;> omega)) | with_reducible refine Below.trans ?_ (B0.out.mono (by first | omega | simp <;> omega))))⟩
set_option maxRecDepth 100000 in
set_option maxHeartbeats 2000000 in
theorem shas_3 (a : Ab) (v : Int) (k : Nat) (h1 : a.lo ≤ v) (h2 : v ≤ a.hi) (s : Int) (C0 : Hid (∀ w, Calls Try.prog 43 #[.agg #[.int .i64 a.lo, .int .i64 a.hi, .int .i64 a.m, .int .i64 a.r, .int .i64 a.k]] w fun e w' => e = .returned (.agg #[.int .i64 a.lo, .int .i64 s]) ∧ Below w.heap.size w w')) (C1 : Hid (∀ w, Calls Try.prog 44 #[.agg #[.int .i64 a.lo, .int .i64 s], .int .i64 v] w fun e w' => e = .returned (.bool false) ∧ Below w.heap.size w w')) (w : World) :
    Calls Try.prog 14 #[.agg #[.int .i64 a.lo, .int .i64 a.hi, .int .i64 a.m, .int .i64 a.r, .int .i64 a.k], .agg #[.int .i64 v, .int .i64 k]] w fun e w' => e = .returned (.bool false) ∧ Below w.heap.size w w' := by
  obtain ⟨w0, hw0⟩ : ∃ w0, ((w.alloc (.cells #[.int .i64 a.lo, .int .i64 a.hi, .int .i64 a.m, .int .i64 a.r, .int .i64 a.k] 27)).alloc (.cells #[.int .i64 v, .int .i64 k] 31)) = w0 := ⟨_, rfl⟩
  have B0 : Hid (Below w.heap.size w w0) := hidA (by rw [← hw0]; exact (alA (alA (Below.refl _ _) _) _))
  have hsz : w.heap.size + 1 < w0.heap.size := by rw [← hw0]; simp
  have PK : Hid (∀ W, Below w0.heap.size w0 W → abF W (w.heap.size) a (W.cell? ⟨w.heap.size + 1, 0, none⟩ = some (.int .i64 v) ∧ W.cell? ⟨w.heap.size + 1, 1, none⟩ = some (.int .i64 k) ∧ w.heap.size < W.heap.size ∧ w.heap.size + 1 < W.heap.size)) := hidA (fun W hW => by and_intros <;> first | exact cellA hW (by rw [← hw0]; simp [go_sem]) | exact (by have h0 := hW.size; have h1 := hsz; omega))
  have Hw := hidA hw0; clear hw0
  go_enter Try.func14, Try.ntmps14
  go_wp2_with fail
  rw [Hw.out]
  clear Hw
  have HS : Hid (Below w0.heap.size w0 w0) := hidA (Below.refl _ _)
  obtain ⟨c0, c1, c2, c3, c4, c5, c6, z0, z1⟩ := PK.out _ HS.out
  refine' wp_region_det (by kernel_rfl) [_, _, _, _, _, _, _, _, _, _, _, _, _, _, _, _, _, _, _, _, _, _, _, _, _, _, _, _] (fun W => Below w0.heap.size w0 W) (by kernel_rfl) HS.out.drew ?steps3 ?rest3
  case steps3 =>
    simp only [putAll, Act.put, List.setIfInBounds_toArray, List.set_cons_zero, List.set_cons_succ]
    refine detSteps_cons ?_ ?_
    · (refine det_run [2] (by kernel_rfl) (by rfl) (fun a ha W hW => ?_); have g2 : a.tmps[2]? = some _ := (ha 2 rfl).trans rfl; clear ha; go_simp; first  | (refine yield1_value ?_ hW; exact rfl))
    refine detSteps_cons ?_ ?_
    · (refine det_run [5] (by kernel_rfl) (by rfl) (fun a ha W hW => ?_); have g5 : a.tmps[5]? = some _ := (ha 5 rfl).trans rfl; clear ha; obtain ⟨c0, c1, c2, c3, c4, c5, c6, z0, z1⟩ := PK.out _ hW; go_simp; first  | (refine yield1_value ?_ hW; exact rfl))
    refine detSteps_cons ?_ ?_
    · (refine det_run [3] (by kernel_rfl) (by rfl) (fun a ha W hW => ?_); have g3 : a.tmps[3]? = some _ := (ha 3 rfl).trans rfl; clear ha; go_simp; first  | (refine yield1_value ?_ hW; exact rfl))
    refine detSteps_cons ?_ ?_
    · (refine det_run [7] (by kernel_rfl) (by rfl) (fun a ha W hW => ?_); have g7 : a.tmps[7]? = some _ := (ha 7 rfl).trans rfl; clear ha; obtain ⟨c0, c1, c2, c3, c4, c5, c6, z0, z1⟩ := PK.out _ hW; go_simp; first  | (refine yield1_value ?_ hW; exact rfl))
    refine detSteps_cons ?_ ?_
    · (refine det_run [6, 8] (by kernel_rfl) (by rfl) (fun a ha W hW => ?_); have g6 : a.tmps[6]? = some _ := (ha 6 rfl).trans rfl; have g8 : a.tmps[8]? = some _ := (ha 8 rfl).trans rfl; clear ha; go_simp; first  | (refine yield1_value ?_ hW; exact rfl))
    refine detSteps_cons ?_ ?_
    · (refine det_run [9] (by kernel_rfl) (by rfl) (fun a ha W hW => ?_); have g9 : a.tmps[9]? = some _ := (ha 9 rfl).trans rfl; clear ha; go_simp; first  | (refine yield1_value ?_ hW; exact rfl))
    refine detSteps_cons ?_ ?_
    · (refine det_run [3] (by kernel_rfl) (by rfl) (fun a ha W hW => ?_); have g3 : a.tmps[3]? = some _ := (ha 3 rfl).trans rfl; clear ha; go_simp; first  | (refine yield1_value ?_ hW; exact rfl))
    refine detSteps_cons ?_ ?_
    · (refine det_run [11] (by kernel_rfl) (by rfl) (fun a ha W hW => ?_); have g11 : a.tmps[11]? = some _ := (ha 11 rfl).trans rfl; clear ha; obtain ⟨c0, c1, c2, c3, c4, c5, c6, z0, z1⟩ := PK.out _ hW; go_simp; first  | (refine yield1_value ?_ hW; exact rfl))
    refine detSteps_cons ?_ ?_
    · (refine det_run [2] (by kernel_rfl) (by rfl) (fun a ha W hW => ?_); have g2 : a.tmps[2]? = some _ := (ha 2 rfl).trans rfl; clear ha; go_simp; first  | (refine yield1_value ?_ hW; exact rfl))
    refine detSteps_cons ?_ ?_
    · (refine det_run [13] (by kernel_rfl) (by rfl) (fun a ha W hW => ?_); have g13 : a.tmps[13]? = some _ := (ha 13 rfl).trans rfl; clear ha; obtain ⟨c0, c1, c2, c3, c4, c5, c6, z0, z1⟩ := PK.out _ hW; go_simp; first  | (refine yield1_value ?_ hW; exact rfl))
    refine detSteps_cons ?_ ?_
    · (refine det_run [12, 14] (by kernel_rfl) (by rfl) (fun a ha W hW => ?_); have g12 : a.tmps[12]? = some _ := (ha 12 rfl).trans rfl; have g14 : a.tmps[14]? = some _ := (ha 14 rfl).trans rfl; clear ha; go_simp; first  | (refine yield1_value ?_ hW; exact rfl))
    refine detSteps_cons ?_ ?_
    · (refine det_run [10, 15] (by kernel_rfl) (by rfl) (fun a ha W hW => ?_); have g10 : a.tmps[10]? = some _ := (ha 10 rfl).trans rfl; have g15 : a.tmps[15]? = some _ := (ha 15 rfl).trans rfl; clear ha; go_simp; first  | (refine yield1_value ?_ hW; exact rfl))
    refine detSteps_cons ?_ ?_
    · (refine det_run [16] (by kernel_rfl) (by rfl) (fun a ha W hW => ?_); have g16 : a.tmps[16]? = some _ := (ha 16 rfl).trans rfl; clear ha; go_simp; first  | (refine yield1_value ?_ hW; exact rfl))
    refine detSteps_cons ?_ ?_
    · (refine det_run [2] (by kernel_rfl) (by rfl) (fun a ha W hW => ?_); have g2 : a.tmps[2]? = some _ := (ha 2 rfl).trans rfl; clear ha; obtain ⟨c0, c1, c2, c3, c4, c5, c6, z0, z1⟩ := PK.out _ hW; go_simp; first  | (refine yield1_value ?_ hW; exact rfl))
    refine detSteps_cons ?_ ?_
    · (refine det_run [18] (by kernel_rfl) (by rfl) (fun a ha W hW => ?_); have g18 : a.tmps[18]? = some _ := (ha 18 rfl).trans rfl; clear ha; go_simp; first  | (refine yield1_enter ?_; go_at_call 43; (with_reducible refine (C0.out _).mono ?_); rintro e w1 ⟨rfl, hb1⟩; (refine And.intro ?_ (stepA hW hb1)); exact rfl) | (refine yield1_enter ?_; go_at_call 44; (with_reducible refine (C1.out _).mono ?_); rintro e w1 ⟨rfl, hb1⟩; (refine And.intro ?_ (stepA hW hb1)); exact rfl) | (refine yield1_value ?_ hW; exact rfl))
    refine detSteps_cons ?_ ?_
    · (refine det_run [3] (by kernel_rfl) (by rfl) (fun a ha W hW => ?_); have g3 : a.tmps[3]? = some _ := (ha 3 rfl).trans rfl; clear ha; go_simp; first  | (refine yield1_value ?_ hW; exact rfl))
    refine detSteps_cons ?_ ?_
    · (refine det_run [20] (by kernel_rfl) (by rfl) (fun a ha W hW => ?_); have g20 : a.tmps[20]? = some _ := (ha 20 rfl).trans rfl; clear ha; obtain ⟨c0, c1, c2, c3, c4, c5, c6, z0, z1⟩ := PK.out _ hW; go_simp; first  | (refine yield1_value ?_ hW; exact rfl))
    refine detSteps_cons ?_ ?_
    · (refine det_run [19, 21] (by kernel_rfl) (by rfl) (fun a ha W hW => ?_); have g19 : a.tmps[19]? = some _ := (ha 19 rfl).trans rfl; have g21 : a.tmps[21]? = some _ := (ha 21 rfl).trans rfl; clear ha; go_simp; first  | (refine yield1_enter ?_; go_at_call 43; (with_reducible refine (C0.out _).mono ?_); rintro e w1 ⟨rfl, hb1⟩; (refine And.intro ?_ (stepA hW hb1)); exact rfl) | (refine yield1_enter ?_; go_at_call 44; (with_reducible refine (C1.out _).mono ?_); rintro e w1 ⟨rfl, hb1⟩; (refine And.intro ?_ (stepA hW hb1)); exact rfl) | (refine yield1_value ?_ hW; exact rfl))
    refine detSteps_cons ?_ ?_
    · (refine det_run [17, 22] (by kernel_rfl) (by rfl) (fun a ha W hW => ?_); have g17 : a.tmps[17]? = some _ := (ha 17 rfl).trans rfl; have g22 : a.tmps[22]? = some _ := (ha 22 rfl).trans rfl; clear ha; go_simp; first  | (refine yield1_value ?_ hW; exact rfl))
    refine detSteps_cons ?_ ?_
    · (refine det_run [23] (by kernel_rfl) (by rfl) (fun a ha W hW => ?_); have g23 : a.tmps[23]? = some _ := (ha 23 rfl).trans rfl; clear ha; go_simp; first  | (refine yield1_value ?_ hW; exact rfl))
    refine detSteps_cons ?_ ?_
    · (refine Or.inl ⟨by rfl, ?_⟩; exact rfl)
    refine detSteps_cons ?_ ?_
    · (refine Or.inl ⟨by rfl, ?_⟩; exact rfl)
    refine detSteps_cons ?_ ?_
    · (refine Or.inl ⟨by rfl, ?_⟩; exact rfl)
    refine detSteps_cons ?_ ?_
    · (refine Or.inl ⟨by rfl, ?_⟩; exact rfl)
    refine detSteps_cons ?_ ?_
    · (refine Or.inl ⟨by rfl, ?_⟩; exact rfl)
    refine detSteps_cons ?_ ?_
    · (refine Or.inl ⟨by rfl, ?_⟩; exact rfl)
    refine detSteps_cons ?_ ?_
    · (refine det_run [24, 30] (by kernel_rfl) (by rfl) (fun a ha W hW => ?_); have g24 : a.tmps[24]? = some _ := (ha 24 rfl).trans rfl; have g30 : a.tmps[30]? = some _ := (ha 30 rfl).trans rfl; clear ha; go_simp; first  | (refine yield1_value ?_ hW; exact rfl))
    refine detSteps_cons ?_ ?_
    · (refine det_run [31] (by kernel_rfl) (by rfl) (fun a ha W hW => ?_); have g31 : a.tmps[31]? = some _ := (ha 31 rfl).trans rfl; clear ha; go_simp; first  | (refine yield1_value ?_ hW; exact rfl))
    exact detSteps_nil
  case rest3 =>
    intro w1 hs1
    simp only [putAll, Act.put, List.setIfInBounds_toArray, List.set_cons_zero, List.set_cons_succ]
    go_wp2
    go_ret
    exact ⟨rfl, (by repeat (first | with_reducible exact Below.refl _ _ | with_reducible exact hs1 | with_reducible exact B0.out | with_reducible refine Below.setCell ?_ (by first | omega | simp <;> omega) _ | with_reducible refine Below.alloc ?_ (by first | omega | simp <;> omega) _ | with_reducible refine Below.drew ?_ | with_reducible refine drewnA ?_ _ | with_reducible refine Below.trans ?_ (hs1.mono (by first | omega | simp <;> omega)) | with_reducible refine Below.trans ?_ (B0.out.mono (by first | omega | simp <;> omega))))⟩
set_option maxRecDepth 100000 in
set_option maxHeartbeats 2000000 in
theorem shas_4 (a : Ab) (v : Int) (k : Nat) (b : Bool) (h1 : a.lo ≤ v) (h2 : v ≤ a.hi) (hm : (bits .andNot .i64 (k : Int) (a.k : Int) == 0) = b) (s : Int) (C0 : Hid (∀ w, Calls Try.prog 43 #[.agg #[.int .i64 a.lo, .int .i64 a.hi, .int .i64 a.m, .int .i64 a.r, .int .i64 a.k]] w fun e w' => e = .returned (.agg #[.int .i64 a.lo, .int .i64 s]) ∧ Below w.heap.size w w')) (C1 : Hid (∀ w, Calls Try.prog 44 #[.agg #[.int .i64 a.lo, .int .i64 s], .int .i64 v] w fun e w' => e = .returned (.bool true) ∧ Below w.heap.size w w')) (w : World) :
    Calls Try.prog 14 #[.agg #[.int .i64 a.lo, .int .i64 a.hi, .int .i64 a.m, .int .i64 a.r, .int .i64 a.k], .agg #[.int .i64 v, .int .i64 k]] w fun e w' => e = .returned (.bool b) ∧ Below w.heap.size w w' := by
  obtain ⟨w0, hw0⟩ : ∃ w0, ((w.alloc (.cells #[.int .i64 a.lo, .int .i64 a.hi, .int .i64 a.m, .int .i64 a.r, .int .i64 a.k] 27)).alloc (.cells #[.int .i64 v, .int .i64 k] 31)) = w0 := ⟨_, rfl⟩
  have B0 : Hid (Below w.heap.size w w0) := hidA (by rw [← hw0]; exact (alA (alA (Below.refl _ _) _) _))
  have hsz : w.heap.size + 1 < w0.heap.size := by rw [← hw0]; simp
  have PK : Hid (∀ W, Below w0.heap.size w0 W → abF W (w.heap.size) a (W.cell? ⟨w.heap.size + 1, 0, none⟩ = some (.int .i64 v) ∧ W.cell? ⟨w.heap.size + 1, 1, none⟩ = some (.int .i64 k) ∧ w.heap.size < W.heap.size ∧ w.heap.size + 1 < W.heap.size)) := hidA (fun W hW => by and_intros <;> first | exact cellA hW (by rw [← hw0]; simp [go_sem]) | exact (by have h0 := hW.size; have h1 := hsz; omega))
  have Hw := hidA hw0; clear hw0
  go_enter Try.func14, Try.ntmps14
  go_wp2_with fail
  rw [Hw.out]
  clear Hw
  have HS : Hid (Below w0.heap.size w0 w0) := hidA (Below.refl _ _)
  obtain ⟨c0, c1, c2, c3, c4, c5, c6, z0, z1⟩ := PK.out _ HS.out
  refine' wp_region_det (by kernel_rfl) [_, _, _, _, _, _, _, _, _, _, _, _, _, _, _, _, _, _, _, _, _, _, _, _, _, _, _, _] (fun W => Below w0.heap.size w0 W) (by kernel_rfl) HS.out.drew ?steps4 ?rest4
  case steps4 =>
    simp only [putAll, Act.put, List.setIfInBounds_toArray, List.set_cons_zero, List.set_cons_succ]
    refine detSteps_cons ?_ ?_
    · (refine det_run [2] (by kernel_rfl) (by rfl) (fun a ha W hW => ?_); have g2 : a.tmps[2]? = some _ := (ha 2 rfl).trans rfl; clear ha; go_simp; first  | (refine yield1_value ?_ hW; exact rfl))
    refine detSteps_cons ?_ ?_
    · (refine det_run [5] (by kernel_rfl) (by rfl) (fun a ha W hW => ?_); have g5 : a.tmps[5]? = some _ := (ha 5 rfl).trans rfl; clear ha; obtain ⟨c0, c1, c2, c3, c4, c5, c6, z0, z1⟩ := PK.out _ hW; go_simp; first  | (refine yield1_value ?_ hW; exact rfl))
    refine detSteps_cons ?_ ?_
    · (refine det_run [3] (by kernel_rfl) (by rfl) (fun a ha W hW => ?_); have g3 : a.tmps[3]? = some _ := (ha 3 rfl).trans rfl; clear ha; go_simp; first  | (refine yield1_value ?_ hW; exact rfl))
    refine detSteps_cons ?_ ?_
    · (refine det_run [7] (by kernel_rfl) (by rfl) (fun a ha W hW => ?_); have g7 : a.tmps[7]? = some _ := (ha 7 rfl).trans rfl; clear ha; obtain ⟨c0, c1, c2, c3, c4, c5, c6, z0, z1⟩ := PK.out _ hW; go_simp; first  | (refine yield1_value ?_ hW; exact rfl))
    refine detSteps_cons ?_ ?_
    · (refine det_run [6, 8] (by kernel_rfl) (by rfl) (fun a ha W hW => ?_); have g6 : a.tmps[6]? = some _ := (ha 6 rfl).trans rfl; have g8 : a.tmps[8]? = some _ := (ha 8 rfl).trans rfl; clear ha; go_simp; first  | (refine yield1_value ?_ hW; exact rfl))
    refine detSteps_cons ?_ ?_
    · (refine det_run [9] (by kernel_rfl) (by rfl) (fun a ha W hW => ?_); have g9 : a.tmps[9]? = some _ := (ha 9 rfl).trans rfl; clear ha; go_simp; first  | (refine yield1_value ?_ hW; exact rfl))
    refine detSteps_cons ?_ ?_
    · (refine det_run [3] (by kernel_rfl) (by rfl) (fun a ha W hW => ?_); have g3 : a.tmps[3]? = some _ := (ha 3 rfl).trans rfl; clear ha; go_simp; first  | (refine yield1_value ?_ hW; exact rfl))
    refine detSteps_cons ?_ ?_
    · (refine det_run [11] (by kernel_rfl) (by rfl) (fun a ha W hW => ?_); have g11 : a.tmps[11]? = some _ := (ha 11 rfl).trans rfl; clear ha; obtain ⟨c0, c1, c2, c3, c4, c5, c6, z0, z1⟩ := PK.out _ hW; go_simp; first  | (refine yield1_value ?_ hW; exact rfl))
    refine detSteps_cons ?_ ?_
    · (refine det_run [2] (by kernel_rfl) (by rfl) (fun a ha W hW => ?_); have g2 : a.tmps[2]? = some _ := (ha 2 rfl).trans rfl; clear ha; go_simp; first  | (refine yield1_value ?_ hW; exact rfl))
    refine detSteps_cons ?_ ?_
    · (refine det_run [13] (by kernel_rfl) (by rfl) (fun a ha W hW => ?_); have g13 : a.tmps[13]? = some _ := (ha 13 rfl).trans rfl; clear ha; obtain ⟨c0, c1, c2, c3, c4, c5, c6, z0, z1⟩ := PK.out _ hW; go_simp; first  | (refine yield1_value ?_ hW; exact rfl))
    refine detSteps_cons ?_ ?_
    · (refine det_run [12, 14] (by kernel_rfl) (by rfl) (fun a ha W hW => ?_); have g12 : a.tmps[12]? = some _ := (ha 12 rfl).trans rfl; have g14 : a.tmps[14]? = some _ := (ha 14 rfl).trans rfl; clear ha; go_simp; first  | (refine yield1_value ?_ hW; exact rfl))
    refine detSteps_cons ?_ ?_
    · (refine det_run [10, 15] (by kernel_rfl) (by rfl) (fun a ha W hW => ?_); have g10 : a.tmps[10]? = some _ := (ha 10 rfl).trans rfl; have g15 : a.tmps[15]? = some _ := (ha 15 rfl).trans rfl; clear ha; go_simp; first  | (refine yield1_value ?_ hW; exact rfl))
    refine detSteps_cons ?_ ?_
    · (refine det_run [16] (by kernel_rfl) (by rfl) (fun a ha W hW => ?_); have g16 : a.tmps[16]? = some _ := (ha 16 rfl).trans rfl; clear ha; go_simp; first  | (refine yield1_value ?_ hW; exact rfl))
    refine detSteps_cons ?_ ?_
    · (refine det_run [2] (by kernel_rfl) (by rfl) (fun a ha W hW => ?_); have g2 : a.tmps[2]? = some _ := (ha 2 rfl).trans rfl; clear ha; obtain ⟨c0, c1, c2, c3, c4, c5, c6, z0, z1⟩ := PK.out _ hW; go_simp; first  | (refine yield1_value ?_ hW; exact rfl))
    refine detSteps_cons ?_ ?_
    · (refine det_run [18] (by kernel_rfl) (by rfl) (fun a ha W hW => ?_); have g18 : a.tmps[18]? = some _ := (ha 18 rfl).trans rfl; clear ha; go_simp; first  | (refine yield1_enter ?_; go_at_call 43; (with_reducible refine (C0.out _).mono ?_); rintro e w1 ⟨rfl, hb1⟩; (refine And.intro ?_ (stepA hW hb1)); exact rfl) | (refine yield1_enter ?_; go_at_call 44; (with_reducible refine (C1.out _).mono ?_); rintro e w1 ⟨rfl, hb1⟩; (refine And.intro ?_ (stepA hW hb1)); exact rfl) | (refine yield1_value ?_ hW; exact rfl))
    refine detSteps_cons ?_ ?_
    · (refine det_run [3] (by kernel_rfl) (by rfl) (fun a ha W hW => ?_); have g3 : a.tmps[3]? = some _ := (ha 3 rfl).trans rfl; clear ha; go_simp; first  | (refine yield1_value ?_ hW; exact rfl))
    refine detSteps_cons ?_ ?_
    · (refine det_run [20] (by kernel_rfl) (by rfl) (fun a ha W hW => ?_); have g20 : a.tmps[20]? = some _ := (ha 20 rfl).trans rfl; clear ha; obtain ⟨c0, c1, c2, c3, c4, c5, c6, z0, z1⟩ := PK.out _ hW; go_simp; first  | (refine yield1_value ?_ hW; exact rfl))
    refine detSteps_cons ?_ ?_
    · (refine det_run [19, 21] (by kernel_rfl) (by rfl) (fun a ha W hW => ?_); have g19 : a.tmps[19]? = some _ := (ha 19 rfl).trans rfl; have g21 : a.tmps[21]? = some _ := (ha 21 rfl).trans rfl; clear ha; go_simp; first  | (refine yield1_enter ?_; go_at_call 43; (with_reducible refine (C0.out _).mono ?_); rintro e w1 ⟨rfl, hb1⟩; (refine And.intro ?_ (stepA hW hb1)); exact rfl) | (refine yield1_enter ?_; go_at_call 44; (with_reducible refine (C1.out _).mono ?_); rintro e w1 ⟨rfl, hb1⟩; (refine And.intro ?_ (stepA hW hb1)); exact rfl) | (refine yield1_value ?_ hW; exact rfl))
    refine detSteps_cons ?_ ?_
    · (refine det_run [17, 22] (by kernel_rfl) (by rfl) (fun a ha W hW => ?_); have g17 : a.tmps[17]? = some _ := (ha 17 rfl).trans rfl; have g22 : a.tmps[22]? = some _ := (ha 22 rfl).trans rfl; clear ha; go_simp; first  | (refine yield1_value ?_ hW; exact rfl))
    refine detSteps_cons ?_ ?_
    · (refine det_run [23] (by kernel_rfl) (by rfl) (fun a ha W hW => ?_); have g23 : a.tmps[23]? = some _ := (ha 23 rfl).trans rfl; clear ha; go_simp; first  | (refine yield1_value ?_ hW; exact rfl))
    refine detSteps_cons ?_ ?_
    · (refine det_run [3] (by kernel_rfl) (by rfl) (fun a ha W hW => ?_); have g3 : a.tmps[3]? = some _ := (ha 3 rfl).trans rfl; clear ha; go_simp; first  | (refine yield1_value ?_ hW; exact rfl))
    refine detSteps_cons ?_ ?_
    · (refine det_run [25] (by kernel_rfl) (by rfl) (fun a ha W hW => ?_); have g25 : a.tmps[25]? = some _ := (ha 25 rfl).trans rfl; clear ha; obtain ⟨c0, c1, c2, c3, c4, c5, c6, z0, z1⟩ := PK.out _ hW; go_simp; first  | (refine yield1_value ?_ hW; exact rfl))
    refine detSteps_cons ?_ ?_
    · (refine det_run [2] (by kernel_rfl) (by rfl) (fun a ha W hW => ?_); have g2 : a.tmps[2]? = some _ := (ha 2 rfl).trans rfl; clear ha; go_simp; first  | (refine yield1_value ?_ hW; exact rfl))
    refine detSteps_cons ?_ ?_
    · (refine det_run [27] (by kernel_rfl) (by rfl) (fun a ha W hW => ?_); have g27 : a.tmps[27]? = some _ := (ha 27 rfl).trans rfl; clear ha; obtain ⟨c0, c1, c2, c3, c4, c5, c6, z0, z1⟩ := PK.out _ hW; go_simp; first  | (refine yield1_value ?_ hW; exact rfl))
    refine detSteps_cons ?_ ?_
    · (refine det_run [26, 28] (by kernel_rfl) (by rfl) (fun a ha W hW => ?_); have g26 : a.tmps[26]? = some _ := (ha 26 rfl).trans rfl; have g28 : a.tmps[28]? = some _ := (ha 28 rfl).trans rfl; clear ha; go_simp; first  | (refine yield1_value ?_ hW; exact rfl))
    refine detSteps_cons ?_ ?_
    · (refine det_run [29] (by kernel_rfl) (by rfl) (fun a ha W hW => ?_); have g29 : a.tmps[29]? = some _ := (ha 29 rfl).trans rfl; clear ha; go_simp; first  | (refine yield1_value ?_ hW; exact rfl))
    refine detSteps_cons ?_ ?_
    · (refine det_run [24, 30] (by kernel_rfl) (by rfl) (fun a ha W hW => ?_); have g24 : a.tmps[24]? = some _ := (ha 24 rfl).trans rfl; have g30 : a.tmps[30]? = some _ := (ha 30 rfl).trans rfl; clear ha; go_simp; first  | (refine yield1_value ?_ hW; exact rfl))
    refine detSteps_cons ?_ ?_
    · (refine det_run [31] (by kernel_rfl) (by rfl) (fun a ha W hW => ?_); have g31 : a.tmps[31]? = some _ := (ha 31 rfl).trans rfl; clear ha; go_simp; first  | (refine yield1_value ?_ hW; exact rfl))
    exact detSteps_nil
  case rest4 =>
    intro w1 hs1
    simp only [putAll, Act.put, List.setIfInBounds_toArray, List.set_cons_zero, List.set_cons_succ]
    go_wp2
    go_ret
    exact ⟨rfl, (by repeat (first | with_reducible exact Below.refl _ _ | with_reducible exact hs1 | with_reducible exact B0.out | with_reducible refine Below.setCell ?_ (by first | omega | simp <;> omega) _ | with_reducible refine Below.alloc ?_ (by first | omega | simp <;> omega) _ | with_reducible refine Below.drew ?_ | with_reducible refine drewnA ?_ _ | with_reducible refine Below.trans ?_ (hs1.mono (by first | omega | simp <;> omega)) | with_reducible refine Below.trans ?_ (B0.out.mono (by first | omega | simp <;> omega))))⟩
theorem hasB_of (a : Ab) (A : Val a) (v : Int) (k : Nat) (b : Bool) (h : (Mem a v ∧ Sb k a.k) ↔ b = true) : hasB a v k = b := by
  rw [Bool.eq_iff_iff, hasB_iff A]; exact h
theorem shas_any (a : Ab) (A : Val a) (v : Int) (k : Nat) (hk : k < 256) (w : World) :
    Calls Try.prog 14 #[.agg #[.int .i64 a.lo, .int .i64 a.hi, .int .i64 a.m, .int .i64 a.r, .int .i64 a.k], .agg #[.int .i64 v, .int .i64 k]] w fun e w' => e = .returned (.bool (hasB a v k)) ∧ Below w.heap.size w w' := by
  by_cases h1 : a.lo ≤ v
  · by_cases h2 : v ≤ a.hi
    · have := A.l; have := A.h
      have s0 := (val_stp A).1
      have CH := chas_any a.lo (stp a) v ⟨by omega, by omega⟩ s0
      by_cases h3 : stp a ∣ v - a.lo
      · have e : hasB a v k = sbB k a.k := hasB_of a A v k _ (by rw [sbB_iff]; exact ⟨fun h => h.2, fun h => ⟨⟨h1, h2, h3⟩, h⟩⟩)
        rw [e]
        rw [decide_eq_true h3] at CH
        exact shas_4 a v k _ h1 h2 (bits_not8 hk A.k) _ (hidA (fun w => sclassOf_any a w)) (hidA CH) w
      · have e : hasB a v k = false := hasB_of a A v k _ ⟨fun h => absurd h.1.2.2 h3, fun h => by cases h⟩
        rw [e]
        rw [decide_eq_false h3] at CH
        exact shas_3 a v k h1 h2 _ (hidA (fun w => sclassOf_any a w)) (hidA CH) w
    · have e : hasB a v k = false := hasB_of a A v k _ ⟨fun h => absurd h.1.2.1 h2, fun h => by cases h⟩
      rw [e]
      exact shas_2 a v k h1 h2 (decide_eq_false h2) w
  · have e : hasB a v k = false := hasB_of a A v k _ ⟨fun h => absurd h.1.1 h1, fun h => by cases h⟩
    rw [e]
    exact shas_1 a v k h1 (decide_eq_false h1) w
end Go.Proofs.Ytdopjadlbhacfaa

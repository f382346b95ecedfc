import Derived.Test.YtdopjadlbhacfaaBu
import Derived.Deep.Cut
import Derived.Deep.DeepCutAuto
namespace Go.Proofs.Ytdopjadlbhacfaa
open Go.RowKit Go.Instr Sp
set_option linter.unusedVariables false
set_option linter.unusedSimpArgs false

/-! The reference's validity of any five numbers. -/
set_option maxRecDepth 100000 in
set_option maxHeartbeats 1000000 in
theorem rv_0 (l h m r k : Int)  (b0 : ¬ -2147483648 ≤ l) (w : World) :
    Calls Try.prog 13 #[.agg #[.int .i64 l, .int .i64 h, .int .i64 m, .int .i64 r, .int .i64 k]] w fun e w' => e = .returned (.bool false) ∧ Below w.heap.size w w' := by
  go_enter Try.func13, Try.ntmps13
  go_wp2
  go_ret
  exact ⟨rfl, (by repeat (first | with_reducible exact Below.refl _ _ | with_reducible refine Below.setCell ?_ (by first | omega | (dsimp only; omega) | (simp; done) | (simp; omega)) _ | with_reducible refine Below.alloc ?_ (by first | omega | (dsimp only; omega) | (simp; done) | (simp; omega)) _ | with_reducible refine Below.drew ?_ | with_reducible refine drewnA ?_ _))⟩
set_option maxRecDepth 100000 in
set_option maxHeartbeats 1000000 in
theorem rv_1 (l h m r k : Int) (g0 : -2147483648 ≤ l) (b1 : ¬ l ≤ h) (w : World) :
    Calls Try.prog 13 #[.agg #[.int .i64 l, .int .i64 h, .int .i64 m, .int .i64 r, .int .i64 k]] w fun e w' => e = .returned (.bool false) ∧ Below w.heap.size w w' := by
  go_enter Try.func13, Try.ntmps13
  go_wp2
  go_ret
  exact ⟨rfl, (by repeat (first | with_reducible exact Below.refl _ _ | with_reducible refine Below.setCell ?_ (by first | omega | (dsimp only; omega) | (simp; done) | (simp; omega)) _ | with_reducible refine Below.alloc ?_ (by first | omega | (dsimp only; omega) | (simp; done) | (simp; omega)) _ | with_reducible refine Below.drew ?_ | with_reducible refine drewnA ?_ _))⟩
set_option maxRecDepth 100000 in
set_option maxHeartbeats 1000000 in
theorem rv_2 (l h m r k : Int) (g0 : -2147483648 ≤ l) (g1 : l ≤ h) (b2 : ¬ h ≤ 2147483647) (w : World) :
    Calls Try.prog 13 #[.agg #[.int .i64 l, .int .i64 h, .int .i64 m, .int .i64 r, .int .i64 k]] w fun e w' => e = .returned (.bool false) ∧ Below w.heap.size w w' := by
  go_enter Try.func13, Try.ntmps13
  go_wp2
  go_ret
  exact ⟨rfl, (by repeat (first | with_reducible exact Below.refl _ _ | with_reducible refine Below.setCell ?_ (by first | omega | (dsimp only; omega) | (simp; done) | (simp; omega)) _ | with_reducible refine Below.alloc ?_ (by first | omega | (dsimp only; omega) | (simp; done) | (simp; omega)) _ | with_reducible refine Below.drew ?_ | with_reducible refine drewnA ?_ _))⟩
set_option maxRecDepth 100000 in
set_option maxHeartbeats 1000000 in
theorem rv_3 (l h m r k : Int) (g0 : -2147483648 ≤ l) (g1 : l ≤ h) (g2 : h ≤ 2147483647) (b3 : ¬ 0 ≤ k) (w : World) :
    Calls Try.prog 13 #[.agg #[.int .i64 l, .int .i64 h, .int .i64 m, .int .i64 r, .int .i64 k]] w fun e w' => e = .returned (.bool false) ∧ Below w.heap.size w w' := by
  go_enter Try.func13, Try.ntmps13
  go_wp2
  go_ret
  exact ⟨rfl, (by repeat (first | with_reducible exact Below.refl _ _ | with_reducible refine Below.setCell ?_ (by first | omega | (dsimp only; omega) | (simp; done) | (simp; omega)) _ | with_reducible refine Below.alloc ?_ (by first | omega | (dsimp only; omega) | (simp; done) | (simp; omega)) _ | with_reducible refine Below.drew ?_ | with_reducible refine drewnA ?_ _))⟩
set_option maxRecDepth 100000 in
set_option maxHeartbeats 1000000 in
theorem rv_4 (l h m r k : Int) (g0 : -2147483648 ≤ l) (g1 : l ≤ h) (g2 : h ≤ 2147483647) (g3 : 0 ≤ k) (b4 : ¬ k ≤ 255) (w : World) :
    Calls Try.prog 13 #[.agg #[.int .i64 l, .int .i64 h, .int .i64 m, .int .i64 r, .int .i64 k]] w fun e w' => e = .returned (.bool false) ∧ Below w.heap.size w w' := by
  go_enter Try.func13, Try.ntmps13
  go_wp2
  go_ret
  exact ⟨rfl, (by repeat (first | with_reducible exact Below.refl _ _ | with_reducible refine Below.setCell ?_ (by first | omega | (dsimp only; omega) | (simp; done) | (simp; omega)) _ | with_reducible refine Below.alloc ?_ (by first | omega | (dsimp only; omega) | (simp; done) | (simp; omega)) _ | with_reducible refine Below.drew ?_ | with_reducible refine drewnA ?_ _))⟩
set_option maxRecDepth 100000 in
set_option maxHeartbeats 1000000 in
theorem rv_s1 (l h m r k : Int) (g0 : -2147483648 ≤ l) (g1 : l ≤ h) (g2 : h ≤ 2147483647) (g3 : 0 ≤ k) (g4 : k ≤ 255) (hq : (l == h) = true) (hm : (m == 1) = false) (w : World) :
    Calls Try.prog 13 #[.agg #[.int .i64 l, .int .i64 h, .int .i64 m, .int .i64 r, .int .i64 k]] w fun e w' => e = .returned (.bool false) ∧ Below w.heap.size w w' := by
  go_enter Try.func13, Try.ntmps13
  go_wp2
  go_ret
  exact ⟨rfl, (by repeat (first | with_reducible exact Below.refl _ _ | with_reducible refine Below.setCell ?_ (by first | omega | (dsimp only; omega) | (simp; done) | (simp; omega)) _ | with_reducible refine Below.alloc ?_ (by first | omega | (dsimp only; omega) | (simp; done) | (simp; omega)) _ | with_reducible refine Below.drew ?_ | with_reducible refine drewnA ?_ _))⟩
set_option maxRecDepth 100000 in
set_option maxHeartbeats 1000000 in
theorem rv_s2 (l h m r k : Int) (g0 : -2147483648 ≤ l) (g1 : l ≤ h) (g2 : h ≤ 2147483647) (g3 : 0 ≤ k) (g4 : k ≤ 255) (v : Bool) (hq : (l == h) = true) (hm : (m == 1) = true) (hr : (r == 0) = v) (w : World) :
    Calls Try.prog 13 #[.agg #[.int .i64 l, .int .i64 h, .int .i64 m, .int .i64 r, .int .i64 k]] w fun e w' => e = .returned (.bool v) ∧ Below w.heap.size w w' := by
  go_enter Try.func13, Try.ntmps13
  go_wp2
  go_ret
  exact ⟨rfl, (by repeat (first | with_reducible exact Below.refl _ _ | with_reducible refine Below.setCell ?_ (by first | omega | (dsimp only; omega) | (simp; done) | (simp; omega)) _ | with_reducible refine Below.alloc ?_ (by first | omega | (dsimp only; omega) | (simp; done) | (simp; omega)) _ | with_reducible refine Below.drew ?_ | with_reducible refine drewnA ?_ _))⟩
set_option maxRecDepth 100000 in
set_option maxHeartbeats 4000000 in
theorem rv_m1 (l h m r k : Int) (g0 : -2147483648 ≤ l) (g1 : l ≤ h) (g2 : h ≤ 2147483647) (g3 : 0 ≤ k) (g4 : k ≤ 255) (hq : (l == h) = false) (lt : l < h) (c1 : ¬ 1 ≤ m) (d1 : decide (1 ≤ m) = false) (w : World) :
    Calls Try.prog 13 #[.agg #[.int .i64 l, .int .i64 h, .int .i64 m, .int .i64 r, .int .i64 k]] w fun e w' => e = .returned (.bool false) ∧ Below w.heap.size w w' := by
  obtain ⟨w0, hw0⟩ : ∃ w0, (w.alloc (.cells #[.int .i64 l, .int .i64 h, .int .i64 m, .int .i64 r, .int .i64 k] 27)) = w0 := ⟨_, rfl⟩
  have B0 : Hid (Below w.heap.size w w0) := hidA (by rw [← hw0]; exact (alA (Below.refl _ _) _))
  have hsz : w.heap.size < w0.heap.size := by rw [← hw0]; simp
  have PK : Hid (∀ W, Below w0.heap.size w0 W → W.cell? ⟨w.heap.size, 0, none⟩ = some (.int .i64 l) ∧ W.cell? ⟨w.heap.size, 1, none⟩ = some (.int .i64 h) ∧ W.cell? ⟨w.heap.size, 2, none⟩ = some (.int .i64 m) ∧ W.cell? ⟨w.heap.size, 3, none⟩ = some (.int .i64 r) ∧ W.cell? ⟨w.heap.size, 4, none⟩ = some (.int .i64 k) ∧ w.heap.size < W.heap.size) := hidA (fun W hW => by and_intros <;> first | exact cellA hW (by rw [← hw0]; simp [go_sem]) | exact (by have h0 := hW.size; have h1 := hsz; omega))
  have Hw := hidA hw0; clear hw0
  go_enter Try.func13, Try.ntmps13
  go_wp2_with fail
  rw [Hw.out]
  clear Hw
  have HS : Hid (Below w0.heap.size w0 w0) := hidA (Below.refl _ _)
  obtain ⟨c0, c1, c2, c3, c4, z0⟩ := PK.out _ HS.out
  refine' wp_region_det (by kernel_rfl) [_, _, _, _, _, _, _, _, _, _, _, _, _, _, _, _, _, _, _, _, _, _, _, _, _, _, _, _, _, _, _, _, _, _, _] (fun W => Below w0.heap.size w0 W) (by kernel_rfl) HS.out.drew ?steps1 ?rest1
  case steps1 =>
    simp only [putAll, Act.put, List.setIfInBounds_toArray, List.set_cons_zero, List.set_cons_succ]
    refine detSteps_cons ?_ ?_
    · (refine det_run [1] (by kernel_rfl) (by rfl) (fun a ha W hW => ?_); have g1 : a.tmps[1]? = some _ := (ha 1 rfl).trans rfl; clear ha; go_simp; first  | (refine yield1_value ?_ hW; exact rfl))
    refine detSteps_cons ?_ ?_
    · (refine det_run [41] (by kernel_rfl) (by rfl) (fun a ha W hW => ?_); have g41 : a.tmps[41]? = some _ := (ha 41 rfl).trans rfl; clear ha; obtain ⟨c0, c1, c2, c3, c4, z0⟩ := PK.out _ hW; go_simp; first  | (refine yield1_value ?_ hW; exact rfl))
    refine detSteps_cons ?_ ?_
    · (refine det_run [42] (by kernel_rfl) (by rfl) (fun a ha W hW => ?_); have g42 : a.tmps[42]? = some _ := (ha 42 rfl).trans rfl; clear ha; go_simp; first  | (refine yield1_value ?_ hW; exact rfl))
    refine detSteps_cons ?_ ?_
    · (refine det_run [43] (by kernel_rfl) (by rfl) (fun a ha W hW => ?_); have g43 : a.tmps[43]? = some _ := (ha 43 rfl).trans rfl; clear ha; go_simp; first  | (refine yield1_value ?_ hW; exact rfl))
    refine detSteps_cons ?_ ?_
    · (refine Or.inl ⟨by rfl, ?_⟩; exact rfl)
    refine detSteps_cons ?_ ?_
    · (refine Or.inl ⟨by rfl, ?_⟩; exact rfl)
    refine detSteps_cons ?_ ?_
    · (refine Or.inl ⟨by rfl, ?_⟩; exact rfl)
    refine detSteps_cons ?_ ?_
    · (refine Or.inl ⟨by rfl, ?_⟩; exact rfl)
    refine detSteps_cons ?_ ?_
    · (refine Or.inl ⟨by rfl, ?_⟩; exact rfl)
    refine detSteps_cons ?_ ?_
    · (refine Or.inl ⟨by rfl, ?_⟩; exact rfl)
    refine detSteps_cons ?_ ?_
    · (refine Or.inl ⟨by rfl, ?_⟩; exact rfl)
    refine detSteps_cons ?_ ?_
    · (refine Or.inl ⟨by rfl, ?_⟩; exact rfl)
    refine detSteps_cons ?_ ?_
    · (refine det_run [44, 52] (by kernel_rfl) (by rfl) (fun a ha W hW => ?_); have g44 : a.tmps[44]? = some _ := (ha 44 rfl).trans rfl; have g52 : a.tmps[52]? = some _ := (ha 52 rfl).trans rfl; clear ha; go_simp; first  | (refine yield1_value ?_ hW; exact rfl))
    refine detSteps_cons ?_ ?_
    · (refine det_run [53] (by kernel_rfl) (by rfl) (fun a ha W hW => ?_); have g53 : a.tmps[53]? = some _ := (ha 53 rfl).trans rfl; clear ha; go_simp; first  | (refine yield1_value ?_ hW; exact rfl))
    refine detSteps_cons ?_ ?_
    · (refine Or.inl ⟨by rfl, ?_⟩; exact rfl)
    refine detSteps_cons ?_ ?_
    · (refine Or.inl ⟨by rfl, ?_⟩; exact rfl)
    refine detSteps_cons ?_ ?_
    · (refine Or.inl ⟨by rfl, ?_⟩; exact rfl)
    refine detSteps_cons ?_ ?_
    · (refine Or.inl ⟨by rfl, ?_⟩; exact rfl)
    refine detSteps_cons ?_ ?_
    · (refine Or.inl ⟨by rfl, ?_⟩; exact rfl)
    refine detSteps_cons ?_ ?_
    · (refine Or.inl ⟨by rfl, ?_⟩; exact rfl)
    refine detSteps_cons ?_ ?_
    · (refine Or.inl ⟨by rfl, ?_⟩; exact rfl)
    refine detSteps_cons ?_ ?_
    · (refine Or.inl ⟨by rfl, ?_⟩; exact rfl)
    refine detSteps_cons ?_ ?_
    · (refine Or.inl ⟨by rfl, ?_⟩; exact rfl)
    refine detSteps_cons ?_ ?_
    · (refine det_run [54, 63] (by kernel_rfl) (by rfl) (fun a ha W hW => ?_); have g54 : a.tmps[54]? = some _ := (ha 54 rfl).trans rfl; have g63 : a.tmps[63]? = some _ := (ha 63 rfl).trans rfl; clear ha; go_simp; first  | (refine yield1_value ?_ hW; exact rfl))
    refine detSteps_cons ?_ ?_
    · (refine det_run [64] (by kernel_rfl) (by rfl) (fun a ha W hW => ?_); have g64 : a.tmps[64]? = some _ := (ha 64 rfl).trans rfl; clear ha; go_simp; first  | (refine yield1_value ?_ hW; exact rfl))
    refine detSteps_cons ?_ ?_
    · (refine Or.inl ⟨by rfl, ?_⟩; exact rfl)
    refine detSteps_cons ?_ ?_
    · (refine Or.inl ⟨by rfl, ?_⟩; exact rfl)
    refine detSteps_cons ?_ ?_
    · (refine Or.inl ⟨by rfl, ?_⟩; exact rfl)
    refine detSteps_cons ?_ ?_
    · (refine Or.inl ⟨by rfl, ?_⟩; exact rfl)
    refine detSteps_cons ?_ ?_
    · (refine Or.inl ⟨by rfl, ?_⟩; exact rfl)
    refine detSteps_cons ?_ ?_
    · (refine Or.inl ⟨by rfl, ?_⟩; exact rfl)
    refine detSteps_cons ?_ ?_
    · (refine Or.inl ⟨by rfl, ?_⟩; exact rfl)
    refine detSteps_cons ?_ ?_
    · (refine Or.inl ⟨by rfl, ?_⟩; exact rfl)
    refine detSteps_cons ?_ ?_
    · (refine det_run [65, 73] (by kernel_rfl) (by rfl) (fun a ha W hW => ?_); have g65 : a.tmps[65]? = some _ := (ha 65 rfl).trans rfl; have g73 : a.tmps[73]? = some _ := (ha 73 rfl).trans rfl; clear ha; go_simp; first  | (refine yield1_value ?_ hW; exact rfl))
    refine detSteps_cons ?_ ?_
    · (refine det_run [74] (by kernel_rfl) (by rfl) (fun a ha W hW => ?_); have g74 : a.tmps[74]? = some _ := (ha 74 rfl).trans rfl; clear ha; go_simp; first  | (refine yield1_value ?_ hW; exact rfl))
    exact detSteps_nil
  case rest1 =>
    intro w1 hs1
    simp only [putAll, Act.put, List.setIfInBounds_toArray, List.set_cons_zero, List.set_cons_succ]
    go_wp2
    go_ret
    exact ⟨rfl, (by repeat (first | with_reducible exact Below.refl _ _ | with_reducible exact hs1 | with_reducible exact B0.out | with_reducible refine Below.setCell ?_ (by first | omega | (dsimp only; omega) | (simp; done) | (simp; omega)) _ | with_reducible refine Below.alloc ?_ (by first | omega | (dsimp only; omega) | (simp; done) | (simp; omega)) _ | with_reducible refine Below.drew ?_ | with_reducible refine drewnA ?_ _ | with_reducible refine Below.trans ?_ (hs1.mono (by first | omega | (dsimp only; omega) | (simp; done) | (simp; omega))) | with_reducible refine Below.trans ?_ (B0.out.mono (by first | omega | (dsimp only; omega) | (simp; done) | (simp; omega)))))⟩
set_option maxRecDepth 100000 in
set_option maxHeartbeats 4000000 in
theorem rv_m2 (l h m r k : Int) (g0 : -2147483648 ≤ l) (g1 : l ≤ h) (g2 : h ≤ 2147483647) (g3 : 0 ≤ k) (g4 : k ≤ 255) (hq : (l == h) = false) (lt : l < h) (ew : IntKind.i64.wrap (h - l) = h - l) (c1 : 1 ≤ m) (c2 : ¬ m ≤ h - l) (d2 : decide (m ≤ h - l) = false) (w : World) :
    Calls Try.prog 13 #[.agg #[.int .i64 l, .int .i64 h, .int .i64 m, .int .i64 r, .int .i64 k]] w fun e w' => e = .returned (.bool false) ∧ Below w.heap.size w w' := by
  obtain ⟨w0, hw0⟩ : ∃ w0, (w.alloc (.cells #[.int .i64 l, .int .i64 h, .int .i64 m, .int .i64 r, .int .i64 k] 27)) = w0 := ⟨_, rfl⟩
  have B0 : Hid (Below w.heap.size w w0) := hidA (by rw [← hw0]; exact (alA (Below.refl _ _) _))
  have hsz : w.heap.size < w0.heap.size := by rw [← hw0]; simp
  have PK : Hid (∀ W, Below w0.heap.size w0 W → W.cell? ⟨w.heap.size, 0, none⟩ = some (.int .i64 l) ∧ W.cell? ⟨w.heap.size, 1, none⟩ = some (.int .i64 h) ∧ W.cell? ⟨w.heap.size, 2, none⟩ = some (.int .i64 m) ∧ W.cell? ⟨w.heap.size, 3, none⟩ = some (.int .i64 r) ∧ W.cell? ⟨w.heap.size, 4, none⟩ = some (.int .i64 k) ∧ w.heap.size < W.heap.size) := hidA (fun W hW => by and_intros <;> first | exact cellA hW (by rw [← hw0]; simp [go_sem]) | exact (by have h0 := hW.size; have h1 := hsz; omega))
  have Hw := hidA hw0; clear hw0
  go_enter Try.func13, Try.ntmps13
  go_wp2_with fail
  rw [Hw.out]
  clear Hw
  have HS : Hid (Below w0.heap.size w0 w0) := hidA (Below.refl _ _)
  obtain ⟨c0, c1, c2, c3, c4, z0⟩ := PK.out _ HS.out
  refine' wp_region_det (by kernel_rfl) [_, _, _, _, _, _, _, _, _, _, _, _, _, _, _, _, _, _, _, _, _, _, _, _, _, _, _, _, _, _, _, _, _, _, _] (fun W => Below w0.heap.size w0 W) (by kernel_rfl) HS.out.drew ?steps2 ?rest2
  case steps2 =>
    simp only [putAll, Act.put, List.setIfInBounds_toArray, List.set_cons_zero, List.set_cons_succ]
    refine detSteps_cons ?_ ?_
    · (refine det_run [1] (by kernel_rfl) (by rfl) (fun a ha W hW => ?_); have g1 : a.tmps[1]? = some _ := (ha 1 rfl).trans rfl; clear ha; go_simp; first  | (refine yield1_value ?_ hW; exact rfl))
    refine detSteps_cons ?_ ?_
    · (refine det_run [41] (by kernel_rfl) (by rfl) (fun a ha W hW => ?_); have g41 : a.tmps[41]? = some _ := (ha 41 rfl).trans rfl; clear ha; obtain ⟨c0, c1, c2, c3, c4, z0⟩ := PK.out _ hW; go_simp; first  | (refine yield1_value ?_ hW; exact rfl))
    refine detSteps_cons ?_ ?_
    · (refine det_run [42] (by kernel_rfl) (by rfl) (fun a ha W hW => ?_); have g42 : a.tmps[42]? = some _ := (ha 42 rfl).trans rfl; clear ha; go_simp; first  | (refine yield1_value ?_ hW; exact rfl))
    refine detSteps_cons ?_ ?_
    · (refine det_run [43] (by kernel_rfl) (by rfl) (fun a ha W hW => ?_); have g43 : a.tmps[43]? = some _ := (ha 43 rfl).trans rfl; clear ha; go_simp; first  | (refine yield1_value ?_ hW; exact rfl))
    refine detSteps_cons ?_ ?_
    · (refine det_run [1] (by kernel_rfl) (by rfl) (fun a ha W hW => ?_); have g1 : a.tmps[1]? = some _ := (ha 1 rfl).trans rfl; clear ha; go_simp; first  | (refine yield1_value ?_ hW; exact rfl))
    refine detSteps_cons ?_ ?_
    · (refine det_run [45] (by kernel_rfl) (by rfl) (fun a ha W hW => ?_); have g45 : a.tmps[45]? = some _ := (ha 45 rfl).trans rfl; clear ha; obtain ⟨c0, c1, c2, c3, c4, z0⟩ := PK.out _ hW; go_simp; first  | (refine yield1_value ?_ hW; exact rfl))
    refine detSteps_cons ?_ ?_
    · (refine det_run [1] (by kernel_rfl) (by rfl) (fun a ha W hW => ?_); have g1 : a.tmps[1]? = some _ := (ha 1 rfl).trans rfl; clear ha; go_simp; first  | (refine yield1_value ?_ hW; exact rfl))
    refine detSteps_cons ?_ ?_
    · (refine det_run [47] (by kernel_rfl) (by rfl) (fun a ha W hW => ?_); have g47 : a.tmps[47]? = some _ := (ha 47 rfl).trans rfl; clear ha; obtain ⟨c0, c1, c2, c3, c4, z0⟩ := PK.out _ hW; go_simp; first  | (refine yield1_value ?_ hW; exact rfl))
    refine detSteps_cons ?_ ?_
    · (refine det_run [1] (by kernel_rfl) (by rfl) (fun a ha W hW => ?_); have g1 : a.tmps[1]? = some _ := (ha 1 rfl).trans rfl; clear ha; go_simp; first  | (refine yield1_value ?_ hW; exact rfl))
    refine detSteps_cons ?_ ?_
    · (refine det_run [49] (by kernel_rfl) (by rfl) (fun a ha W hW => ?_); have g49 : a.tmps[49]? = some _ := (ha 49 rfl).trans rfl; clear ha; obtain ⟨c0, c1, c2, c3, c4, z0⟩ := PK.out _ hW; go_simp; first  | (refine yield1_value ?_ hW; exact rfl))
    refine detSteps_cons ?_ ?_
    · (refine det_run [48, 50] (by kernel_rfl) (by rfl) (fun a ha W hW => ?_); have g48 : a.tmps[48]? = some _ := (ha 48 rfl).trans rfl; have g50 : a.tmps[50]? = some _ := (ha 50 rfl).trans rfl; clear ha; go_simp; first  | (refine yield1_value ?_ hW; exact rfl))
    refine detSteps_cons ?_ ?_
    · (refine det_run [46, 51] (by kernel_rfl) (by rfl) (fun a ha W hW => ?_); have g46 : a.tmps[46]? = some _ := (ha 46 rfl).trans rfl; have g51 : a.tmps[51]? = some _ := (ha 51 rfl).trans rfl; clear ha; go_simp; first  | (refine yield1_value ?_ hW; exact rfl))
    refine detSteps_cons ?_ ?_
    · (refine det_run [44, 52] (by kernel_rfl) (by rfl) (fun a ha W hW => ?_); have g44 : a.tmps[44]? = some _ := (ha 44 rfl).trans rfl; have g52 : a.tmps[52]? = some _ := (ha 52 rfl).trans rfl; clear ha; go_simp; first  | (refine yield1_value ?_ hW; exact rfl))
    refine detSteps_cons ?_ ?_
    · (refine det_run [53] (by kernel_rfl) (by rfl) (fun a ha W hW => ?_); have g53 : a.tmps[53]? = some _ := (ha 53 rfl).trans rfl; clear ha; go_simp; first  | (refine yield1_value ?_ hW; exact rfl))
    refine detSteps_cons ?_ ?_
    · (refine Or.inl ⟨by rfl, ?_⟩; exact rfl)
    refine detSteps_cons ?_ ?_
    · (refine Or.inl ⟨by rfl, ?_⟩; exact rfl)
    refine detSteps_cons ?_ ?_
    · (refine Or.inl ⟨by rfl, ?_⟩; exact rfl)
    refine detSteps_cons ?_ ?_
    · (refine Or.inl ⟨by rfl, ?_⟩; exact rfl)
    refine detSteps_cons ?_ ?_
    · (refine Or.inl ⟨by rfl, ?_⟩; exact rfl)
    refine detSteps_cons ?_ ?_
    · (refine Or.inl ⟨by rfl, ?_⟩; exact rfl)
    refine detSteps_cons ?_ ?_
    · (refine Or.inl ⟨by rfl, ?_⟩; exact rfl)
    refine detSteps_cons ?_ ?_
    · (refine Or.inl ⟨by rfl, ?_⟩; exact rfl)
    refine detSteps_cons ?_ ?_
    · (refine Or.inl ⟨by rfl, ?_⟩; exact rfl)
    refine detSteps_cons ?_ ?_
    · (refine det_run [54, 63] (by kernel_rfl) (by rfl) (fun a ha W hW => ?_); have g54 : a.tmps[54]? = some _ := (ha 54 rfl).trans rfl; have g63 : a.tmps[63]? = some _ := (ha 63 rfl).trans rfl; clear ha; go_simp; first  | (refine yield1_value ?_ hW; exact rfl))
    refine detSteps_cons ?_ ?_
    · (refine det_run [64] (by kernel_rfl) (by rfl) (fun a ha W hW => ?_); have g64 : a.tmps[64]? = some _ := (ha 64 rfl).trans rfl; clear ha; go_simp; first  | (refine yield1_value ?_ hW; exact rfl))
    refine detSteps_cons ?_ ?_
    · (refine Or.inl ⟨by rfl, ?_⟩; exact rfl)
    refine detSteps_cons ?_ ?_
    · (refine Or.inl ⟨by rfl, ?_⟩; exact rfl)
    refine detSteps_cons ?_ ?_
    · (refine Or.inl ⟨by rfl, ?_⟩; exact rfl)
    refine detSteps_cons ?_ ?_
    · (refine Or.inl ⟨by rfl, ?_⟩; exact rfl)
    refine detSteps_cons ?_ ?_
    · (refine Or.inl ⟨by rfl, ?_⟩; exact rfl)
    refine detSteps_cons ?_ ?_
    · (refine Or.inl ⟨by rfl, ?_⟩; exact rfl)
    refine detSteps_cons ?_ ?_
    · (refine Or.inl ⟨by rfl, ?_⟩; exact rfl)
    refine detSteps_cons ?_ ?_
    · (refine Or.inl ⟨by rfl, ?_⟩; exact rfl)
    refine detSteps_cons ?_ ?_
    · (refine det_run [65, 73] (by kernel_rfl) (by rfl) (fun a ha W hW => ?_); have g65 : a.tmps[65]? = some _ := (ha 65 rfl).trans rfl; have g73 : a.tmps[73]? = some _ := (ha 73 rfl).trans rfl; clear ha; go_simp; first  | (refine yield1_value ?_ hW; exact rfl))
    refine detSteps_cons ?_ ?_
    · (refine det_run [74] (by kernel_rfl) (by rfl) (fun a ha W hW => ?_); have g74 : a.tmps[74]? = some _ := (ha 74 rfl).trans rfl; clear ha; go_simp; first  | (refine yield1_value ?_ hW; exact rfl))
    exact detSteps_nil
  case rest2 =>
    intro w1 hs1
    simp only [putAll, Act.put, List.setIfInBounds_toArray, List.set_cons_zero, List.set_cons_succ]
    go_wp2
    go_ret
    exact ⟨rfl, (by repeat (first | with_reducible exact Below.refl _ _ | with_reducible exact hs1 | with_reducible exact B0.out | with_reducible refine Below.setCell ?_ (by first | omega | (dsimp only; omega) | (simp; done) | (simp; omega)) _ | with_reducible refine Below.alloc ?_ (by first | omega | (dsimp only; omega) | (simp; done) | (simp; omega)) _ | with_reducible refine Below.drew ?_ | with_reducible refine drewnA ?_ _ | with_reducible refine Below.trans ?_ (hs1.mono (by first | omega | (dsimp only; omega) | (simp; done) | (simp; omega))) | with_reducible refine Below.trans ?_ (B0.out.mono (by first | omega | (dsimp only; omega) | (simp; done) | (simp; omega)))))⟩
set_option maxRecDepth 100000 in
set_option maxHeartbeats 4000000 in
theorem rv_m3 (l h m r k : Int) (g0 : -2147483648 ≤ l) (g1 : l ≤ h) (g2 : h ≤ 2147483647) (g3 : 0 ≤ k) (g4 : k ≤ 255) (hq : (l == h) = false) (lt : l < h) (ew : IntKind.i64.wrap (h - l) = h - l) (z1 : (m == 0) = false) (z2 : (m != 0) = true) (z3 : ¬ m = 0) (c1 : 1 ≤ m) (c2 : m ≤ h - l) (c3 : ((h - l).tmod m == 0) = false) (w : World) :
    Calls Try.prog 13 #[.agg #[.int .i64 l, .int .i64 h, .int .i64 m, .int .i64 r, .int .i64 k]] w fun e w' => e = .returned (.bool false) ∧ Below w.heap.size w w' := by
  obtain ⟨w0, hw0⟩ : ∃ w0, (w.alloc (.cells #[.int .i64 l, .int .i64 h, .int .i64 m, .int .i64 r, .int .i64 k] 27)) = w0 := ⟨_, rfl⟩
  have B0 : Hid (Below w.heap.size w w0) := hidA (by rw [← hw0]; exact (alA (Below.refl _ _) _))
  have hsz : w.heap.size < w0.heap.size := by rw [← hw0]; simp
  have PK : Hid (∀ W, Below w0.heap.size w0 W → W.cell? ⟨w.heap.size, 0, none⟩ = some (.int .i64 l) ∧ W.cell? ⟨w.heap.size, 1, none⟩ = some (.int .i64 h) ∧ W.cell? ⟨w.heap.size, 2, none⟩ = some (.int .i64 m) ∧ W.cell? ⟨w.heap.size, 3, none⟩ = some (.int .i64 r) ∧ W.cell? ⟨w.heap.size, 4, none⟩ = some (.int .i64 k) ∧ w.heap.size < W.heap.size) := hidA (fun W hW => by and_intros <;> first | exact cellA hW (by rw [← hw0]; simp [go_sem]) | exact (by have h0 := hW.size; have h1 := hsz; omega))
  have Hw := hidA hw0; clear hw0
  go_enter Try.func13, Try.ntmps13
  go_wp2_with fail
  rw [Hw.out]
  clear Hw
  have HS : Hid (Below w0.heap.size w0 w0) := hidA (Below.refl _ _)
  obtain ⟨c0, c1, c2, c3, c4, z0⟩ := PK.out _ HS.out
  refine' wp_region_det (by kernel_rfl) [_, _, _, _, _, _, _, _, _, _, _, _, _, _, _, _, _, _, _, _, _, _, _, _, _, _, _, _, _, _, _, _, _, _, _] (fun W => Below w0.heap.size w0 W) (by kernel_rfl) HS.out.drew ?steps3 ?rest3
  case steps3 =>
    simp only [putAll, Act.put, List.setIfInBounds_toArray, List.set_cons_zero, List.set_cons_succ]
    refine detSteps_cons ?_ ?_
    · (refine det_run [1] (by kernel_rfl) (by rfl) (fun a ha W hW => ?_); have g1 : a.tmps[1]? = some _ := (ha 1 rfl).trans rfl; clear ha; go_simp; first  | (refine yield1_value ?_ hW; exact rfl))
    refine detSteps_cons ?_ ?_
    · (refine det_run [41] (by kernel_rfl) (by rfl) (fun a ha W hW => ?_); have g41 : a.tmps[41]? = some _ := (ha 41 rfl).trans rfl; clear ha; obtain ⟨c0, c1, c2, c3, c4, z0⟩ := PK.out _ hW; go_simp; first  | (refine yield1_value ?_ hW; exact rfl))
    refine detSteps_cons ?_ ?_
    · (refine det_run [42] (by kernel_rfl) (by rfl) (fun a ha W hW => ?_); have g42 : a.tmps[42]? = some _ := (ha 42 rfl).trans rfl; clear ha; go_simp; first  | (refine yield1_value ?_ hW; exact rfl))
    refine detSteps_cons ?_ ?_
    · (refine det_run [43] (by kernel_rfl) (by rfl) (fun a ha W hW => ?_); have g43 : a.tmps[43]? = some _ := (ha 43 rfl).trans rfl; clear ha; go_simp; first  | (refine yield1_value ?_ hW; exact rfl))
    refine detSteps_cons ?_ ?_
    · (refine det_run [1] (by kernel_rfl) (by rfl) (fun a ha W hW => ?_); have g1 : a.tmps[1]? = some _ := (ha 1 rfl).trans rfl; clear ha; go_simp; first  | (refine yield1_value ?_ hW; exact rfl))
    refine detSteps_cons ?_ ?_
    · (refine det_run [45] (by kernel_rfl) (by rfl) (fun a ha W hW => ?_); have g45 : a.tmps[45]? = some _ := (ha 45 rfl).trans rfl; clear ha; obtain ⟨c0, c1, c2, c3, c4, z0⟩ := PK.out _ hW; go_simp; first  | (refine yield1_value ?_ hW; exact rfl))
    refine detSteps_cons ?_ ?_
    · (refine det_run [1] (by kernel_rfl) (by rfl) (fun a ha W hW => ?_); have g1 : a.tmps[1]? = some _ := (ha 1 rfl).trans rfl; clear ha; go_simp; first  | (refine yield1_value ?_ hW; exact rfl))
    refine detSteps_cons ?_ ?_
    · (refine det_run [47] (by kernel_rfl) (by rfl) (fun a ha W hW => ?_); have g47 : a.tmps[47]? = some _ := (ha 47 rfl).trans rfl; clear ha; obtain ⟨c0, c1, c2, c3, c4, z0⟩ := PK.out _ hW; go_simp; first  | (refine yield1_value ?_ hW; exact rfl))
    refine detSteps_cons ?_ ?_
    · (refine det_run [1] (by kernel_rfl) (by rfl) (fun a ha W hW => ?_); have g1 : a.tmps[1]? = some _ := (ha 1 rfl).trans rfl; clear ha; go_simp; first  | (refine yield1_value ?_ hW; exact rfl))
    refine detSteps_cons ?_ ?_
    · (refine det_run [49] (by kernel_rfl) (by rfl) (fun a ha W hW => ?_); have g49 : a.tmps[49]? = some _ := (ha 49 rfl).trans rfl; clear ha; obtain ⟨c0, c1, c2, c3, c4, z0⟩ := PK.out _ hW; go_simp; first  | (refine yield1_value ?_ hW; exact rfl))
    refine detSteps_cons ?_ ?_
    · (refine det_run [48, 50] (by kernel_rfl) (by rfl) (fun a ha W hW => ?_); have g48 : a.tmps[48]? = some _ := (ha 48 rfl).trans rfl; have g50 : a.tmps[50]? = some _ := (ha 50 rfl).trans rfl; clear ha; go_simp; first  | (refine yield1_value ?_ hW; exact rfl))
    refine detSteps_cons ?_ ?_
    · (refine det_run [46, 51] (by kernel_rfl) (by rfl) (fun a ha W hW => ?_); have g46 : a.tmps[46]? = some _ := (ha 46 rfl).trans rfl; have g51 : a.tmps[51]? = some _ := (ha 51 rfl).trans rfl; clear ha; go_simp; first  | (refine yield1_value ?_ hW; exact rfl))
    refine detSteps_cons ?_ ?_
    · (refine det_run [44, 52] (by kernel_rfl) (by rfl) (fun a ha W hW => ?_); have g44 : a.tmps[44]? = some _ := (ha 44 rfl).trans rfl; have g52 : a.tmps[52]? = some _ := (ha 52 rfl).trans rfl; clear ha; go_simp; first  | (refine yield1_value ?_ hW; exact rfl))
    refine detSteps_cons ?_ ?_
    · (refine det_run [53] (by kernel_rfl) (by rfl) (fun a ha W hW => ?_); have g53 : a.tmps[53]? = some _ := (ha 53 rfl).trans rfl; clear ha; go_simp; first  | (refine yield1_value ?_ hW; exact rfl))
    refine detSteps_cons ?_ ?_
    · (refine det_run [1] (by kernel_rfl) (by rfl) (fun a ha W hW => ?_); have g1 : a.tmps[1]? = some _ := (ha 1 rfl).trans rfl; clear ha; go_simp; first  | (refine yield1_value ?_ hW; exact rfl))
    refine detSteps_cons ?_ ?_
    · (refine det_run [55] (by kernel_rfl) (by rfl) (fun a ha W hW => ?_); have g55 : a.tmps[55]? = some _ := (ha 55 rfl).trans rfl; clear ha; obtain ⟨c0, c1, c2, c3, c4, z0⟩ := PK.out _ hW; go_simp; first  | (refine yield1_value ?_ hW; exact rfl))
    refine detSteps_cons ?_ ?_
    · (refine det_run [1] (by kernel_rfl) (by rfl) (fun a ha W hW => ?_); have g1 : a.tmps[1]? = some _ := (ha 1 rfl).trans rfl; clear ha; go_simp; first  | (refine yield1_value ?_ hW; exact rfl))
    refine detSteps_cons ?_ ?_
    · (refine det_run [57] (by kernel_rfl) (by rfl) (fun a ha W hW => ?_); have g57 : a.tmps[57]? = some _ := (ha 57 rfl).trans rfl; clear ha; obtain ⟨c0, c1, c2, c3, c4, z0⟩ := PK.out _ hW; go_simp; first  | (refine yield1_value ?_ hW; exact rfl))
    refine detSteps_cons ?_ ?_
    · (refine det_run [56, 58] (by kernel_rfl) (by rfl) (fun a ha W hW => ?_); have g56 : a.tmps[56]? = some _ := (ha 56 rfl).trans rfl; have g58 : a.tmps[58]? = some _ := (ha 58 rfl).trans rfl; clear ha; go_simp; first  | (refine yield1_value ?_ hW; exact rfl))
    refine detSteps_cons ?_ ?_
    · (refine det_run [1] (by kernel_rfl) (by rfl) (fun a ha W hW => ?_); have g1 : a.tmps[1]? = some _ := (ha 1 rfl).trans rfl; clear ha; go_simp; first  | (refine yield1_value ?_ hW; exact rfl))
    refine detSteps_cons ?_ ?_
    · (refine det_run [60] (by kernel_rfl) (by rfl) (fun a ha W hW => ?_); have g60 : a.tmps[60]? = some _ := (ha 60 rfl).trans rfl; clear ha; obtain ⟨c0, c1, c2, c3, c4, z0⟩ := PK.out _ hW; go_simp; first  | (refine yield1_value ?_ hW; exact rfl))
    refine detSteps_cons ?_ ?_
    · (refine det_run [59, 61] (by kernel_rfl) (by rfl) (fun a ha W hW => ?_); have g59 : a.tmps[59]? = some _ := (ha 59 rfl).trans rfl; have g61 : a.tmps[61]? = some _ := (ha 61 rfl).trans rfl; clear ha; go_simp; first  | (refine yield1_value ?_ hW; exact rfl))
    refine detSteps_cons ?_ ?_
    · (refine det_run [62] (by kernel_rfl) (by rfl) (fun a ha W hW => ?_); have g62 : a.tmps[62]? = some _ := (ha 62 rfl).trans rfl; clear ha; go_simp; first  | (refine yield1_value ?_ hW; exact rfl))
    refine detSteps_cons ?_ ?_
    · (refine det_run [54, 63] (by kernel_rfl) (by rfl) (fun a ha W hW => ?_); have g54 : a.tmps[54]? = some _ := (ha 54 rfl).trans rfl; have g63 : a.tmps[63]? = some _ := (ha 63 rfl).trans rfl; clear ha; go_simp; first  | (refine yield1_value ?_ hW; exact rfl))
    refine detSteps_cons ?_ ?_
    · (refine det_run [64] (by kernel_rfl) (by rfl) (fun a ha W hW => ?_); have g64 : a.tmps[64]? = some _ := (ha 64 rfl).trans rfl; clear ha; go_simp; first  | (refine yield1_value ?_ hW; exact rfl))
    refine detSteps_cons ?_ ?_
    · (refine Or.inl ⟨by rfl, ?_⟩; exact rfl)
    refine detSteps_cons ?_ ?_
    · (refine Or.inl ⟨by rfl, ?_⟩; exact rfl)
    refine detSteps_cons ?_ ?_
    · (refine Or.inl ⟨by rfl, ?_⟩; exact rfl)
    refine detSteps_cons ?_ ?_
    · (refine Or.inl ⟨by rfl, ?_⟩; exact rfl)
    refine detSteps_cons ?_ ?_
    · (refine Or.inl ⟨by rfl, ?_⟩; exact rfl)
    refine detSteps_cons ?_ ?_
    · (refine Or.inl ⟨by rfl, ?_⟩; exact rfl)
    refine detSteps_cons ?_ ?_
    · (refine Or.inl ⟨by rfl, ?_⟩; exact rfl)
    refine detSteps_cons ?_ ?_
    · (refine Or.inl ⟨by rfl, ?_⟩; exact rfl)
    refine detSteps_cons ?_ ?_
    · (refine det_run [65, 73] (by kernel_rfl) (by rfl) (fun a ha W hW => ?_); have g65 : a.tmps[65]? = some _ := (ha 65 rfl).trans rfl; have g73 : a.tmps[73]? = some _ := (ha 73 rfl).trans rfl; clear ha; go_simp; first  | (refine yield1_value ?_ hW; exact rfl))
    refine detSteps_cons ?_ ?_
    · (refine det_run [74] (by kernel_rfl) (by rfl) (fun a ha W hW => ?_); have g74 : a.tmps[74]? = some _ := (ha 74 rfl).trans rfl; clear ha; go_simp; first  | (refine yield1_value ?_ hW; exact rfl))
    exact detSteps_nil
  case rest3 =>
    intro w1 hs1
    simp only [putAll, Act.put, List.setIfInBounds_toArray, List.set_cons_zero, List.set_cons_succ]
    go_wp2
    go_ret
    exact ⟨rfl, (by repeat (first | with_reducible exact Below.refl _ _ | with_reducible exact hs1 | with_reducible exact B0.out | with_reducible refine Below.setCell ?_ (by first | omega | (dsimp only; omega) | (simp; done) | (simp; omega)) _ | with_reducible refine Below.alloc ?_ (by first | omega | (dsimp only; omega) | (simp; done) | (simp; omega)) _ | with_reducible refine Below.drew ?_ | with_reducible refine drewnA ?_ _ | with_reducible refine Below.trans ?_ (hs1.mono (by first | omega | (dsimp only; omega) | (simp; done) | (simp; omega))) | with_reducible refine Below.trans ?_ (B0.out.mono (by first | omega | (dsimp only; omega) | (simp; done) | (simp; omega)))))⟩
set_option maxRecDepth 100000 in
set_option maxHeartbeats 4000000 in
theorem rv_m4 (l h m r k : Int) (g0 : -2147483648 ≤ l) (g1 : l ≤ h) (g2 : h ≤ 2147483647) (g3 : 0 ≤ k) (g4 : k ≤ 255) (hq : (l == h) = false) (lt : l < h) (ew : IntKind.i64.wrap (h - l) = h - l) (z1 : (m == 0) = false) (z2 : (m != 0) = true) (z3 : ¬ m = 0) (c1 : 1 ≤ m) (c2 : m ≤ h - l) (c3 : ((h - l).tmod m == 0) = true) (x : Int) (v : Bool) (CM : Hid (∀ w, Calls Try.prog 42 #[.int .i64 l, .int .i64 m] w fun e w' => e = .returned (.int .i64 x) ∧ w = w')) (c4 : (r == x) = v) (w : World) :
    Calls Try.prog 13 #[.agg #[.int .i64 l, .int .i64 h, .int .i64 m, .int .i64 r, .int .i64 k]] w fun e w' => e = .returned (.bool v) ∧ Below w.heap.size w w' := by
  obtain ⟨w0, hw0⟩ : ∃ w0, (w.alloc (.cells #[.int .i64 l, .int .i64 h, .int .i64 m, .int .i64 r, .int .i64 k] 27)) = w0 := ⟨_, rfl⟩
  have B0 : Hid (Below w.heap.size w w0) := hidA (by rw [← hw0]; exact (alA (Below.refl _ _) _))
  have hsz : w.heap.size < w0.heap.size := by rw [← hw0]; simp
  have PK : Hid (∀ W, Below w0.heap.size w0 W → W.cell? ⟨w.heap.size, 0, none⟩ = some (.int .i64 l) ∧ W.cell? ⟨w.heap.size, 1, none⟩ = some (.int .i64 h) ∧ W.cell? ⟨w.heap.size, 2, none⟩ = some (.int .i64 m) ∧ W.cell? ⟨w.heap.size, 3, none⟩ = some (.int .i64 r) ∧ W.cell? ⟨w.heap.size, 4, none⟩ = some (.int .i64 k) ∧ w.heap.size < W.heap.size) := hidA (fun W hW => by and_intros <;> first | exact cellA hW (by rw [← hw0]; simp [go_sem]) | exact (by have h0 := hW.size; have h1 := hsz; omega))
  have Hw := hidA hw0; clear hw0
  go_enter Try.func13, Try.ntmps13
  go_wp2_with fail
  rw [Hw.out]
  clear Hw
  have HS : Hid (Below w0.heap.size w0 w0) := hidA (Below.refl _ _)
  obtain ⟨c0, c1, c2, c3, c4, z0⟩ := PK.out _ HS.out
  refine' wp_region_det (by kernel_rfl) [_, _, _, _, _, _, _, _, _, _, _, _, _, _, _, _, _, _, _, _, _, _, _, _, _, _, _, _, _, _, _, _, _, _, _] (fun W => Below w0.heap.size w0 W) (by kernel_rfl) HS.out.drew ?steps4 ?rest4
  case steps4 =>
    simp only [putAll, Act.put, List.setIfInBounds_toArray, List.set_cons_zero, List.set_cons_succ]
    refine detSteps_cons ?_ ?_
    · (refine det_run [1] (by kernel_rfl) (by rfl) (fun a ha W hW => ?_); have g1 : a.tmps[1]? = some _ := (ha 1 rfl).trans rfl; clear ha; go_simp; first  | (refine yield1_value ?_ hW; exact rfl))
    refine detSteps_cons ?_ ?_
    · (refine det_run [41] (by kernel_rfl) (by rfl) (fun a ha W hW => ?_); have g41 : a.tmps[41]? = some _ := (ha 41 rfl).trans rfl; clear ha; obtain ⟨c0, c1, c2, c3, c4, z0⟩ := PK.out _ hW; go_simp; first  | (refine yield1_value ?_ hW; exact rfl))
    refine detSteps_cons ?_ ?_
    · (refine det_run [42] (by kernel_rfl) (by rfl) (fun a ha W hW => ?_); have g42 : a.tmps[42]? = some _ := (ha 42 rfl).trans rfl; clear ha; go_simp; first  | (refine yield1_value ?_ hW; exact rfl))
    refine detSteps_cons ?_ ?_
    · (refine det_run [43] (by kernel_rfl) (by rfl) (fun a ha W hW => ?_); have g43 : a.tmps[43]? = some _ := (ha 43 rfl).trans rfl; clear ha; go_simp; first  | (refine yield1_value ?_ hW; exact rfl))
    refine detSteps_cons ?_ ?_
    · (refine det_run [1] (by kernel_rfl) (by rfl) (fun a ha W hW => ?_); have g1 : a.tmps[1]? = some _ := (ha 1 rfl).trans rfl; clear ha; go_simp; first  | (refine yield1_value ?_ hW; exact rfl))
    refine detSteps_cons ?_ ?_
    · (refine det_run [45] (by kernel_rfl) (by rfl) (fun a ha W hW => ?_); have g45 : a.tmps[45]? = some _ := (ha 45 rfl).trans rfl; clear ha; obtain ⟨c0, c1, c2, c3, c4, z0⟩ := PK.out _ hW; go_simp; first  | (refine yield1_value ?_ hW; exact rfl))
    refine detSteps_cons ?_ ?_
    · (refine det_run [1] (by kernel_rfl) (by rfl) (fun a ha W hW => ?_); have g1 : a.tmps[1]? = some _ := (ha 1 rfl).trans rfl; clear ha; go_simp; first  | (refine yield1_value ?_ hW; exact rfl))
    refine detSteps_cons ?_ ?_
    · (refine det_run [47] (by kernel_rfl) (by rfl) (fun a ha W hW => ?_); have g47 : a.tmps[47]? = some _ := (ha 47 rfl).trans rfl; clear ha; obtain ⟨c0, c1, c2, c3, c4, z0⟩ := PK.out _ hW; go_simp; first  | (refine yield1_value ?_ hW; exact rfl))
    refine detSteps_cons ?_ ?_
    · (refine det_run [1] (by kernel_rfl) (by rfl) (fun a ha W hW => ?_); have g1 : a.tmps[1]? = some _ := (ha 1 rfl).trans rfl; clear ha; go_simp; first  | (refine yield1_value ?_ hW; exact rfl))
    refine detSteps_cons ?_ ?_
    · (refine det_run [49] (by kernel_rfl) (by rfl) (fun a ha W hW => ?_); have g49 : a.tmps[49]? = some _ := (ha 49 rfl).trans rfl; clear ha; obtain ⟨c0, c1, c2, c3, c4, z0⟩ := PK.out _ hW; go_simp; first  | (refine yield1_value ?_ hW; exact rfl))
    refine detSteps_cons ?_ ?_
    · (refine det_run [48, 50] (by kernel_rfl) (by rfl) (fun a ha W hW => ?_); have g48 : a.tmps[48]? = some _ := (ha 48 rfl).trans rfl; have g50 : a.tmps[50]? = some _ := (ha 50 rfl).trans rfl; clear ha; go_simp; first  | (refine yield1_value ?_ hW; exact rfl))
    refine detSteps_cons ?_ ?_
    · (refine det_run [46, 51] (by kernel_rfl) (by rfl) (fun a ha W hW => ?_); have g46 : a.tmps[46]? = some _ := (ha 46 rfl).trans rfl; have g51 : a.tmps[51]? = some _ := (ha 51 rfl).trans rfl; clear ha; go_simp; first  | (refine yield1_value ?_ hW; exact rfl))
    refine detSteps_cons ?_ ?_
    · (refine det_run [44, 52] (by kernel_rfl) (by rfl) (fun a ha W hW => ?_); have g44 : a.tmps[44]? = some _ := (ha 44 rfl).trans rfl; have g52 : a.tmps[52]? = some _ := (ha 52 rfl).trans rfl; clear ha; go_simp; first  | (refine yield1_value ?_ hW; exact rfl))
    refine detSteps_cons ?_ ?_
    · (refine det_run [53] (by kernel_rfl) (by rfl) (fun a ha W hW => ?_); have g53 : a.tmps[53]? = some _ := (ha 53 rfl).trans rfl; clear ha; go_simp; first  | (refine yield1_value ?_ hW; exact rfl))
    refine detSteps_cons ?_ ?_
    · (refine det_run [1] (by kernel_rfl) (by rfl) (fun a ha W hW => ?_); have g1 : a.tmps[1]? = some _ := (ha 1 rfl).trans rfl; clear ha; go_simp; first  | (refine yield1_value ?_ hW; exact rfl))
    refine detSteps_cons ?_ ?_
    · (refine det_run [55] (by kernel_rfl) (by rfl) (fun a ha W hW => ?_); have g55 : a.tmps[55]? = some _ := (ha 55 rfl).trans rfl; clear ha; obtain ⟨c0, c1, c2, c3, c4, z0⟩ := PK.out _ hW; go_simp; first  | (refine yield1_value ?_ hW; exact rfl))
    refine detSteps_cons ?_ ?_
    · (refine det_run [1] (by kernel_rfl) (by rfl) (fun a ha W hW => ?_); have g1 : a.tmps[1]? = some _ := (ha 1 rfl).trans rfl; clear ha; go_simp; first  | (refine yield1_value ?_ hW; exact rfl))
    refine detSteps_cons ?_ ?_
    · (refine det_run [57] (by kernel_rfl) (by rfl) (fun a ha W hW => ?_); have g57 : a.tmps[57]? = some _ := (ha 57 rfl).trans rfl; clear ha; obtain ⟨c0, c1, c2, c3, c4, z0⟩ := PK.out _ hW; go_simp; first  | (refine yield1_value ?_ hW; exact rfl))
    refine detSteps_cons ?_ ?_
    · (refine det_run [56, 58] (by kernel_rfl) (by rfl) (fun a ha W hW => ?_); have g56 : a.tmps[56]? = some _ := (ha 56 rfl).trans rfl; have g58 : a.tmps[58]? = some _ := (ha 58 rfl).trans rfl; clear ha; go_simp; first  | (refine yield1_value ?_ hW; exact rfl))
    refine detSteps_cons ?_ ?_
    · (refine det_run [1] (by kernel_rfl) (by rfl) (fun a ha W hW => ?_); have g1 : a.tmps[1]? = some _ := (ha 1 rfl).trans rfl; clear ha; go_simp; first  | (refine yield1_value ?_ hW; exact rfl))
    refine detSteps_cons ?_ ?_
    · (refine det_run [60] (by kernel_rfl) (by rfl) (fun a ha W hW => ?_); have g60 : a.tmps[60]? = some _ := (ha 60 rfl).trans rfl; clear ha; obtain ⟨c0, c1, c2, c3, c4, z0⟩ := PK.out _ hW; go_simp; first  | (refine yield1_value ?_ hW; exact rfl))
    refine detSteps_cons ?_ ?_
    · (refine det_run [59, 61] (by kernel_rfl) (by rfl) (fun a ha W hW => ?_); have g59 : a.tmps[59]? = some _ := (ha 59 rfl).trans rfl; have g61 : a.tmps[61]? = some _ := (ha 61 rfl).trans rfl; clear ha; go_simp; first  | (refine yield1_value ?_ hW; exact rfl))
    refine detSteps_cons ?_ ?_
    · (refine det_run [62] (by kernel_rfl) (by rfl) (fun a ha W hW => ?_); have g62 : a.tmps[62]? = some _ := (ha 62 rfl).trans rfl; clear ha; go_simp; first  | (refine yield1_value ?_ hW; exact rfl))
    refine detSteps_cons ?_ ?_
    · (refine det_run [54, 63] (by kernel_rfl) (by rfl) (fun a ha W hW => ?_); have g54 : a.tmps[54]? = some _ := (ha 54 rfl).trans rfl; have g63 : a.tmps[63]? = some _ := (ha 63 rfl).trans rfl; clear ha; go_simp; first  | (refine yield1_value ?_ hW; exact rfl))
    refine detSteps_cons ?_ ?_
    · (refine det_run [64] (by kernel_rfl) (by rfl) (fun a ha W hW => ?_); have g64 : a.tmps[64]? = some _ := (ha 64 rfl).trans rfl; clear ha; go_simp; first  | (refine yield1_value ?_ hW; exact rfl))
    refine detSteps_cons ?_ ?_
    · (refine det_run [1] (by kernel_rfl) (by rfl) (fun a ha W hW => ?_); have g1 : a.tmps[1]? = some _ := (ha 1 rfl).trans rfl; clear ha; go_simp; first  | (refine yield1_value ?_ hW; exact rfl))
    refine detSteps_cons ?_ ?_
    · (refine det_run [66] (by kernel_rfl) (by rfl) (fun a ha W hW => ?_); have g66 : a.tmps[66]? = some _ := (ha 66 rfl).trans rfl; clear ha; obtain ⟨c0, c1, c2, c3, c4, z0⟩ := PK.out _ hW; go_simp; first  | (refine yield1_value ?_ hW; exact rfl))
    refine detSteps_cons ?_ ?_
    · (refine det_run [1] (by kernel_rfl) (by rfl) (fun a ha W hW => ?_); have g1 : a.tmps[1]? = some _ := (ha 1 rfl).trans rfl; clear ha; go_simp; first  | (refine yield1_value ?_ hW; exact rfl))
    refine detSteps_cons ?_ ?_
    · (refine det_run [68] (by kernel_rfl) (by rfl) (fun a ha W hW => ?_); have g68 : a.tmps[68]? = some _ := (ha 68 rfl).trans rfl; clear ha; obtain ⟨c0, c1, c2, c3, c4, z0⟩ := PK.out _ hW; go_simp; first  | (refine yield1_value ?_ hW; exact rfl))
    refine detSteps_cons ?_ ?_
    · (refine det_run [1] (by kernel_rfl) (by rfl) (fun a ha W hW => ?_); have g1 : a.tmps[1]? = some _ := (ha 1 rfl).trans rfl; clear ha; go_simp; first  | (refine yield1_value ?_ hW; exact rfl))
    refine detSteps_cons ?_ ?_
    · (refine det_run [70] (by kernel_rfl) (by rfl) (fun a ha W hW => ?_); have g70 : a.tmps[70]? = some _ := (ha 70 rfl).trans rfl; clear ha; obtain ⟨c0, c1, c2, c3, c4, z0⟩ := PK.out _ hW; go_simp; first  | (refine yield1_value ?_ hW; exact rfl))
    refine detSteps_cons ?_ ?_
    · (refine det_run [69, 71] (by kernel_rfl) (by rfl) (fun a ha W hW => ?_); have g69 : a.tmps[69]? = some _ := (ha 69 rfl).trans rfl; have g71 : a.tmps[71]? = some _ := (ha 71 rfl).trans rfl; clear ha; go_simp; first  | (refine yield1_enter ?_; go_at_call 42; (with_reducible refine (CM.out _).mono ?_); rintro e w1 ⟨rfl, rfl⟩; (refine And.intro ?_ hW); exact rfl) | (refine yield1_value ?_ hW; exact rfl))
    refine detSteps_cons ?_ ?_
    · (refine det_run [67, 72] (by kernel_rfl) (by rfl) (fun a ha W hW => ?_); have g67 : a.tmps[67]? = some _ := (ha 67 rfl).trans rfl; have g72 : a.tmps[72]? = some _ := (ha 72 rfl).trans rfl; clear ha; go_simp; first  | (refine yield1_value ?_ hW; exact rfl))
    refine detSteps_cons ?_ ?_
    · (refine det_run [65, 73] (by kernel_rfl) (by rfl) (fun a ha W hW => ?_); have g65 : a.tmps[65]? = some _ := (ha 65 rfl).trans rfl; have g73 : a.tmps[73]? = some _ := (ha 73 rfl).trans rfl; clear ha; go_simp; first  | (refine yield1_value ?_ hW; exact rfl))
    refine detSteps_cons ?_ ?_
    · (refine det_run [74] (by kernel_rfl) (by rfl) (fun a ha W hW => ?_); have g74 : a.tmps[74]? = some _ := (ha 74 rfl).trans rfl; clear ha; go_simp; first  | (refine yield1_value ?_ hW; exact rfl))
    exact detSteps_nil
  case rest4 =>
    intro w1 hs1
    simp only [putAll, Act.put, List.setIfInBounds_toArray, List.set_cons_zero, List.set_cons_succ]
    go_wp2
    go_ret
    exact ⟨rfl, (by repeat (first | with_reducible exact Below.refl _ _ | with_reducible exact hs1 | with_reducible exact B0.out | with_reducible refine Below.setCell ?_ (by first | omega | (dsimp only; omega) | (simp; done) | (simp; omega)) _ | with_reducible refine Below.alloc ?_ (by first | omega | (dsimp only; omega) | (simp; done) | (simp; omega)) _ | with_reducible refine Below.drew ?_ | with_reducible refine drewnA ?_ _ | with_reducible refine Below.trans ?_ (hs1.mono (by first | omega | (dsimp only; omega) | (simp; done) | (simp; omega))) | with_reducible refine Below.trans ?_ (B0.out.mono (by first | omega | (dsimp only; omega) | (simp; done) | (simp; omega)))))⟩
theorem rvalid_all (l h m r k : Int) (b : Bool) (hb : b = true ↔ VP l h m r k) (w : World) :
    Calls Try.prog 13 #[.agg #[.int .i64 l, .int .i64 h, .int .i64 m, .int .i64 r, .int .i64 k]] w fun e w' => e = .returned (.bool b) ∧ Below w.heap.size w w' := by
  have no : ¬ VP l h m r k → b = false := fun x => by
    cases b with
    | false => rfl
    | true => exact absurd (hb.1 rfl) x
  by_cases g0 : -2147483648 ≤ l
  · by_cases g1 : l ≤ h
    · by_cases g2 : h ≤ 2147483647
      · by_cases g3 : 0 ≤ k
        · by_cases g4 : k ≤ 255
          · by_cases hq : l = h
            · have q : (l == h) = true := by simpa using hq
              by_cases hm : m = 1
              · have e : (r == 0) = b := by
                  rw [Bool.eq_iff_iff, beq_iff_eq, hb]
                  unfold VP
                  exact ⟨fun x => ⟨g0, g1, g2, by omega, g3, g4, Or.inl ⟨hq, hm, x⟩⟩, fun x => by rcases x.2.2.2.2.2.2 with y | y <;> omega⟩
                exact rv_s2 l h m r k g0 g1 g2 g3 g4 b q (by simpa using hm) e w
              · rw [no (fun x => by rcases x.2.2.2.2.2.2 with y | y <;> omega)]
                exact rv_s1 l h m r k g0 g1 g2 g3 g4 q (by simpa using hm) w
            · have q : (l == h) = false := by simpa using hq
              have lt : l < h := by omega
              have ew : IntKind.i64.wrap (h - l) = h - l := IntWalk.i64_in _ (by omega)
              by_cases c1 : 1 ≤ m
              · by_cases c2 : m ≤ h - l
                · have z3 : ¬ m = 0 := by omega
                  have z1 : (m == 0) = false := by simpa using z3
                  have z2 : (m != 0) = true := by simpa using z3
                  by_cases c3 : m ∣ h - l
                  · have t3 := (tmod_dvd (h - l) m).2 c3
                    have CM := hidA (fun w => mod_all l m (by omega) (by omega) w)
                    have e : (r == l % m) = b := by
                      rw [Bool.eq_iff_iff, beq_iff_eq, hb]
                      unfold VP
                      exact ⟨fun x => ⟨g0, g1, g2, c1, g3, g4, Or.inr ⟨lt, c3, x⟩⟩, fun x => by
                        rcases x.2.2.2.2.2.2 with y | y
                        · omega
                        · exact y.2.2⟩
                    exact rv_m4 l h m r k g0 g1 g2 g3 g4 q lt ew z1 z2 z3 c1 c2 t3 _ b CM e w
                  · have t3 : ((h - l).tmod m == 0) = false := by
                      cases hh : ((h - l).tmod m == 0) with
                      | false => rfl
                      | true => exact absurd ((tmod_dvd _ _).1 hh) c3
                    rw [no (fun x => by
                      rcases x.2.2.2.2.2.2 with y | y
                      · omega
                      · exact c3 y.2.1)]
                    exact rv_m3 l h m r k g0 g1 g2 g3 g4 q lt ew z1 z2 z3 c1 c2 t3 w
                · rw [no (fun x => by
                    rcases x.2.2.2.2.2.2 with y | y
                    · omega
                    · have := Int.le_of_dvd (by omega) y.2.1
                      omega)]
                  exact rv_m2 l h m r k g0 g1 g2 g3 g4 q lt ew c1 c2 (decide_eq_false c2) w
              · rw [no (fun x => c1 x.2.2.2.1)]
                exact rv_m1 l h m r k g0 g1 g2 g3 g4 q lt c1 (decide_eq_false c1) w
          · rw [no (fun x => g4 x.2.2.2.2.2.1)]
            exact rv_4 l h m r k g0 g1 g2 g3 g4 w
        · rw [no (fun x => g3 x.2.2.2.2.1)]
          exact rv_3 l h m r k g0 g1 g2 g3 w
      · rw [no (fun x => g2 x.2.2.1)]
        exact rv_2 l h m r k g0 g1 g2 w
    · rw [no (fun x => g1 x.2.1)]
      exact rv_1 l h m r k g0 g1 w
  · rw [no (fun x => g0 x.1)]
    exact rv_0 l h m r k g0 w
end Go.Proofs.Ytdopjadlbhacfaa

import Derived.Test.YtffcnkkgbhhfnaaGreatDoorRbq
import Derived.Test.YtffcnkkgbhhfnaaGreatDoorRtr
import Derived.Test.YtffcnkkgbhhfnaaGreatDoorRz
import Derived.Test.YtffcnkkgbhhfnaaGreatDoorRpost
namespace Go.Proofs.YtffcnkkgbhhfnaaGreatDoor
open Go.RowKit Go.Instr
set_option linter.unusedVariables false

/-! What the law RatMatchesReference asks of its calls. -/
set_option maxRecDepth 100000 in
set_option maxHeartbeats 4000000 in
theorem rvalid_all (n d : Int) (h1 : I64 n) (h2 : I64 d) (w : World) :
    Calls Tryz.prog 8 #[.agg #[.int .i64 n, .int .i64 d]] w fun e w' => e = .returned (.bool (validB n d)) ∧ Below w.heap.size w w' := by
  by_cases hr : 1 ≤ d ∧ -4611686018427387904 ≤ n
  · exact rvalid_any n d (by omega) h1.2 (by omega) h2.2 w
  · have V : validB n d = false := by
      rw [Bool.eq_false_iff]
      intro h
      have f := (valid_iff n d).1 h
      exact hr ⟨f.pos, f.lo⟩
    rw [V]
    clear V
    cases t1 : decide (1 ≤ d)
    · go_enter Tryz.func8, Tryz.ntmps8
      go_wp2_with fail
      go_quiet (fail)
      go_wp2_with fail
      go_ret
      exact ⟨rfl, below_drewN (below_a (Below.refl _ _) _) _⟩
    · have t3 : decide (-4611686018427387904 ≤ n) = false := decide_eq_false (fun h => hr ⟨by simpa using t1, h⟩)
      cases t2 : decide (d ≤ 4611686018427387904)
      · go_enter Tryz.func8, Tryz.ntmps8
        go_wp2_with fail
        go_quiet (first | (go_at_call 26; exact Calls.quiet_of_same (most_any _)))
        go_wp2_with fail
        go_ret
        exact ⟨rfl, below_drewN (below_a (Below.refl _ _) _) _⟩
      · go_enter Tryz.func8, Tryz.ntmps8
        go_wp2_with fail
        go_quiet (first | (go_at_call 26; exact Calls.quiet_of_same (most_any _)))
        go_wp2_with fail
        go_ret
        exact ⟨rfl, below_drewN (below_a (Below.refl _ _) _) _⟩
theorem div_both {aN aD bN bD : Int} (a : Fr aN aD) (b : Fr bN bD) : ∃ N D E : Int, (∀ w, Calls Tryz.prog 16 #[.agg #[.int .i64 aN, .int .i64 aD], .agg #[.int .i64 bN, .int .i64 bD]] w fun e w' => e = .returned (.agg #[.int .i64 N, .int .i64 D, .int .i64 E]) ∧ Below w.heap.size w w') ∧
    (∀ w, Calls Tryz.prog 17 #[.agg #[.int .i64 aN, .int .i64 aD], .agg #[.int .i64 bN, .int .i64 bD]] w fun e w' => e = .returned (.agg #[.int .i64 N, .int .i64 D, .int .i64 E]) ∧ Below w.heap.size w w') := by
  by_cases h0 : bN = 0
  · subst h0
    exact ⟨0, 0, 20, fun w => div_law aN aD 0 bD 0 0 20 (fun w => divF_zero a w) w, fun w => divin_zero w⟩
  · obtain ⟨N, D, E, hT⟩ := trip_ex (Rat.divInt aN aD / Rat.divInt bN bD)
    exact ⟨N, D, E, fun w => divT a b h0 hT w, fun w => fr3_trip hT ▸ divin_any a b h0 w⟩
theorem fracs4 {w : World} {b : Nat} {a1 a2 b1 b2 c1 c2 d1 d2 : Int} (h : w.heap[b]? = some (.cells #[.int .i64 a1, .int .i64 a2, .int .i64 b1, .int .i64 b2, .int .i64 c1, .int .i64 c2, .int .i64 d1, .int .i64 d2] 25 (0, 0))) : FracsAt w [(a1, a2), (b1, b2), (c1, c2), (d1, d2)] b 0 := by
  intro i hi
  have hi : i < 4 := hi
  match i, hi with
  | 0, _ => exact ⟨blk_cell h rfl, blk_cell h rfl⟩
  | 1, _ => exact ⟨blk_cell h rfl, blk_cell h rfl⟩
  | 2, _ => exact ⟨blk_cell h rfl, blk_cell h rfl⟩
  | 3, _ => exact ⟨blk_cell h rfl, blk_cell h rfl⟩
theorem min_case {aN aD bN bD : Int} (a : Fr aN aD) (b : Fr bN bD) : (Rat.divInt bN bD < Rat.divInt aN aD ∧ decide (cmpV (Rat.divInt bN bD) (Rat.divInt aN aD) < 0) = true ∧ decide (0 < cmpV (Rat.divInt aN aD) (Rat.divInt bN bD)) = true ∧ decide (cmpV (Rat.divInt aN aD) (Rat.divInt bN bD) < 0) = false) ∨
    (decide (cmpV (Rat.divInt bN bD) (Rat.divInt aN aD) < 0) = false ∧ decide (0 < cmpV (Rat.divInt aN aD) (Rat.divInt bN bD)) = false ∧ (aN = bN ∧ aD = bD) ∧ decide (cmpV (Rat.divInt aN aD) (Rat.divInt bN bD) < 0) = false) ∨
    (decide (cmpV (Rat.divInt bN bD) (Rat.divInt aN aD) < 0) = false ∧ decide (0 < cmpV (Rat.divInt aN aD) (Rat.divInt bN bD)) = false ∧ (aN == bN && aD == bD) = false ∧ decide (cmpV (Rat.divInt aN aD) (Rat.divInt bN bD) < 0) = true) := by
  unfold cmpV
  by_cases h1 : Rat.divInt bN bD < Rat.divInt aN aD
  · have h2 : ¬ Rat.divInt aN aD < Rat.divInt bN bD := fun h => by have := (fr_lt a b).1 h; have := (fr_lt b a).1 h1; omega
    have h3 : Rat.divInt aN aD ≠ Rat.divInt bN bD := fun h => by rw [h] at h1; exact Rat.lt_irrefl h1
    left
    simp [h1, h2, h3]
  · right
    by_cases h3 : aN = bN ∧ aD = bD
    · left
      obtain ⟨rfl, rfl⟩ := h3
      simp [Rat.lt_irrefl]
    · right
      have h4 : Rat.divInt aN aD ≠ Rat.divInt bN bD := fun h => h3 ((fr_eq a b).1 h)
      have h5 : Rat.divInt aN aD < Rat.divInt bN bD := by
        rcases (Rat.le_total : Rat.divInt aN aD ≤ Rat.divInt bN bD ∨ Rat.divInt bN bD ≤ Rat.divInt aN aD) with h | h
        · exact Rat.lt_of_le_of_ne h h4
        · exact absurd (Rat.lt_of_le_of_ne h (fun e => h4 e.symm)) h1
      have h6 : (aN == bN && aD == bD) = false := by
        rw [Bool.eq_false_iff]
        intro h
        rw [Bool.and_eq_true, beq_iff_eq, beq_iff_eq] at h
        exact h3 h
      refine ⟨?_, ?_, h6, ?_⟩
      · rw [if_neg h1]; split <;> rfl
      · rw [if_pos h5]; rfl
      · rw [if_pos h5]; rfl
end Go.Proofs.YtffcnkkgbhhfnaaGreatDoor

import Derived.Test.YtgkbefkgkpjmgaaDoorRc
namespace Go.Proofs.YtgkbefkgkpjmgaaDoor
open Go.RowKit Go.Instr
set_option linter.unusedVariables false

/-! What the order of fractions asks. -/
theorem cmpV_self (r : Rat) : cmpV r r = 0 := by unfold cmpV; rw [if_neg Rat.lt_irrefl, if_pos rfl]
theorem cmpV_bd (r s : Rat) : -1 ≤ cmpV r s ∧ cmpV r s ≤ 1 := by
  unfold cmpV
  split
  · omega
  · split <;> omega
theorem cmpV_lt {r s : Rat} : cmpV r s < 0 ↔ r < s := by
  unfold cmpV
  by_cases h : r < s
  · rw [if_pos h]; exact ⟨fun _ => h, fun _ => by omega⟩
  · rw [if_neg h]; split <;> exact ⟨fun h' => by omega, fun h' => absurd h' h⟩
theorem cmpV_zero {r s : Rat} : cmpV r s = 0 ↔ r = s := by
  unfold cmpV
  by_cases h : r < s
  · rw [if_pos h]; exact ⟨fun h' => by omega, fun h' => absurd h' (Rat.ne_of_lt h)⟩
  · rw [if_neg h]
    by_cases e : r = s
    · rw [if_pos e]; exact ⟨fun _ => e, fun _ => rfl⟩
    · rw [if_neg e]; exact ⟨fun h' => by omega, fun h' => absurd h' e⟩
theorem cmpV_pos {r s : Rat} : 0 < cmpV r s ↔ s < r := by
  have h1 := @cmpV_lt r s
  have h2 := @cmpV_zero r s
  have h3 := cmpV_bd r s
  constructor
  · intro h
    have n1 : ¬ r < s := fun k => by have := h1.2 k; omega
    have n2 : s ≠ r := fun k => by have := h2.2 k.symm; omega
    exact Rat.lt_of_le_of_ne (Rat.not_lt.1 n1) n2
  · intro h
    have n1 : ¬ cmpV r s < 0 := fun k => (Rat.not_lt.2 (Rat.le_of_lt h)) (h1.1 k)
    have n2 : cmpV r s ≠ 0 := fun k => (Rat.ne_of_lt h) (h2.1 k).symm
    omega
theorem cmpV_le {r s : Rat} : cmpV r s ≤ 0 ↔ r ≤ s := by
  have := @cmpV_pos r s
  rw [← Rat.not_lt, ← this]
  omega
theorem cmpV_ge {r s : Rat} : 0 ≤ cmpV r s ↔ s ≤ r := by
  have := @cmpV_lt r s
  rw [← Rat.not_lt, ← this]
  omega
theorem cmpV_same {r s t u : Rat} (h1 : r < s ↔ t < u) (h2 : r = s ↔ t = u) : cmpV r s = cmpV t u := by
  unfold cmpV
  by_cases a : r < s
  · rw [if_pos a, if_pos (h1.1 a)]
  · rw [if_neg a, if_neg (fun k => a (h1.2 k))]
    by_cases b : r = s
    · rw [if_pos b, if_pos (h2.1 b)]
    · rw [if_neg b, if_neg (fun k => b (h2.2 k))]
theorem cmpV_neg (r s : Rat) : cmpV s r = -cmpV r s := by
  have h1 := @cmpV_lt r s
  have h2 := @cmpV_zero r s
  have h3 := @cmpV_pos r s
  have g1 := @cmpV_lt s r
  have g2 := @cmpV_zero s r
  have g3 := @cmpV_pos s r
  have b1 := cmpV_bd r s
  have b2 := cmpV_bd s r
  rcases (show cmpV r s = -1 ∨ cmpV r s = 0 ∨ cmpV r s = 1 by omega) with h | h | h
  · have := g3.2 (h1.1 (by omega)); omega
  · have := g2.2 (h2.1 h).symm; omega
  · have := g1.2 (h3.1 (by omega)); omega
theorem cmpV_le_trans {r s t : Rat} (h1 : cmpV r s ≤ 0) (h2 : cmpV s t ≤ 0) : cmpV r t ≤ 0 := cmpV_le.2 (Rat.le_trans (cmpV_le.1 h1) (cmpV_le.1 h2))
theorem cmpV_ge_trans {r s t : Rat} (h1 : 0 ≤ cmpV r s) (h2 : 0 ≤ cmpV s t) : 0 ≤ cmpV r t := cmpV_ge.2 (Rat.le_trans (cmpV_ge.1 h2) (cmpV_ge.1 h1))
theorem add_right_cancel' {r s t : Rat} : r + t = s + t ↔ r = s := by
  constructor
  · intro h
    have := congrArg (· - t) h
    simpa [Rat.add_sub_cancel] using this
  · rintro rfl; rfl
theorem cmpV_add (r s t : Rat) : cmpV (r + t) (s + t) = cmpV r s := cmpV_same Rat.add_lt_add_right add_right_cancel'
theorem cmpV_mul (r s t : Rat) (h : 0 < t) : cmpV (r * t) (s * t) = cmpV r s := by
  refine cmpV_same (Rat.mul_lt_mul_right h) ⟨fun e => ?_, fun e => by rw [e]⟩
  have hn : t ≠ 0 := fun h0 => by rw [h0] at h; exact Rat.lt_irrefl h
  have h2 : r * t / t = s * t / t := congrArg (· / t) e
  rwa [Rat.mul_div_cancel hn, Rat.mul_div_cancel hn] at h2
theorem num_pos' (r : Rat) : 0 < r.num ↔ 0 < r := by rw [Rat.lt_iff]; simp
theorem num_neg' (r : Rat) : r.num < 0 ↔ r < 0 := by rw [Rat.lt_iff]; simp
theorem sub_signs {r s : Rat} {N D : Int} (h : Trip (r - s) N D 0) : (0 < N ↔ 0 < cmpV r s) ∧ (N < 0 ↔ cmpV r s < 0) := by
  obtain ⟨h1, h2, h3⟩ := h
  have hok : okR (r - s) = true := by
    unfold errR at h3
    by_cases h : okR (r - s) = true
    · exact h
    · rw [if_neg h] at h3; omega
  have hN : N = (r - s).num := by rw [← h1, numR, if_pos hok]
  rw [hN, num_pos', num_neg', cmpV_pos, cmpV_lt]
  refine ⟨(Rat.lt_iff_sub_pos s r).symm, ?_⟩
  rw [Rat.lt_iff_sub_pos r s, ← Rat.neg_lt_neg_iff, Rat.neg_sub, Rat.neg_zero]
theorem fr_pos {n d : Int} (h : Fr n d) : 0 < n ↔ 0 < Rat.divInt n d := by rw [← num_pos', h.num]
end Go.Proofs.YtgkbefkgkpjmgaaDoor

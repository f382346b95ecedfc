import Derived.Test.YtpncjepigcnfeaaDepc
import Derived.Test.YtpncjepigcnfeaaOpen
namespace Go.Proofs.Ytpncjepigcnfeaa
open Go.RowKit

/-! Depths are at most sizes. -/
theorem maxL_le (l : List Int) (m : Int) (h0 : 0 ≤ m) (h : ∀ x ∈ l, x ≤ m) : maxL l ≤ m := by
  have key : ∀ (l : List Int) (a : Int), a ≤ m → (∀ x ∈ l, x ≤ m) → l.foldl max a ≤ m := by
    intro l
    induction l with
    | nil => intro a ha _; exact ha
    | cons x r ih => intro a ha hx; exact ih _ (Int.max_le.2 ⟨ha, hx x (List.mem_cons_self ..)⟩) (fun y hy => hx y (List.mem_cons_of_mem _ hy))
  exact key l 0 h0 h

mutual
theorem depthE_le : ∀ t, exT t ≤ 4611686018427387904 → 1 ≤ depthE t ∧ depthE t ≤ exT t
  | .mk op n v l => by
    intro h
    rw [exT] at h ⊢
    rw [depthE]
    split
    · have h1 := maxL_le ((depthsE l).take 2) (exTs l) (by omega) (fun x hx => depthsE_le l (by omega) x (List.mem_of_mem_take hx))
      have h2 := maxL_nonneg ((depthsE l).take 2)
      unfold wrap64
      omega
    · omega
theorem depthsE_le : ∀ l, exTs l ≤ 4611686018427387904 → ∀ x ∈ depthsE l, x ≤ exTs l
  | [], _, x, hx => by simp [depthsE] at hx
  | t :: r, h, x, hx => by
    rw [exTs] at h ⊢
    rw [depthsE] at hx
    rcases List.mem_cons.1 hx with rfl | hx
    · have := (depthE_le t (by omega)).2; omega
    · have := depthsE_le r (by omega) x hx; omega
end
mutual
theorem depthC_le : ∀ t, cdT t ≤ 4611686018427387904 → 1 ≤ depthC t ∧ depthC t ≤ cdT t
  | .mk op l r => by
    intro h
    rw [cdT] at h ⊢
    rw [depthC]
    have h1 := maxL_le ((depthsE l).take (eN op)) (exTs l) (by omega) (fun x hx => depthsE_le l (by omega) x (List.mem_of_mem_take hx))
    have h2 := maxL_nonneg ((depthsE l).take (eN op))
    have h3 := maxL_le ((depthsC r).take (cN op)) (cdTs r) (by omega) (fun x hx => depthsC_le r (by omega) x (List.mem_of_mem_take hx))
    have h4 := maxL_nonneg ((depthsC r).take (cN op))
    unfold wrap64
    omega
theorem depthsC_le : ∀ l, cdTs l ≤ 4611686018427387904 → ∀ x ∈ depthsC l, x ≤ cdTs l
  | [], _, x, hx => by simp [depthsC] at hx
  | t :: r, h, x, hx => by
    rw [cdTs] at h ⊢
    rw [depthsC] at hx
    rcases List.mem_cons.1 hx with rfl | hx
    · have := (depthC_le t (by omega)).2; omega
    · have := depthsC_le r (by omega) x hx; omega
end
end Go.Proofs.Ytpncjepigcnfeaa

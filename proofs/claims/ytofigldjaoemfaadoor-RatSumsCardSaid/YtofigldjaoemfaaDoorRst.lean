
import Derived.Test.YtofigldjaoemfaaDoorRsm
namespace Go.Proofs.YtofigldjaoemfaaDoor
open Go.RowKit Go.Instr
set_option linter.unusedVariables false

/-! Sums of fractions with small denominators: all of them fit, and the order does not matter. -/
/-- A multiple of 1/27720, within m times 32768. -/
def Sm (r : Rat) (m : Nat) : Prop := ∃ z : Int, r = Rat.divInt z 27720 ∧ z.natAbs ≤ m * 908328960
theorem low_le (n d : Int) (h0 : d ≠ 0) : (Rat.divInt n d).num.natAbs ≤ n.natAbs ∧ (Rat.divInt n d).den ≤ d.natAbs := by
  obtain ⟨m, hm, h1, h2⟩ := Rat.divInt_num_den (n' := (Rat.divInt n d).num) (d' := (Rat.divInt n d).den) (z' := (Rat.divInt n d).den_nz) (c := (Rat.divInt n d).reduced) h0 rfl
  constructor
  · have : n.natAbs = (Rat.divInt n d).num.natAbs * m.natAbs := by rw [← Int.natAbs_mul, ← h1]
    rw [this]; exact Nat.le_mul_of_pos_right _ (by omega)
  · have : d.natAbs = (Rat.divInt n d).den * m.natAbs := by
      have h3 := congrArg Int.natAbs h2
      rw [Int.natAbs_mul, Int.natAbs_natCast] at h3
      exact h3
    rw [this]; exact Nat.le_mul_of_pos_right _ (by omega)
theorem sm_ok {r : Rat} {m : Nat} (h : Sm r m) (hm : m ≤ 1000) : okR r = true := by
  obtain ⟨z, rfl, hz⟩ := h
  have := low_le z 27720 (by decide)
  unfold okR
  simp only [Bool.and_eq_true, decide_eq_true_eq]
  omega
theorem sm_add {r s : Rat} {m k : Nat} (h : Sm r m) (g : Sm s k) : Sm (r + s) (m + k) := by
  obtain ⟨z, rfl, hz⟩ := h
  obtain ⟨y, rfl, hy⟩ := g
  refine ⟨z + y, ?_, by omega⟩
  rw [Rat.divInt_add_divInt _ _ (by decide) (by decide), ← Int.add_mul, Rat.divInt_mul_right (by decide)]
theorem sm_zero : Sm 0 0 := ⟨0, by simp, by decide⟩
theorem sm_mono {r : Rat} {m k : Nat} (h : Sm r m) (hk : m ≤ k) : Sm r k := by
  obtain ⟨z, e, hz⟩ := h
  exact ⟨z, e, Nat.le_trans hz (Nat.mul_le_mul_right _ hk)⟩
theorem sm_frac (n d : Int) (hn : -32768 ≤ n ∧ n ≤ 32767) (hd : 1 ≤ d ∧ d ≤ 12) : Sm (Rat.divInt n d) 1 := by
  have key : ∀ q : Int, 0 < q → q ≤ 27720 → d * q = 27720 → Sm (Rat.divInt n d) 1 := by
    intro q h1 h2 h3
    refine ⟨n * q, by rw [← h3, Rat.divInt_mul_right (by omega)], ?_⟩
    rw [Int.natAbs_mul]
    have : n.natAbs * q.natAbs ≤ 32768 * 27720 := Nat.mul_le_mul (by omega) (by omega)
    exact Nat.le_trans this (by decide)
  obtain ⟨h1, h2⟩ := hd
  have : d = 1 ∨ d = 2 ∨ d = 3 ∨ d = 4 ∨ d = 5 ∨ d = 6 ∨ d = 7 ∨ d = 8 ∨ d = 9 ∨ d = 10 ∨ d = 11 ∨ d = 12 := by omega
  rcases this with rfl | rfl | rfl | rfl | rfl | rfl | rfl | rfl | rfl | rfl | rfl | rfl
  · exact key 27720 (by decide) (by decide) (by decide)
  · exact key 13860 (by decide) (by decide) (by decide)
  · exact key 9240 (by decide) (by decide) (by decide)
  · exact key 6930 (by decide) (by decide) (by decide)
  · exact key 5544 (by decide) (by decide) (by decide)
  · exact key 4620 (by decide) (by decide) (by decide)
  · exact key 3960 (by decide) (by decide) (by decide)
  · exact key 3465 (by decide) (by decide) (by decide)
  · exact key 3080 (by decide) (by decide) (by decide)
  · exact key 2772 (by decide) (by decide) (by decide)
  · exact key 2520 (by decide) (by decide) (by decide)
  · exact key 2310 (by decide) (by decide) (by decide)
/-- The exact sum. -/
def sumQ : List (Int × Int) → Rat
  | [] => 0
  | p :: r => Rat.divInt p.1 p.2 + sumQ r
theorem sumQ_append (a b : List (Int × Int)) : sumQ (a ++ b) = sumQ a + sumQ b := by
  induction a with
  | nil => simp [sumQ, Rat.zero_add]
  | cons p r ih => simp only [List.cons_append, sumQ, ih, Rat.add_assoc]
theorem sumQ_reverse (a : List (Int × Int)) : sumQ a.reverse = sumQ a := by
  induction a with
  | nil => rfl
  | cons p r ih => rw [List.reverse_cons, sumQ_append, ih]; simp only [sumQ, Rat.add_zero]; rw [Rat.add_comm]
/-- Fractions with small denominators. -/
def Small (l : List (Int × Int)) : Prop := ∀ p ∈ l, Fr p.1 p.2 ∧ Sm (Rat.divInt p.1 p.2) 1
theorem sumQ_sm : ∀ (l : List (Int × Int)), Small l → Sm (sumQ l) l.length := by
  intro l
  induction l with
  | nil => intro _; exact sm_zero
  | cons p r ih =>
    intro h
    have := sm_add (h p (List.mem_cons_self ..)).2 (ih (fun q hq => h q (List.mem_cons_of_mem _ hq)))
    exact sm_mono this (by simp; omega)
theorem ok_num {r : Rat} (h : okR r = true) : numR r = r.num ∧ denR r = (r.den : Int) ∧ errR r = 0 := by
  unfold numR denR errR; rw [if_pos h, if_pos h, if_pos h]; exact ⟨rfl, rfl, rfl⟩
theorem sumG_sm : ∀ (l : List (Int × Int)) (N D : Int) (m : Nat), Fr N D → Sm (Rat.divInt N D) m → Small l → m + l.length ≤ 1000 →
    sumG N D l = (numR (Rat.divInt N D + sumQ l), denR (Rat.divInt N D + sumQ l), 0) := by
  intro l
  induction l with
  | nil =>
    intro N D m f _ _ _
    simp only [sumQ, Rat.add_zero]
    unfold sumG
    rw [fr_numR f, fr_denR f]
  | cons p r ih =>
    intro N D m f s h hm
    have hp := h p (List.mem_cons_self ..)
    have s1 := sm_add s hp.2
    have ok := sm_ok s1 (by simp at hm; omega)
    have e := ok_num ok
    unfold sumG
    rw [if_pos e.2.2]
    have fr := okR_fr ok
    rw [ih _ _ (m + 1) fr.1 (by rw [fr.2]; exact s1) (fun q hq => h q (List.mem_cons_of_mem _ hq)) (by simp at hm; omega)]
    rw [fr.2]
    simp only [sumQ, Rat.add_assoc]
/-- The sum of a list of small fractions is exact. -/
theorem sum_small (l : List (Int × Int)) (h : Small l) (hl : l.length ≤ 900) : sumN l = numR (sumQ l) ∧ sumD l = denR (sumQ l) ∧ sumE l = 0 ∧ okR (sumQ l) = true := by
  have := sumG_sm l 0 1 0 fr_zero (by rw [r_zero]; exact sm_zero) h (by omega)
  rw [r_zero, Rat.zero_add] at this
  unfold sumN sumD sumE
  rw [this]
  exact ⟨rfl, rfl, rfl, sm_ok (sumQ_sm l h) (by omega)⟩
end Go.Proofs.YtofigldjaoemfaaDoor

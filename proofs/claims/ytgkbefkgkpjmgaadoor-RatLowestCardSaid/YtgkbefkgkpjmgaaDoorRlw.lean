import Derived.Test.YtgkbefkgkpjmgaaDoorRsm
namespace Go.Proofs.YtgkbefkgkpjmgaaDoor
open Go.RowKit Go.Instr
set_option linter.unusedVariables false

/-! What RatLowest asks of each result. -/
structure Good (N D E : Int) : Prop where
  n : I64 N
  d : I64 D
  v : validB N D = (E == 0)
  z : E = 0 ∨ (N = 0 ∧ D = 0)
theorem validB_zero : validB 0 0 = false := by decide +kernel
theorem good_fr {N D E : Int} (h : E = 0) (f : Fr N D) : Good N D E :=
  ⟨f.bigN.i64, f.bigD.i64, by rw [(valid_iff N D).2 f, h]; rfl, Or.inl h⟩
theorem good_bad {E : Int} (h : E ≠ 0) : Good 0 0 E :=
  ⟨by unfold I64; omega, by unfold I64; omega, by rw [validB_zero]; simpa using h, Or.inr ⟨rfl, rfl⟩⟩
theorem good_trip {r : Rat} {N D E : Int} (T : Trip r N D E) : Good N D E := by
  rcases trip_cases T with ⟨h, f, _⟩ | ⟨h, rfl, rfl⟩
  · exact good_fr h f
  · exact good_bad (by omega)
theorem good_new (n d : Int) : Good (nN n d) (nD n d) (nE n d) := by
  by_cases h : nE n d = 0
  · exact good_fr h (nE_zero h)
  · have : nN n d = 0 ∧ nD n d = 0 := by
      unfold nE at h
      unfold nN nD
      by_cases hd : d = 0
      · rw [if_pos hd, if_pos hd]; exact ⟨rfl, rfl⟩
      · rw [if_neg hd] at h ⊢
        rw [if_neg hd]
        have h' : okR (Rat.divInt n d) = false := by
          unfold errR at h
          split at h
          · exact absurd rfl h
          · rename_i k; simpa using k
        exact ⟨(val_bad h').1, (val_bad h').2.1⟩
    rw [this.1, this.2]
    exact good_bad h
theorem good_sum (l : List (Int × Int)) (hr : ∀ p ∈ l, Fr p.1 p.2) : Good (sumN l) (sumD l) (sumE l) := by
  rcases sum_cases l hr with ⟨h, f⟩ | ⟨h, h1, h2⟩
  · exact good_fr h f
  · rw [h1, h2]; exact good_bad (by omega)
/-- The quotient, whether by 0 or not. -/
theorem div_ex {aN aD bN bD : Int} (a : Fr aN aD) (b : Fr bN bD) : ∃ N D E, Good N D E ∧ ∀ w, Calls Tryd.prog 15 #[.agg #[.int .i64 aN, .int .i64 aD], .agg #[.int .i64 bN, .int .i64 bD]] w fun e w' => e = .returned (.agg #[.int .i64 N, .int .i64 D, .int .i64 E]) ∧ Below w.heap.size w w' := by
  by_cases h : bN = 0
  · subst h
    exact ⟨0, 0, 20, good_bad (by decide), fun w => divZ a w⟩
  · obtain ⟨N, D, E, T⟩ := trip_ex (Rat.divInt aN aD / Rat.divInt bN bD)
    exact ⟨N, D, E, good_trip T, fun w => divT a b h T w⟩
/-- Small numbers fit. -/
theorem low_fit (n d : Int) (hn : -1073741824 < n ∧ n < 1073741824) (hd : -1073741824 < d ∧ d < 1073741824) (h0 : d ≠ 0) :
    nE n d = 0 ∧ nN n d * d = nD n d * n ∧ (-1073741824 < nN n d ∧ nN n d < 1073741824) ∧ (0 < nD n d ∧ nD n d < 1073741824) := by
  obtain ⟨m, hm, h1, h2⟩ := Rat.divInt_num_den (n' := (Rat.divInt n d).num) (d' := (Rat.divInt n d).den) (z' := (Rat.divInt n d).den_nz) (c := (Rat.divInt n d).reduced) h0 rfl
  have hp := (Rat.divInt n d).den_pos
  have b1 : (Rat.divInt n d).num.natAbs ≤ n.natAbs := by
    have : n.natAbs = (Rat.divInt n d).num.natAbs * m.natAbs := by rw [← Int.natAbs_mul, ← h1]
    rw [this]; exact Nat.le_mul_of_pos_right _ (by omega)
  have b2 : (Rat.divInt n d).den ≤ d.natAbs := by
    have : d.natAbs = (Rat.divInt n d).den * m.natAbs := by
      have h3 := congrArg Int.natAbs h2
      rw [Int.natAbs_mul, Int.natAbs_natCast] at h3
      exact h3
    rw [this]; exact Nat.le_mul_of_pos_right _ (by omega)
  have he : (Rat.divInt n d).num * d = (Rat.divInt n d).den * n := by
    have e1 : (Rat.divInt n d).num * d = (Rat.divInt n d).num * ((Rat.divInt n d).den * m) := by rw [← h2]
    have e2 : ((Rat.divInt n d).den : Int) * n = (Rat.divInt n d).den * ((Rat.divInt n d).num * m) := by rw [← h1]
    rw [e1, e2, Int.mul_left_comm]
  have ok : okR (Rat.divInt n d) = true := by
    unfold okR
    simp only [Bool.and_eq_true, decide_eq_true_eq]
    constructor <;> omega
  unfold nE nN nD errR numR denR
  rw [if_neg h0, if_neg h0, if_neg h0, if_pos ok, if_pos ok, if_pos ok]
  exact ⟨rfl, he, by omega, by omega⟩
/-- A common factor changes nothing. -/
theorem low_same (n d k : Int) (hd : d ≠ 0) (hk : k ≠ 0) : nN (n * k) (d * k) = nN n d ∧ nD (n * k) (d * k) = nD n d ∧ nE (n * k) (d * k) = nE n d := by
  have h : d * k ≠ 0 := Int.mul_ne_zero hd hk
  unfold nN nD nE
  rw [if_neg h, if_neg h, if_neg h, if_neg hd, if_neg hd, if_neg hd, Rat.divInt_mul_right hk]
  exact ⟨rfl, rfl, rfl⟩
end Go.Proofs.YtgkbefkgkpjmgaaDoor

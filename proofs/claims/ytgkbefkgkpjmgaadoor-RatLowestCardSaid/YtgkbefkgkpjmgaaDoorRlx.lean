import Derived.Test.YtgkbefkgkpjmgaaDoorRlw
namespace Go.Proofs.YtgkbefkgkpjmgaaDoor
open Go.RowKit Go.Instr
set_option linter.unusedVariables false

/-! The seven results of RatLowest. -/
theorem total3 {aN aD bN bD : Int} (a : Fr aN aD) (b : Fr bN bD) : ∃ N D E, Good N D E ∧ ∀ (W : World) (m : Nat), FracsAt W [(bN, bD), (aN, aD), (bN, bD)] m 0 →
    Calls Tryd.prog 20 #[.slice (some ⟨m, 0, none⟩) 3 3] W fun e w' => e = .returned (.agg #[.int .i64 N, .int .i64 D, .int .i64 E]) ∧ Below W.heap.size W w' := by
  have hr : ∀ p ∈ [(bN, bD), (aN, aD), (bN, bD)], Fr p.1 p.2 := by
    intro p hp
    simp only [List.mem_cons, List.not_mem_nil, or_false] at hp
    rcases hp with rfl | rfl | rfl
    · exact b
    · exact a
    · exact b
  exact ⟨_, _, _, good_sum _ hr, fun W m h => total_lies [(bN, bD), (aN, aD), (bN, bD)] m 0 3 W (by simp) (by simp) h hr⟩
theorem min_ex {aN aD bN bD : Int} (a : Fr aN aD) (b : Fr bN bD) : ∃ N D, Fr N D ∧ ∀ w, Calls Tryd.prog 17 #[.agg #[.int .i64 aN, .int .i64 aD], .agg #[.int .i64 bN, .int .i64 bD]] w fun e w' => e = .returned (.agg #[.int .i64 N, .int .i64 D]) ∧ Below w.heap.size w w' := by
  cases h : decide (0 < cmpV (Rat.divInt aN aD) (Rat.divInt bN bD))
  · exact ⟨aN, aD, a, fun w => min_a a b h w⟩
  · exact ⟨bN, bD, b, fun w => min_b a b h w⟩
theorem add_ex {aN aD bN bD : Int} (a : Fr aN aD) (b : Fr bN bD) : ∃ N D E, Good N D E ∧ ∀ w, Calls Tryd.prog 11 #[.agg #[.int .i64 aN, .int .i64 aD], .agg #[.int .i64 bN, .int .i64 bD]] w fun e w' => e = .returned (.agg #[.int .i64 N, .int .i64 D, .int .i64 E]) ∧ Below w.heap.size w w' := by
  obtain ⟨N, D, E, T⟩ := trip_ex (Rat.divInt aN aD + Rat.divInt bN bD)
  exact ⟨N, D, E, good_trip T, fun w => addT a b T w⟩
theorem sub_ex {aN aD bN bD : Int} (a : Fr aN aD) (b : Fr bN bD) : ∃ N D E, Good N D E ∧ ∀ w, Calls Tryd.prog 14 #[.agg #[.int .i64 aN, .int .i64 aD], .agg #[.int .i64 bN, .int .i64 bD]] w fun e w' => e = .returned (.agg #[.int .i64 N, .int .i64 D, .int .i64 E]) ∧ Below w.heap.size w w' := by
  obtain ⟨N, D, E, T⟩ := trip_ex (Rat.divInt aN aD - Rat.divInt bN bD)
  exact ⟨N, D, E, good_trip T, fun w => subT a b T w⟩
theorem mul_ex {aN aD bN bD : Int} (a : Fr aN aD) (b : Fr bN bD) : ∃ N D E, Good N D E ∧ ∀ w, Calls Tryd.prog 12 #[.agg #[.int .i64 aN, .int .i64 aD], .agg #[.int .i64 bN, .int .i64 bD]] w fun e w' => e = .returned (.agg #[.int .i64 N, .int .i64 D, .int .i64 E]) ∧ Below w.heap.size w w' := by
  obtain ⟨N, D, E, T⟩ := trip_ex (Rat.divInt aN aD * Rat.divInt bN bD)
  exact ⟨N, D, E, good_trip T, fun w => mulT a b T w⟩
theorem new_ex (n d : Int) (h1 : I64 n) (h2 : I64 d) : ∃ N D E, Good N D E ∧ ∀ w, Calls Tryd.prog 19 #[.int .i64 n, .int .i64 d] w fun e w' => e = .returned (.agg #[.int .i64 N, .int .i64 D, .int .i64 E]) ∧ Below w.heap.size w w' :=
  ⟨_, _, _, good_new n d, fun w => createdE n d _ _ _ h1 h2 rfl rfl rfl w⟩
/-- Three fractions, laid as a slice of their own. -/
theorem fracs3 {W : World} {m : Nat} {a b c d e f : Int} (h0 : W.cell? ⟨m, 0, none⟩ = some (.int .i64 a)) (h1 : W.cell? ⟨m, 1, none⟩ = some (.int .i64 b)) (h2 : W.cell? ⟨m, 2, none⟩ = some (.int .i64 c)) (h3 : W.cell? ⟨m, 3, none⟩ = some (.int .i64 d)) (h4 : W.cell? ⟨m, 4, none⟩ = some (.int .i64 e)) (h5 : W.cell? ⟨m, 5, none⟩ = some (.int .i64 f)) : FracsAt W [(a, b), (c, d), (e, f)] m 0 := by
  intro i hi
  match i, hi with
  | 0, _ => exact ⟨h0, h1⟩
  | 1, _ => exact ⟨h2, h3⟩
  | 2, _ => exact ⟨h4, h5⟩
/-- The results, each as it should be, as a slice. -/
def AllsAt (W : World) (s : Value) (wx : World) : Prop := ∃ (m : Nat) (R : List (Int × Int × Int)), R.length = 7 ∧ s = .slice (some ⟨m, 0, none⟩) 7 7 ∧ (∀ r ∈ R, Good r.1 r.2.1 r.2.2) ∧ (∀ i, i < 7 → wx.cell? ⟨m, i * 3, none⟩ = some (.int .i64 (R.getD i (0, 0, 0)).1) ∧ wx.cell? ⟨m, i * 3 + 1, none⟩ = some (.int .i64 (R.getD i (0, 0, 0)).2.1) ∧ wx.cell? ⟨m, i * 3 + 2, none⟩ = some (.int .i64 (R.getD i (0, 0, 0)).2.2)) ∧ Below W.heap.size W wx
theorem alls_is {W wx : World} (m : Nat) {N1 D1 E1 N2 D2 E2 N3 D3 E3 N4 D4 E4 N5 D5 E5 N6 D6 E6 N7 D7 E7 : Int} (h1 : Good N1 D1 E1) (h2 : Good N2 D2 E2) (h3 : Good N3 D3 E3) (h4 : Good N4 D4 E4) (h5 : Good N5 D5 E5) (h6 : Good N6 D6 E6) (h7 : Good N7 D7 E7)
    (RR : ∀ i, i < 7 → wx.cell? ⟨m, i * 3, none⟩ = some (.int .i64 ([(N1, D1, E1), (N2, D2, E2), (N3, D3, E3), (N4, D4, E4), (N5, D5, E5), (N6, D6, E6), (N7, D7, E7)].getD i (0, 0, 0)).1) ∧ wx.cell? ⟨m, i * 3 + 1, none⟩ = some (.int .i64 ([(N1, D1, E1), (N2, D2, E2), (N3, D3, E3), (N4, D4, E4), (N5, D5, E5), (N6, D6, E6), (N7, D7, E7)].getD i (0, 0, 0)).2.1) ∧ wx.cell? ⟨m, i * 3 + 2, none⟩ = some (.int .i64 ([(N1, D1, E1), (N2, D2, E2), (N3, D3, E3), (N4, D4, E4), (N5, D5, E5), (N6, D6, E6), (N7, D7, E7)].getD i (0, 0, 0)).2.2))
    (hb : Below W.heap.size W wx) : AllsAt W (.slice (some ⟨m, 0, none⟩) 7 7) wx := by
  refine ⟨m, _, rfl, rfl, ?_, RR, hb⟩
  intro r hr
  simp only [List.mem_cons, List.not_mem_nil, or_false] at hr
  rcases hr with rfl | rfl | rfl | rfl | rfl | rfl | rfl <;> assumption
theorem tmod_bd (x : Int) : -1073741824 < x.tmod 1073741824 ∧ x.tmod 1073741824 < 1073741824 := by
  rw [Int.tmod_eq_emod]
  split <;> omega
theorem prod_bd {a b A B : Int} (hA : 0 ≤ A) (ha : -A ≤ a ∧ a ≤ A) (hb : -B ≤ b ∧ b ≤ B) : -(A * B) ≤ a * b ∧ a * b ≤ A * B := by
  have h : (a * b).natAbs ≤ A.natAbs * B.natAbs := by rw [Int.natAbs_mul]; exact Nat.mul_le_mul (by omega) (by omega)
  have h2 : (A * B).natAbs = A.natAbs * B.natAbs := Int.natAbs_mul ..
  have h3 : 0 ≤ A * B := Int.mul_nonneg hA (by omega)
  omega
end Go.Proofs.YtgkbefkgkpjmgaaDoor


import Derived.Test.YtffcnkkgbhhfnaaGreatDoorRz
namespace Go.Proofs.YtffcnkkgbhhfnaaGreatDoor
open Go.RowKit Go.Instr
set_option linter.unusedVariables false

/-! What the laws ask of sums, products, differences and quotients. -/
def Trip (r : Rat) (N D E : Int) : Prop := numR r = N ∧ denR r = D ∧ errR r = E
theorem trip_cases {r : Rat} {N D E : Int} (h : Trip r N D E) : (E = 0 ∧ Fr N D ∧ Rat.divInt N D = r) ∨ (E = 2 ∧ N = 0 ∧ D = 0) := by
  obtain ⟨rfl, rfl, rfl⟩ := h
  by_cases h : okR r = true
  · exact Or.inl ⟨by unfold errR; rw [if_pos h], (okR_fr h).1, (okR_fr h).2⟩
  · have h' : okR r = false := by simpa using h
    obtain ⟨v1, v2, v3⟩ := val_bad h'
    exact Or.inr ⟨v3, v1, v2⟩
theorem trip_fr {r : Rat} {N D : Int} (h : Fr N D) (e : r = Rat.divInt N D) : Trip r N D 0 := by rw [e]; exact ⟨fr_numR h, fr_denR h, fr_errR h⟩
theorem fr_zero : Fr 0 1 := fr_of _ _ (by decide +kernel)
theorem r_zero : Rat.divInt 0 1 = 0 := by simp
theorem r_one : Rat.divInt 1 1 = 1 := by decide +kernel
theorem fr_rat_ne {N D : Int} (h : Fr N D) (hn : N ≠ 0) : Rat.divInt N D ≠ 0 := by
  intro h0; have := h.num; rw [h0] at this; exact hn this.symm
theorem addT {aN aD bN bD N D E : Int} (a : Fr aN aD) (b : Fr bN bD) (h : Trip (Rat.divInt aN aD + Rat.divInt bN bD) N D E) (w : World) :
    Calls Tryz.prog 10 #[.agg #[.int .i64 (aN), .int .i64 (aD)], .agg #[.int .i64 (bN), .int .i64 (bD)]] w fun e w' => e = .returned (.agg #[.int .i64 (N), .int .i64 (D), .int .i64 (E)]) ∧ Below w.heap.size w w' := by
  obtain ⟨rfl, rfl, rfl⟩ := h
  exact addE a b w
theorem subT {aN aD bN bD N D E : Int} (a : Fr aN aD) (b : Fr bN bD) (h : Trip (Rat.divInt aN aD - Rat.divInt bN bD) N D E) (w : World) :
    Calls Tryz.prog 12 #[.agg #[.int .i64 (aN), .int .i64 (aD)], .agg #[.int .i64 (bN), .int .i64 (bD)]] w fun e w' => e = .returned (.agg #[.int .i64 (N), .int .i64 (D), .int .i64 (E)]) ∧ Below w.heap.size w w' := by
  obtain ⟨rfl, rfl, rfl⟩ := h
  exact subE a b w
theorem mulT {aN aD bN bD N D E : Int} (a : Fr aN aD) (b : Fr bN bD) (h : Trip (Rat.divInt aN aD * Rat.divInt bN bD) N D E) (w : World) :
    Calls Tryz.prog 14 #[.agg #[.int .i64 (aN), .int .i64 (aD)], .agg #[.int .i64 (bN), .int .i64 (bD)]] w fun e w' => e = .returned (.agg #[.int .i64 (N), .int .i64 (D), .int .i64 (E)]) ∧ Below w.heap.size w w' := by
  obtain ⟨rfl, rfl, rfl⟩ := h
  exact mulE a b w
theorem divT {aN aD bN bD N D E : Int} (a : Fr aN aD) (b : Fr bN bD) (hb : bN ≠ 0) (h : Trip (Rat.divInt aN aD / Rat.divInt bN bD) N D E) (w : World) :
    Calls Tryz.prog 16 #[.agg #[.int .i64 (aN), .int .i64 (aD)], .agg #[.int .i64 (bN), .int .i64 (bD)]] w fun e w' => e = .returned (.agg #[.int .i64 (N), .int .i64 (D), .int .i64 (E)]) ∧ Below w.heap.size w w' := by
  obtain ⟨rfl, rfl, rfl⟩ := h
  exact divE a b hb w
def Boxed (W : World) (c : Prop) (lN lD lE : Int) (wx : World) : Prop := (∃ eN eD eE : Int, wx.cell? ⟨W.heap.size, 0, none⟩ = some (.int .i64 eN) ∧ wx.cell? ⟨W.heap.size, 1, none⟩ = some (.int .i64 eD) ∧ wx.cell? ⟨W.heap.size, 2, none⟩ = some (.int .i64 eE) ∧ ((c ∧ eN = lN ∧ eD = lD ∧ eE = lE) ∨ eE = 2)) ∧ W.heap.size < wx.heap.size ∧ Below W.heap.size W wx
theorem trip_ex (r : Rat) : ∃ N D E, Trip r N D E := ⟨_, _, _, rfl, rfl, rfl⟩
end Go.Proofs.YtffcnkkgbhhfnaaGreatDoor

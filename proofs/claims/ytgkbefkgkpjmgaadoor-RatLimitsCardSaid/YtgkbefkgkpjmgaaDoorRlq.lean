import Derived.Test.YtgkbefkgkpjmgaaDoorRlp
namespace Go.Proofs.YtgkbefkgkpjmgaaDoor
open Go.RowKit Go.Instr
set_option linter.unusedVariables false

/-! The ends: what RatLimits asks of the greatest numerator. -/
theorem rmost_any (w : World) : Calls Tryd.prog 27 #[] w fun e w' => e = .returned (.int .i64 4611686018427387904) ∧ w = w' := by
  go_enter Tryd.func27, Tryd.ntmps27
  go_wp2
  go_ret
  exact ⟨rfl, rfl⟩
def endO (ng : Bool) : Int := if ng then -1 else 1
def endE (ng : Bool) : Int := if ng then -4611686018427387904 else 4611686018427387904
def endG (ng : Bool) : Int := if ng then -4611686018427387903 else 4611686018427387903
theorem fr_half : Fr 1 2 := fr_of _ _ (by decide +kernel)
theorem ends_ex (ng : Bool) : ∃ o e g : Int, (endO ng = o ∧ endE ng = e) ∧ Fr o 1 ∧ Fr e 1 ∧ Fr g 1 ∧ Trip (Rat.divInt e 1 - Rat.divInt o 1) g 1 0 ∧ Trip (Rat.divInt e 1 + Rat.divInt o 1) 0 0 2 ∧ Trip (Rat.divInt g 1 + Rat.divInt o 1) e 1 0 ∧ Trip (Rat.divInt e 1 - Rat.divInt 1 2) 0 0 2 := by
  refine ⟨_, _, endG ng, ⟨rfl, rfl⟩, ?_⟩
  cases ng
  · exact ⟨fr_of _ _ (by decide +kernel), fr_of _ _ (by decide +kernel), fr_of _ _ (by decide +kernel), by unfold Trip; decide +kernel, by unfold Trip; decide +kernel, by unfold Trip; decide +kernel, by unfold Trip; decide +kernel⟩
  · exact ⟨fr_of _ _ (by decide +kernel), fr_of _ _ (by decide +kernel), fr_of _ _ (by decide +kernel), by unfold Trip; decide +kernel, by unfold Trip; decide +kernel, by unfold Trip; decide +kernel, by unfold Trip; decide +kernel⟩
theorem ends_t {ng : Bool} {o e : Int} (z : ng = true) (h : endO ng = o ∧ endE ng = e) : o = -1 ∧ e = -4611686018427387904 := by
  subst z; exact ⟨h.1.symm, h.2.symm⟩
theorem ends_f {ng : Bool} {o e : Int} (z : ng = false) (h : endO ng = o ∧ endE ng = e) : o = 1 ∧ e = 4611686018427387904 := by
  subst z; exact ⟨h.1.symm, h.2.symm⟩
def Ends (W : World) (o e : Int) (wx : World) : Prop := wx.cell? ⟨W.heap.size, 0, none⟩ = some (.int .i64 o) ∧ wx.cell? ⟨W.heap.size, 1, none⟩ = some (.int .i64 1) ∧ wx.cell? ⟨W.heap.size + 1, 0, none⟩ = some (.int .i64 e) ∧ wx.cell? ⟨W.heap.size + 1, 1, none⟩ = some (.int .i64 1) ∧ W.heap.size + 2 ≤ wx.heap.size ∧ Below W.heap.size W wx
theorem ends_is {W wx : World} {o e : Int} (h0 : wx.cell? ⟨W.heap.size, 0, none⟩ = some (.int .i64 o)) (h1 : wx.cell? ⟨W.heap.size, 1, none⟩ = some (.int .i64 1)) (h2 : wx.cell? ⟨W.heap.size + 1, 0, none⟩ = some (.int .i64 e)) (h3 : wx.cell? ⟨W.heap.size + 1, 1, none⟩ = some (.int .i64 1)) (h4 : W.heap.size + 2 ≤ wx.heap.size) (h5 : Below W.heap.size W wx) : Ends W o e wx := ⟨h0, h1, h2, h3, h4, h5⟩
end Go.Proofs.YtgkbefkgkpjmgaaDoor

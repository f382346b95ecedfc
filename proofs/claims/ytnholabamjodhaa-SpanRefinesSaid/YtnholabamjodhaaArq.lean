import Derived.Test.YtnholabamjodhaaHola
import Derived.Test.YtnholabamjodhaaAsnd
namespace Go.Proofs.Ytnholabamjodhaa
open Go.RowKit Go.Instr Sp
set_option linter.unusedVariables false
set_option linter.unusedSimpArgs false

/-! Comparisons of two literals, as SpanRefines makes them. -/
def cmpB (op v u : Int) : Bool := if op = 2 then decide (v < u) else if op = 3 then decide (v ≤ u) else v == u
set_option maxHeartbeats 400000 in
theorem rnum_any (v : Int) (w : World) :
    Calls Try.prog 37 #[.int .i64 v] w fun e w' => e = .returned (.agg #[.int .i64 1, .int .i64 0, .int .i64 v, .slice none 0 0]) ∧ Below w.heap.size w w' := by
  go_enter Try.func37, Try.ntmps37
  go_wp2
  exact bodyPost_ret (v := .agg #[.int .i64 1, .int .i64 0, .int .i64 v, .slice none 0 0]) (by simp [results, Try.results37, go_sem]) rfl ⟨by rfl, (by repeat (first | with_reducible exact Below.refl _ _ | with_reducible exact Below.refl _ _ | with_reducible refine Below.setCell ?_ (by first | omega | (dsimp only; omega) | (simp; done) | (simp; omega)) _ | with_reducible refine Below.alloc ?_ (by first | omega | (dsimp only; omega) | (simp; done) | (simp; omega)) _ | with_reducible refine Below.drew ?_ | with_reducible refine drewnA ?_ _ | with_reducible refine Below.trans ?_ (Below.refl _ _.mono (by first | omega | (dsimp only; omega) | (simp; done) | (simp; omega)))))⟩
theorem holds_two (op v u : Int) (ho : op = 2 ∨ op = 3 ∨ op = 4) (hv : inV v) (hu : inV u) (w : World) (g : Nat) (k0 : w.cell? ⟨g, 0, none⟩ = some (.int .i64 1)) (k1 : w.cell? ⟨g, 1, none⟩ = some (.int .i64 0)) (k2 : w.cell? ⟨g, 2, none⟩ = some (.int .i64 v)) (k3 : w.cell? ⟨g, 3, none⟩ = some (.slice none 0 0)) (k4 : w.cell? ⟨g, 4, none⟩ = some (.int .i64 1)) (k5 : w.cell? ⟨g, 5, none⟩ = some (.int .i64 0)) (k6 : w.cell? ⟨g, 6, none⟩ = some (.int .i64 u)) (k7 : w.cell? ⟨g, 7, none⟩ = some (.slice none 0 0)) :
    Calls Try.prog 36 #[.agg #[.int .i64 op, .slice (some ⟨g, 0, none⟩) 2 2, .slice none 0 0], .slice none 0 0, .slice none 0 0] w fun e w' => e = .returned (.bool (cmpB op v u)) ∧ Below w.heap.size w w' := by
  have e0 : ∀ x, inV x → wrap32 x = x := by intro x hx; obtain ⟨h1, h2⟩ := hx; unfold wrap32; omega
  have i0 : intsIn w [] (.slice none 0 0) := ⟨none, 0, rfl, Nat.le_refl _, by omega, fun i h => by simp at h⟩
  have x0 : ∀ z : Int, exIn w (.mk 1 0 z []) (.agg #[.int .i64 1, .int .i64 0, .int .i64 z, .slice none 0 0]) := by
    intro z
    rw [exIn]
    exact ⟨none, 0, rfl, Nat.le_refl _, by omega, by rw [exsIn]; exact trivial⟩
  have hc : cdIn w (.mk op [.mk 1 0 v [], .mk 1 0 u []] []) (.agg #[.int .i64 op, .slice (some ⟨g, 0, none⟩) 2 2, .slice none 0 0]) := by
    rw [cdIn]
    refine ⟨some ⟨g, 0, none⟩, none, 2, 0, rfl, Nat.le_refl _, by omega, ?_, Nat.le_refl _, by omega, by rw [cdsIn]; exact trivial⟩
    rw [exsIn]
    refine ⟨⟨g, 0, _, _, _, _, rfl, k0, k1, k2, k3, x0 v⟩, ?_⟩
    rw [exsIn]
    exact ⟨⟨g, 0, _, _, _, _, rfl, k4, k5, k6, k7, x0 u⟩, by rw [exsIn]; exact trivial⟩
  have h := holds_any [] [] (.mk op [.mk 1 0 v [], .mk 1 0 u []] []) _ _ _ w hc i0 i0
  have e : holdsC [] [] (.mk op [.mk 1 0 v [], .mk 1 0 u []] []) = cmpB op v u := by
    rw [holdsC]
    unfold cmpB
    simp only [evalsE, evalE, if_true, e0 v hv, e0 u hu]
    rcases ho with rfl | rfl | rfl <;> simp
  rw [e] at h
  exact h
end Go.Proofs.Ytnholabamjodhaa

import Derived.Test.YtnholabamjodhaaAf
namespace Go.Proofs.Ytnholabamjodhaa
open Go.RowKit Go.Instr Sp
set_option linter.unusedVariables false
set_option linter.unusedSimpArgs false

/-! Equality of sets is decided. -/
theorem ab_eq (a b : Ab) : a = b ↔ a.lo = b.lo ∧ a.hi = b.hi ∧ a.m = b.m ∧ a.r = b.r ∧ a.k = b.k := by
  cases a; cases b; simp
instance (a b : Ab) : Decidable (a = b) := decidable_of_iff _ (ab_eq a b).symm
end Go.Proofs.Ytnholabamjodhaa

import Derived.Test.YtdcaecpcofencaaMk
namespace Go.Proofs.Ytdcaecpcofencaa
open Go.RowKit Go.Instr
set_option linter.unusedVariables false
set_option linter.unusedSimpArgs false

/-! Expressions and lists of numbers as they lie in memory. -/

/-- An expression. -/
inductive Ex where
  | mk (op n v : Int) (a : List Ex)

mutual
/-- The value x is this expression, in the world w. -/
def exIn (w : World) : Ex → Value → Prop
  | .mk op n v l, x => ∃ (oa : Option Addr) (cap : Nat), x = .agg #[.int .i64 op, .int .i64 n, .int .i64 v, .slice oa l.length cap] ∧ l.length ≤ cap ∧ cap ≤ 9223372036854775807 ∧ exsIn w l oa 0
/-- The expressions of a list lie one after the other from element i on. -/
def exsIn (w : World) : List Ex → Option Addr → Nat → Prop
  | [], _, _ => True
  | t :: r, oa, i => (∃ (b off : Nat) (x0 x1 x2 x3 : Value), oa = some ⟨b, off, none⟩ ∧ w.cell? ⟨b, off + i * 4, none⟩ = some x0 ∧ w.cell? ⟨b, off + i * 4 + 1, none⟩ = some x1 ∧
      w.cell? ⟨b, off + i * 4 + 2, none⟩ = some x2 ∧ w.cell? ⟨b, off + i * 4 + 3, none⟩ = some x3 ∧ exIn w t (.agg #[x0, x1, x2, x3])) ∧ exsIn w r oa (i + 1)
end

/-- The value s is this list of numbers, in the world w. -/
def intsIn (w : World) (l : List Int) (s : Value) : Prop :=
  ∃ (oa : Option Addr) (cap : Nat), s = .slice oa l.length cap ∧ l.length ≤ cap ∧ cap ≤ 9223372036854775807 ∧
    ∀ i, i < l.length → ∃ b off, oa = some ⟨b, off, none⟩ ∧ w.cell? ⟨b, off + i, none⟩ = some (.int .i64 (l.getD i 0))

theorem cell_below {w w' : World} (h : Below w.heap.size w w') {a : Addr} {x : Value} (hc : w.cell? a = some x) : w'.cell? a = some x :=
  (h.cell (World.block_lt_of_cell? w a hc)).trans hc

mutual
theorem exIn_below {w w' : World} (h : Below w.heap.size w w') : ∀ (t : Ex) (x : Value), exIn w t x → exIn w' t x
  | .mk op n v l, x, hx => by
    rw [exIn] at hx ⊢
    obtain ⟨oa, cap, h1, h2, h3, h4⟩ := hx
    exact ⟨oa, cap, h1, h2, h3, exsIn_below h l oa 0 h4⟩
theorem exsIn_below {w w' : World} (h : Below w.heap.size w w') : ∀ (l : List Ex) (oa : Option Addr) (i : Nat), exsIn w l oa i → exsIn w' l oa i
  | [], _, _, _ => by rw [exsIn]; trivial
  | t :: r, oa, i, hx => by
    rw [exsIn] at hx ⊢
    obtain ⟨⟨b, off, x0, x1, x2, x3, h0, h1, h2, h3, h4, h5⟩, h6⟩ := hx
    exact ⟨⟨b, off, x0, x1, x2, x3, h0, cell_below h h1, cell_below h h2, cell_below h h3, cell_below h h4, exIn_below h t _ h5⟩, exsIn_below h r oa (i + 1) h6⟩
end

theorem intsIn_below {w w' : World} (h : Below w.heap.size w w') {l : List Int} {s : Value} (hs : intsIn w l s) : intsIn w' l s := by
  obtain ⟨oa, cap, h1, h2, h3, h4⟩ := hs
  refine ⟨oa, cap, h1, h2, h3, fun i hi => ?_⟩
  obtain ⟨b, off, h5, h6⟩ := h4 i hi
  exact ⟨b, off, h5, cell_below h h6⟩

theorem exsIn_at {w : World} : ∀ {l : List Ex} {oa : Option Addr} {i : Nat}, exsIn w l oa i → ∀ (j : Nat) (t : Ex), l[j]? = some t →
    ∃ (b off : Nat) (x0 x1 x2 x3 : Value), oa = some ⟨b, off, none⟩ ∧ w.cell? ⟨b, off + (i + j) * 4, none⟩ = some x0 ∧ w.cell? ⟨b, off + (i + j) * 4 + 1, none⟩ = some x1 ∧
      w.cell? ⟨b, off + (i + j) * 4 + 2, none⟩ = some x2 ∧ w.cell? ⟨b, off + (i + j) * 4 + 3, none⟩ = some x3 ∧ exIn w t (.agg #[x0, x1, x2, x3])
  | [], _, _, _, j, t, h => by simp at h
  | u :: r, oa, i, hx, 0, t, h => by
    rw [exsIn] at hx
    simp only [List.getElem?_cons_zero, Option.some.injEq] at h
    subst h
    exact hx.1
  | u :: r, oa, i, hx, j + 1, t, h => by
    rw [exsIn] at hx
    have := exsIn_at hx.2 j t (by simpa using h)
    rwa [show i + 1 + j = i + (j + 1) by omega] at this

end Go.Proofs.Ytdcaecpcofencaa

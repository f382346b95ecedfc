import Derived.Test.YtpncjepigcnfeaaDep
namespace Go.Proofs.Ytpncjepigcnfeaa
open Go.RowKit Go.Instr
set_option linter.unusedVariables false

/-! Expressions in memory, and through which blocks they go. -/
mutual
/-- As 'exIn'; and all blocks that are met are such as Q says. -/
def exQ (Q : Nat → Prop) (w : World) : Ex → Value → Prop
  | .mk op n v l, x => ∃ (oa : Option Addr) (cap : Nat), x = .agg #[.int .i64 op, .int .i64 n, .int .i64 v, .slice oa l.length cap] ∧ l.length ≤ cap ∧ cap ≤ 9223372036854775807 ∧ exsQ Q w l oa 0
def exsQ (Q : Nat → Prop) (w : World) : List Ex → Option Addr → Nat → Prop
  | [], _, _ => True
  | t :: r, oa, i => (∃ (b off : Nat) (x0 x1 x2 x3 : Value), Q b ∧ oa = some ⟨b, off, none⟩ ∧ w.cell? ⟨b, off + i * 4, none⟩ = some x0 ∧ w.cell? ⟨b, off + i * 4 + 1, none⟩ = some x1 ∧
      w.cell? ⟨b, off + i * 4 + 2, none⟩ = some x2 ∧ w.cell? ⟨b, off + i * 4 + 3, none⟩ = some x3 ∧ exQ Q w t (.agg #[x0, x1, x2, x3])) ∧ exsQ Q w r oa (i + 1)
end

theorem cell_same {w w' : World} {a : Addr} {x : Value} (h : w'.heap[a.block]? = w.heap[a.block]?) (hc : w.cell? a = some x) : w'.cell? a = some x := (World.cell?_of_block h).trans hc

mutual
/-- Where the blocks that are met have not changed, the expression is there. -/
theorem exQ_keep {Q Q' : Nat → Prop} {w w' : World} (h : ∀ b, Q b → b < w.heap.size → Q' b ∧ w'.heap[b]? = w.heap[b]?) : ∀ (t : Ex) (x : Value), exQ Q w t x → exQ Q' w' t x
  | .mk op n v l, x, hx => by
    rw [exQ] at hx ⊢
    obtain ⟨oa, cap, h1, h2, h3, h4⟩ := hx
    exact ⟨oa, cap, h1, h2, h3, exsQ_keep h l oa 0 h4⟩
theorem exsQ_keep {Q Q' : Nat → Prop} {w w' : World} (h : ∀ b, Q b → b < w.heap.size → Q' b ∧ w'.heap[b]? = w.heap[b]?) : ∀ (l : List Ex) (oa : Option Addr) (i : Nat), exsQ Q w l oa i → exsQ Q' w' l oa i
  | [], _, _, _ => by rw [exsQ]; trivial
  | t :: r, oa, i, hx => by
    rw [exsQ] at hx ⊢
    obtain ⟨⟨b, off, x0, x1, x2, x3, hq, h0, h1, h2, h3, h4, h5⟩, h6⟩ := hx
    have hb := h b hq (World.block_lt_of_cell? w _ h1)
    exact ⟨⟨b, off, x0, x1, x2, x3, hb.1, h0, cell_same hb.2 h1, cell_same hb.2 h2, cell_same hb.2 h3, cell_same hb.2 h4, exQ_keep h t _ h5⟩, exsQ_keep h r oa (i + 1) h6⟩
end
mutual
theorem exQ_in {Q : Nat → Prop} {w : World} : ∀ (t : Ex) (x : Value), exQ Q w t x → exIn w t x
  | .mk op n v l, x, hx => by
    rw [exQ] at hx
    rw [exIn]
    obtain ⟨oa, cap, h1, h2, h3, h4⟩ := hx
    exact ⟨oa, cap, h1, h2, h3, exsQ_in l oa 0 h4⟩
theorem exsQ_in {Q : Nat → Prop} {w : World} : ∀ (l : List Ex) (oa : Option Addr) (i : Nat), exsQ Q w l oa i → exsIn w l oa i
  | [], _, _, _ => by rw [exsIn]; trivial
  | t :: r, oa, i, hx => by
    rw [exsQ] at hx
    rw [exsIn]
    obtain ⟨⟨b, off, x0, x1, x2, x3, hq, h0, h1, h2, h3, h4, h5⟩, h6⟩ := hx
    exact ⟨⟨b, off, x0, x1, x2, x3, h0, h1, h2, h3, h4, exQ_in t _ h5⟩, exsQ_in r oa (i + 1) h6⟩
end
mutual
theorem exIn_Q {w : World} : ∀ (t : Ex) (x : Value), exIn w t x → exQ (· < w.heap.size) w t x
  | .mk op n v l, x, hx => by
    rw [exIn] at hx
    rw [exQ]
    obtain ⟨oa, cap, h1, h2, h3, h4⟩ := hx
    exact ⟨oa, cap, h1, h2, h3, exsIn_Q l oa 0 h4⟩
theorem exsIn_Q {w : World} : ∀ (l : List Ex) (oa : Option Addr) (i : Nat), exsIn w l oa i → exsQ (· < w.heap.size) w l oa i
  | [], _, _, _ => by rw [exsQ]; trivial
  | t :: r, oa, i, hx => by
    rw [exsIn] at hx
    rw [exsQ]
    obtain ⟨⟨b, off, x0, x1, x2, x3, h0, h1, h2, h3, h4, h5⟩, h6⟩ := hx
    exact ⟨⟨b, off, x0, x1, x2, x3, World.block_lt_of_cell? w _ h1, h0, h1, h2, h3, h4, exIn_Q t _ h5⟩, exsIn_Q r oa (i + 1) h6⟩
end

/-- The elements of a list that is not empty: all behind one address. -/
theorem exsQ_all {Q : Nat → Prop} {w : World} {l : List Ex} {oa : Option Addr} (hx : exsQ Q w l oa 0) (hne : l ≠ []) :
    ∃ (b off : Nat), oa = some ⟨b, off, none⟩ ∧ Q b ∧ ∀ (k : Nat) (t : Ex), l[k]? = some t → ∃ (o n v : Int) (a : Option Addr) (ln cp : Nat), w.cell? ⟨b, off + k * 4, none⟩ = some (.int .i64 o) ∧ w.cell? ⟨b, off + k * 4 + 1, none⟩ = some (.int .i64 n) ∧
      w.cell? ⟨b, off + k * 4 + 2, none⟩ = some (.int .i64 v) ∧ w.cell? ⟨b, off + k * 4 + 3, none⟩ = some (.slice a ln cp) ∧ exQ Q w t (.agg #[.int .i64 o, .int .i64 n, .int .i64 v, .slice a ln cp]) := by
  have at_ : ∀ (l : List Ex) (oa : Option Addr) (i : Nat), exsQ Q w l oa i → ∀ (j : Nat) (t : Ex), l[j]? = some t →
      ∃ (b off : Nat) (x0 x1 x2 x3 : Value), Q b ∧ oa = some ⟨b, off, none⟩ ∧ w.cell? ⟨b, off + (i + j) * 4, none⟩ = some x0 ∧ w.cell? ⟨b, off + (i + j) * 4 + 1, none⟩ = some x1 ∧
        w.cell? ⟨b, off + (i + j) * 4 + 2, none⟩ = some x2 ∧ w.cell? ⟨b, off + (i + j) * 4 + 3, none⟩ = some x3 ∧ exQ Q w t (.agg #[x0, x1, x2, x3]) := by
    intro l
    induction l with
    | nil => intro oa i _ j t h; simp at h
    | cons u r ih =>
      intro oa i hx j t h
      rw [exsQ] at hx
      cases j with
      | zero => simp only [List.getElem?_cons_zero, Option.some.injEq] at h; subst h; exact hx.1
      | succ j =>
        have := ih oa (i + 1) hx.2 j t (by simpa using h)
        rwa [show i + 1 + j = i + (j + 1) by omega] at this
  cases l with
  | nil => exact absurd rfl hne
  | cons u r =>
    obtain ⟨b, off, -, -, -, -, hq, rfl, -⟩ := at_ _ _ _ hx 0 u rfl
    refine ⟨b, off, rfl, hq, fun k t hk => ?_⟩
    obtain ⟨b', off', x0, x1, x2, x3, -, hoa, c0, c1, c2, c3, hin⟩ := at_ _ _ _ hx k t hk
    simp only [Option.some.injEq, Addr.mk.injEq, and_true] at hoa
    obtain ⟨rfl, rfl⟩ := hoa
    rw [Nat.zero_add] at c0 c1 c2 c3
    obtain ⟨o, n, v, l⟩ := t
    have hin' := hin
    rw [exQ] at hin
    obtain ⟨oa', cap', h1, -⟩ := hin
    simp only [Value.agg.injEq, Array.mk.injEq, List.cons.injEq, and_true] at h1
    obtain ⟨rfl, rfl, rfl, rfl⟩ := h1
    exact ⟨_, _, _, _, _, _, c0, c1, c2, c3, hin'⟩

/-- The cells ys hold these expressions, one after the other. -/
def elemsQ (Q : Nat → Prop) (w : World) : List Ex → List Value → Prop
  | [], ys => ys = []
  | t :: r, ys => ∃ (x0 x1 x2 x3 : Value) (zs : List Value), ys = x0 :: x1 :: x2 :: x3 :: zs ∧ exQ Q w t (.agg #[x0, x1, x2, x3]) ∧ elemsQ Q w r zs

theorem elemsQ_snoc {Q : Nat → Prop} {w : World} {t : Ex} {x0 x1 x2 x3 : Value} (h : exQ Q w t (.agg #[x0, x1, x2, x3])) : ∀ (l : List Ex) (ys : List Value), elemsQ Q w l ys → elemsQ Q w (l ++ [t]) (ys ++ [x0, x1, x2, x3])
  | [], ys, hy => by
    rw [elemsQ] at hy
    subst hy
    exact ⟨x0, x1, x2, x3, [], rfl, h, rfl⟩
  | u :: r, ys, hy => by
    rw [elemsQ] at hy
    obtain ⟨y0, y1, y2, y3, zs, rfl, h1, h2⟩ := hy
    exact ⟨y0, y1, y2, y3, zs ++ [x0, x1, x2, x3], rfl, h1, elemsQ_snoc h r zs h2⟩

theorem elemsQ_keep {Q Q' : Nat → Prop} {w w' : World} (h : ∀ b, Q b → b < w.heap.size → Q' b ∧ w'.heap[b]? = w.heap[b]?) : ∀ (l : List Ex) (ys : List Value), elemsQ Q w l ys → elemsQ Q' w' l ys
  | [], ys, hy => hy
  | u :: r, ys, hy => by
    rw [elemsQ] at hy
    obtain ⟨y0, y1, y2, y3, zs, rfl, h1, h2⟩ := hy
    exact ⟨y0, y1, y2, y3, zs, rfl, exQ_keep h u _ h1, elemsQ_keep h r zs h2⟩

/-- A row of cells that holds these expressions is a list of them. -/
theorem exsQ_of_row {Q : Nat → Prop} {w : World} {g : Nat} (hg : Q g) : ∀ (l : List Ex) (ys : List Value) (i : Nat), elemsQ Q w l ys → (∀ j u, ys[j]? = some u → w.cell? ⟨g, i * 4 + j, none⟩ = some u) → exsQ Q w l (some ⟨g, 0, none⟩) i
  | [], _, _, _, _ => by rw [exsQ]; trivial
  | t :: r, ys, i, hy, hc => by
    rw [elemsQ] at hy
    obtain ⟨y0, y1, y2, y3, zs, rfl, h1, h2⟩ := hy
    rw [exsQ]
    refine ⟨⟨g, 0, y0, y1, y2, y3, hg, rfl, ?_, ?_, ?_, ?_, h1⟩, exsQ_of_row hg r zs (i + 1) h2 (fun j u hj => ?_)⟩
    · have := hc 0 y0 rfl; simpa using this
    · have := hc 1 y1 rfl; simpa using this
    · have := hc 2 y2 rfl; simpa using this
    · have := hc 3 y3 rfl; simpa using this
    · have := hc (j + 4) u (by simpa using hj)
      rwa [show i * 4 + (j + 4) = (i + 1) * 4 + j by omega] at this
end Go.Proofs.Ytpncjepigcnfeaa

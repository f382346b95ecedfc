import Derived.Test.YtnholabamjodhaaDep
namespace Go.Proofs.Ytnholabamjodhaa
open Go.RowKit Go.Instr
set_option linter.unusedVariables false
set_option linter.unusedSimpArgs false

/-! Conditions as they lie in memory. -/

/-- A condition. -/
inductive Cd where
  | mk (op : Int) (a : List Ex) (c : List Cd)

mutual
/-- The value x is this condition, in the world w. -/
def cdIn (w : World) : Cd → Value → Prop
  | .mk op l r, x => ∃ (oa ob : Option Addr) (ca cb : Nat), x = .agg #[.int .i64 op, .slice oa l.length ca, .slice ob r.length cb] ∧ l.length ≤ ca ∧ ca ≤ 9223372036854775807 ∧ exsIn w l oa 0 ∧
      r.length ≤ cb ∧ cb ≤ 9223372036854775807 ∧ cdsIn w r ob 0
/-- The conditions of a list lie one after the other from element i on. -/
def cdsIn (w : World) : List Cd → Option Addr → Nat → Prop
  | [], _, _ => True
  | t :: r, oa, i => (∃ (b off : Nat) (x0 x1 x2 : Value), oa = some ⟨b, off, none⟩ ∧ w.cell? ⟨b, off + i * 3, none⟩ = some x0 ∧ w.cell? ⟨b, off + i * 3 + 1, none⟩ = some x1 ∧
      w.cell? ⟨b, off + i * 3 + 2, none⟩ = some x2 ∧ cdIn w t (.agg #[x0, x1, x2])) ∧ cdsIn w r oa (i + 1)
end

mutual
theorem cdIn_below {w w' : World} (h : Below w.heap.size w w') : ∀ (t : Cd) (x : Value), cdIn w t x → cdIn w' t x
  | .mk op l r, x, hx => by
    rw [cdIn] at hx ⊢
    obtain ⟨oa, ob, ca, cb, h1, h2, h3, h4, h5, h6, h7⟩ := hx
    exact ⟨oa, ob, ca, cb, h1, h2, h3, exsIn_below h l oa 0 h4, h5, h6, cdsIn_below h r ob 0 h7⟩
theorem cdsIn_below {w w' : World} (h : Below w.heap.size w w') : ∀ (l : List Cd) (oa : Option Addr) (i : Nat), cdsIn w l oa i → cdsIn w' l oa i
  | [], _, _, _ => by rw [cdsIn]; trivial
  | t :: r, oa, i, hx => by
    rw [cdsIn] at hx ⊢
    obtain ⟨⟨b, off, x0, x1, x2, h0, h1, h2, h3, h5⟩, h6⟩ := hx
    exact ⟨⟨b, off, x0, x1, x2, h0, cell_below h h1, cell_below h h2, cell_below h h3, cdIn_below h t _ h5⟩, cdsIn_below h r oa (i + 1) h6⟩
end

theorem cdsIn_at {w : World} : ∀ {l : List Cd} {oa : Option Addr} {i : Nat}, cdsIn w l oa i → ∀ (j : Nat) (t : Cd), l[j]? = some t →
    ∃ (b off : Nat) (x0 x1 x2 : Value), oa = some ⟨b, off, none⟩ ∧ w.cell? ⟨b, off + (i + j) * 3, none⟩ = some x0 ∧ w.cell? ⟨b, off + (i + j) * 3 + 1, none⟩ = some x1 ∧
      w.cell? ⟨b, off + (i + j) * 3 + 2, none⟩ = some x2 ∧ cdIn w t (.agg #[x0, x1, x2])
  | [], _, _, _, j, t, h => by simp at h
  | u :: r, oa, i, hx, 0, t, h => by
    rw [cdsIn] at hx
    simp only [List.getElem?_cons_zero, Option.some.injEq] at h
    subst h
    exact hx.1
  | u :: r, oa, i, hx, j + 1, t, h => by
    rw [cdsIn] at hx
    have := cdsIn_at hx.2 j t (by simpa using h)
    rwa [show i + 1 + j = i + (j + 1) by omega] at this

/-- The elements of a list that is not empty: all behind one address. -/
theorem cdsIn_all {w : World} {l : List Cd} {oa : Option Addr} (hx : cdsIn w l oa 0) (hne : l ≠ []) :
    ∃ (b off : Nat), oa = some ⟨b, off, none⟩ ∧ ∀ (k : Nat) (t : Cd), l[k]? = some t → ∃ (o : Int) (a a2 : Option Addr) (ln cp ln2 cp2 : Nat), w.cell? ⟨b, off + k * 3, none⟩ = some (.int .i64 o) ∧
      w.cell? ⟨b, off + k * 3 + 1, none⟩ = some (.slice a ln cp) ∧ w.cell? ⟨b, off + k * 3 + 2, none⟩ = some (.slice a2 ln2 cp2) ∧ cdIn w t (.agg #[.int .i64 o, .slice a ln cp, .slice a2 ln2 cp2]) := by
  cases l with
  | nil => exact absurd rfl hne
  | cons u r =>
    obtain ⟨b, off, -, -, -, rfl, -⟩ := cdsIn_at hx 0 u rfl
    refine ⟨b, off, rfl, fun k t hk => ?_⟩
    obtain ⟨b', off', x0, x1, x2, hoa, c0, c1, c2, hin⟩ := cdsIn_at hx k t hk
    simp only [Option.some.injEq, Addr.mk.injEq, and_true] at hoa
    obtain ⟨rfl, rfl⟩ := hoa
    rw [Nat.zero_add] at c0 c1 c2
    obtain ⟨o, l, m⟩ := t
    have hin' := hin
    rw [cdIn] at hin
    obtain ⟨oa', ob', ca', cb', h1, -⟩ := hin
    simp only [Value.agg.injEq, Array.mk.injEq, List.cons.injEq, and_true] at h1
    obtain ⟨rfl, rfl, rfl⟩ := h1
    exact ⟨_, _, _, _, _, _, _, c0, c1, c2, hin'⟩

/-! 'num.Holds'. -/
mutual
def holdsC (V L : List Int) : Cd → Bool
  | .mk op l r =>
    if op = 1 then true
    else if op = 2 then decide ((evalsE V L l).getD 0 0 < (evalsE V L l).getD 1 0)
    else if op = 3 then decide ((evalsE V L l).getD 0 0 ≤ (evalsE V L l).getD 1 0)
    else if op = 4 then (evalsE V L l).getD 0 0 == (evalsE V L l).getD 1 0
    else if op = 5 then !(holdsCs V L r).getD 0 false
    else if op = 6 then (holdsCs V L r).getD 0 false && (holdsCs V L r).getD 1 false
    else if op = 7 then (holdsCs V L r).getD 0 false || (holdsCs V L r).getD 1 false
    else false
def holdsCs (V L : List Int) : List Cd → List Bool
  | [] => []
  | t :: r => holdsC V L t :: holdsCs V L r
end

theorem holdsCs_length (V L : List Int) : ∀ l, (holdsCs V L l).length = l.length
  | [] => by simp [holdsCs]
  | t :: r => by simp [holdsCs, holdsCs_length V L r]
theorem holdsCs_at (V L : List Int) : ∀ (l : List Cd) (k : Nat) (t : Cd), l[k]? = some t → (holdsCs V L l)[k]? = some (holdsC V L t)
  | [], k, t, h => by simp at h
  | u :: r, 0, t, h => by simp at h; subst h; simp [holdsCs]
  | u :: r, k + 1, t, h => by simp only [holdsCs, List.getElem?_cons_succ]; exact holdsCs_at V L r k t (by simpa using h)

/-- What 'num.Holds' leaves for this condition. -/
def HoldsOk (V L : List Int) (t : Cd) : Prop := ∀ (x vs ls : Value) (w : World), cdIn w t x → intsIn w V vs → intsIn w L ls →
  Calls Try.prog 36 #[x, vs, ls] w fun e w' => e = .returned (.bool (holdsC V L t)) ∧ Below w.heap.size w w'
end Go.Proofs.Ytnholabamjodhaa

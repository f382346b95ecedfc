import Derived.Test.YtfoiadabppnibaaGy
import Derived.Laws.AppendOwn
import Derived.Laws.AppendOwnNone
import Derived.Laws.OwnMore
import Derived.Deep.AppendLies
namespace Go.Proofs.Ytfoiadabppnibaa
open Go.RowKit Go.Instr
set_option linter.unusedVariables false

/-! append of any slice to a row of the call's own. -/
/-- One-cell values in memory. -/
def ValsAt (w : World) (v : Value) (vs : List Value) : Prop := ∃ p c, v = .slice p vs.length c ∧ (p = none → c = 0) ∧ (vs.length ≠ 0 → ∃ b o, p = some ⟨b, o, none⟩ ∧ ∀ i u, vs[i]? = some u → w.cell? ⟨b, o + i, none⟩ = some u)
theorem ValsAt.below {w w' : World} {v : Value} {vs : List Value} (h : ValsAt w v vs) (hb : Below w.heap.size w w') : ValsAt w' v vs := by
  obtain ⟨p, c, rfl, hp, h2⟩ := h
  refine ⟨p, c, rfl, hp, fun h0 => ?_⟩
  obtain ⟨b, o, rfl, h3⟩ := h2 h0
  exact ⟨b, o, rfl, fun i u hi => cell_below hb (h3 i u hi)⟩
def i64s (l : List Int) : List Value := l.map fun z => .int .i64 z
theorem IntsAt.vals {w : World} {v : Value} {l : List Int} (h : IntsAt w v l) : ValsAt w v (i64s l) := by
  obtain ⟨hm, p, c, rfl, hp, h2⟩ := h
  have e : (i64s l).length = l.length := by simp [i64s]
  refine ⟨p, c, by rw [e], hp, fun h0 => ?_⟩
  obtain ⟨b, o, rfl, h3⟩ := h2 (by omega)
  refine ⟨b, o, rfl, fun i u hi => ?_⟩
  have hlt : i < l.length := by have := (List.getElem?_eq_some_iff.1 hi).1; omega
  rw [h3 i hlt, ← hi]
  simp [i64s, List.getD, List.getElem?_eq_getElem hlt]
theorem ValsAt.ints {w : World} {v : Value} {l : List Int} (h : ValsAt w v (i64s l)) (hm : l.length ≤ 1000000) : IntsAt w v l := by
  obtain ⟨p, c, rfl, hp, h2⟩ := h
  have e : (i64s l).length = l.length := by simp [i64s]
  refine ⟨hm, p, c, by rw [e], hp, fun h0 => ?_⟩
  obtain ⟨b, o, rfl, h3⟩ := h2 (by omega)
  refine ⟨b, o, rfl, fun i hi => ?_⟩
  exact h3 i _ (by simp [i64s, List.getD, List.getElem?_eq_getElem hi])
theorem i64sOne (l : List Int) : ∀ v ∈ i64s l, v.oneCell' = true := by
  intro v hv
  obtain ⟨c, -, rfl⟩ := List.mem_map.1 hv
  rfl
theorem owns_vals {w : World} {base : Nat} {e : TypeId} {v : Value} {n : Nat} {xs : List Value} (h : w.ownsRow base e 1 v n xs) : ValsAt w v xs := by
  have hl : xs.length = n := by have := h.1; omega
  rcases h.2 with ⟨rfl, h0⟩ | ⟨g, cap, cur, rfl, -⟩
  · exact ⟨none, 0, by rw [hl, h0], fun _ => rfl, fun h => by omega⟩
  · refine ⟨_, cap, by rw [hl], (fun h => by cases h), fun _ => ⟨g, 0, rfl, fun i u hi => ?_⟩⟩
    have hi2 := (List.getElem?_eq_some_iff.1 hi).1
    rw [Nat.zero_add, h.cellAt i (by omega), hi]

theorem wpList_append_vals {P : Program} {w : World} {ops : Array Oper} {rest : List Oper} {o : Oper} {a : Act} {Q : Exit → Act → World → Prop} (hgd : o.guard = none) (s x : Operand) (t : TypeId)
    (ho : o.op = .call { callee := .builtin .append, args := #[s, x], argTypes := #[t, t] })
    (base : Nat) (e : TypeId) (i : TypeInfo) (z : Value) (bytes : Nat) (ht : P.underlying t = some (.slice e)) (hi : P.info? e = some i) (hz : i.zero = some z)
    (hsize : i.size = 1) (hby : i.bytes = bytes) (hzs : z.cells.size = 1) (hb8 : bytes ≤ 8)
    (v : Value) (n : Nat) (xs : List Value) (hs : a.eval s = v) (hown : w.ownsRow base e 1 v n xs)
    (sv : Value) (vs : List Value) (hx : a.eval x = sv) (hv : ValsAt w sv vs) (h1 : ∀ u ∈ vs, u.oneCell' = true)
    (hsmall : n + vs.length ≤ 2000000) (hbase : base ≤ w.heap.size)
    (h : ∀ v' w', w'.ownsRow base e 1 v' (n + vs.length) (xs ++ vs) → Below base w w' → wpList P ops Q rest (a.put o.dst v') w') : wpList P ops Q (o :: rest) a w := by
  obtain ⟨p, c, rfl, hp, h2⟩ := hv
  cases p with
  | none =>
    obtain rfl := hp rfl
    have h0 : vs.length = 0 := by
      rcases Nat.eq_zero_or_pos vs.length with h' | h'
      · exact h'
      · obtain ⟨b, o, hbo, -⟩ := h2 (by omega)
        cases hbo
    obtain rfl := List.eq_nil_of_length_eq_zero h0
    refine wpList_append_own_none hgd s x t ho base e i 1 ht hi v n xs hs hown hx (h _ _ (by simpa using hown) (Below.refl _ _))
  | some ad =>
    refine wpList_append_own w hgd s x t ho base e i z 1 bytes ht hi hz hsize hby hzs (by omega) v n xs hs hown ad vs.length c vs hx (by simp) ?_ h1 (by unfold maxLen; omega) ?_ hbase ?_
    · intro j u hj
      have hj2 := (List.getElem?_eq_some_iff.1 hj).1
      obtain ⟨b, o, hbo, hc⟩ := h2 (by omega)
      obtain rfl := Option.some.inj hbo
      have e1 : (⟨b, o, none⟩ : Addr).add j = ⟨b, o + j, none⟩ := by first | (simp [Addr.add]; done) | (simp [Addr.add]; omega)
      rw [e1]
      exact hc j u hj
    · exact Nat.le_trans (Nat.mul_le_mul hsmall hb8) (by omega)
    · intro v' w' hown' hg _
      exact h v' w' hown' ((Below.refl base w).grown hg hbase fun k hk => (hown.lt k hk).1)

theorem below_a0 (w : World) (o : Obj) : Below w.heap.size w (w.alloc o) := (Below.refl _ _).alloc (Nat.le_refl _) _
theorem own_new (w : World) (e : TypeId) : (w.alloc (.cells #[] e)).ownsRow w.heap.size e 1 (.slice (some ⟨w.heap.size, 0, none⟩) 0 0) 0 [] := World.ownsRow_lit w #[] 0 (Nat.le_refl _) (by unfold maxLen; omega) rfl
theorem vals_one (w : World) (u : Value) (e : TypeId) : ValsAt (w.alloc (.cells #[u] e)) (.slice (some ⟨w.heap.size, 0, none⟩) 1 1) [u] := by
  refine ⟨_, 1, rfl, (fun h => by cases h), fun _ => ⟨w.heap.size, 0, rfl, fun i x hi => ?_⟩⟩
  have : i = 0 := by
    have := (List.getElem?_eq_some_iff.1 hi).1
    simpa using this
  subst this
  obtain rfl := Option.some.inj hi
  exact blk_cell (heap_new _ _) rfl
theorem infoInt : (Try.prog.info? 3).map (fun i => (i.zero, i.size, i.bytes)) = some (some (.int .i64 0), 1, 8) := by kernel_rfl
theorem infoU8 : (Try.prog.info? 5).map (fun i => (i.zero, i.size, i.bytes)) = some (some (.int .u8 0), 1, 1) := by kernel_rfl

/-- append([]T{}, x..), x not empty. -/
theorem wpList_append_new {P : Program} {w1 : World} {ops : Array Oper} {rest : List Oper} {o : Oper} {a : Act} {Q : Exit → Act → World → Prop} (hgd : o.guard = none) (s x : Operand) (t : TypeId)
    (ho : o.op = .call { callee := .builtin .append, args := #[s, x], argTypes := #[t, t] })
    (e : TypeId) (i : TypeInfo) (z : Value) (bytes : Nat) (ht : P.underlying t = some (.slice e)) (hi : P.info? e = some i) (hz : i.zero = some z)
    (hsize : i.size = 1) (hby : i.bytes = bytes) (hzs : z.cells.size = 1) (hb8 : bytes ≤ 8)
    (w : World) (hw : w1 = w.alloc (.cells #[] e)) (hs : a.eval s = .slice (some ⟨w.heap.size, 0, none⟩) 0 0)
    (sv : Value) (vs : List Value) (hx : a.eval x = sv) (hv : ValsAt w sv vs) (h1 : ∀ u ∈ vs, u.oneCell' = true)
    (hsmall : vs.length ≤ 1000000) (hpos : 0 < vs.length)
    (h : ∀ g cap w', w'.ownsRow w.heap.size e 1 (.slice (some ⟨g, 0, none⟩) vs.length cap) vs.length vs → Below w.heap.size w w' → w.heap.size ≤ g → g < w'.heap.size → wpList P ops Q rest (a.put o.dst (.slice (some ⟨g, 0, none⟩) vs.length cap)) w') : wpList P ops Q (o :: rest) a w1 := by
  subst hw
  refine wpList_append_vals hgd s x t ho w.heap.size e i z bytes ht hi hz hsize hby hzs hb8 _ 0 [] hs (own_new _ _) sv vs hx (hv.below (below_a0 _ _)) h1 (by omega) (by simp) ?_
  intro v' w' hown hb
  rw [Nat.zero_add, List.nil_append] at hown
  obtain ⟨g, cap, rfl, hg1, hg2⟩ := hown.form hpos
  exact h g cap w' hown ((below_a0 w _).trans hb) hg1 hg2

theorem wp_append_new {P : Program} {w1 : World} {o : Oper} {a : Act} {K : Act → World → Prop} {Q : Exit → Act → World → Prop} (s x : Operand) (t : TypeId)
    (ho : o.op = .call { callee := .builtin .append, args := #[s, x], argTypes := #[t, t] })
    (e : TypeId) (i : TypeInfo) (z : Value) (bytes : Nat) (ht : P.underlying t = some (.slice e)) (hi : P.info? e = some i) (hz : i.zero = some z)
    (hsize : i.size = 1) (hby : i.bytes = bytes) (hzs : z.cells.size = 1) (hb8 : bytes ≤ 8)
    (w : World) (hw : w1 = w.alloc (.cells #[] e)) (n0 : Nat) (hn0 : n0 = w.heap.size) (hs : a.eval s = .slice (some ⟨n0, 0, none⟩) 0 0)
    (sv : Value) (vs : List Value) (hx : a.eval x = sv) (hv : ValsAt w sv vs) (h1 : ∀ u ∈ vs, u.oneCell' = true)
    (hsmall : vs.length ≤ 1000000) (hpos : 0 < vs.length)
    (h : ∀ g cap w', w'.ownsRow w.heap.size e 1 (.slice (some ⟨g, 0, none⟩) vs.length cap) vs.length vs → Below w.heap.size w w' → w.heap.size ≤ g → g < w'.heap.size → K (a.put o.dst (.slice (some ⟨g, 0, none⟩) vs.length cap)) w') : o.wp P a w1 K Q := by
  subst hw
  subst hn0
  obtain ⟨p, c, rfl, hp, h2⟩ := hv.below (below_a0 w (.cells #[] e))
  obtain ⟨b, o', rfl, hc⟩ := h2 (by omega)
  refine wp_append_own _ s x t ho w.heap.size e i z 1 bytes ht hi hz hsize hby hzs (by omega) _ 0 [] hs (own_new _ _) ⟨b, o', none⟩ vs.length c vs hx (by simp) ?_ h1 (by unfold maxLen; omega) ?_ (by simp) ?_
  · intro j u hj
    have e1 : (⟨b, o', none⟩ : Addr).add j = ⟨b, o' + j, none⟩ := by first | (simp [Addr.add]; done) | (simp [Addr.add]; omega)
    rw [e1]
    exact hc j u hj
  · exact Nat.le_trans (Nat.mul_le_mul (show 0 + vs.length ≤ 1000000 by omega) hb8) (by omega)
  · intro v' w' hown hg _
    rw [Nat.zero_add, List.nil_append] at hown
    obtain ⟨g, cap, rfl, hg1, hg2⟩ := hown.form hpos
    exact h g cap w' hown ((below_a0 w _).trans ((Below.refl _ _).grown hg (by simp) fun k hk => by simp [Value.ownBlock] at hk; omega)) hg1 hg2
/-- The same at a step of a region that draws its order. -/
theorem step_append_new {P : Program} {ops : Array Oper} {w1 : World} {o : Oper} {a : Act} {K : Act → World → Prop} {Q : Exit → Act → World → Prop} {E : Prop} (hgd : Region.wanted o (yielded ops a.tmps) = true) (s x : Operand) (t : TypeId)
    (ho : o.op = .call { callee := .builtin .append, args := #[s, x], argTypes := #[t, t] })
    (e : TypeId) (i : TypeInfo) (z : Value) (bytes : Nat) (ht : P.underlying t = some (.slice e)) (hi : P.info? e = some i) (hz : i.zero = some z)
    (hsize : i.size = 1) (hby : i.bytes = bytes) (hzs : z.cells.size = 1) (hb8 : bytes ≤ 8)
    (w : World) (hw : w1 = w.alloc (.cells #[] e)) (n0 : Nat) (hn0 : n0 = w.heap.size) (hs : a.eval s = .slice (some ⟨n0, 0, none⟩) 0 0)
    (sv : Value) (vs : List Value) (hx : a.eval x = sv) (hv : ValsAt w sv vs) (h1 : ∀ u ∈ vs, u.oneCell' = true)
    (hsmall : vs.length ≤ 1000000) (hpos : 0 < vs.length)
    (h : ∀ g cap w', w'.ownsRow w.heap.size e 1 (.slice (some ⟨g, 0, none⟩) vs.length cap) vs.length vs → Below w.heap.size w w' → w.heap.size ≤ g → g < w'.heap.size → K (a.put o.dst (.slice (some ⟨g, 0, none⟩) vs.length cap)) w') :
    if Region.wanted o (yielded ops a.tmps) = true then Oper.wp P o a w1 K Q else E := by
  rw [if_pos hgd]
  exact wp_append_new s x t ho e i z bytes ht hi hz hsize hby hzs hb8 w hw n0 hn0 hs sv vs hx hv h1 hsmall hpos h

/-! The same at an operation with a guard that holds. -/
theorem wpList_wanted {P : Program} {ops : Array Oper} {Q : Exit → Act → World → Prop} {a : Act} {w : World} {rest : List Oper} {o : Oper} (hg : Region.wanted o (yielded ops a.tmps) = true)
    (h : ∀ K : Act → World → Prop, (∀ a w, wpList P ops Q rest a w → K a w) → o.wp P a w K Q) : wpList P ops Q (o :: rest) a w :=
  wpList_step fun K hK => by simp only [hg, if_true]; exact h K hK
theorem wpList_append_newg {P : Program} {w1 : World} {ops : Array Oper} {rest : List Oper} {o : Oper} {a : Act} {Q : Exit → Act → World → Prop} (hgd : Region.wanted o (yielded ops a.tmps) = true) (s x : Operand) (t : TypeId)
    (ho : o.op = .call { callee := .builtin .append, args := #[s, x], argTypes := #[t, t] })
    (e : TypeId) (i : TypeInfo) (z : Value) (bytes : Nat) (ht : P.underlying t = some (.slice e)) (hi : P.info? e = some i) (hz : i.zero = some z)
    (hsize : i.size = 1) (hby : i.bytes = bytes) (hzs : z.cells.size = 1) (hb8 : bytes ≤ 8)
    (w : World) (hw : w1 = w.alloc (.cells #[] e)) (hs : a.eval s = .slice (some ⟨w.heap.size, 0, none⟩) 0 0)
    (sv : Value) (vs : List Value) (hx : a.eval x = sv) (hv : ValsAt w sv vs) (h1 : ∀ u ∈ vs, u.oneCell' = true)
    (hsmall : vs.length ≤ 1000000) (hpos : 0 < vs.length)
    (h : ∀ g cap w', w'.ownsRow w.heap.size e 1 (.slice (some ⟨g, 0, none⟩) vs.length cap) vs.length vs → Below w.heap.size w w' → w.heap.size ≤ g → g < w'.heap.size → wpList P ops Q rest (a.put o.dst (.slice (some ⟨g, 0, none⟩) vs.length cap)) w') : wpList P ops Q (o :: rest) a w1 :=
  wpList_wanted hgd fun _ hK => wp_append_new s x t ho e i z bytes ht hi hz hsize hby hzs hb8 w hw _ rfl hs sv vs hx hv h1 hsmall hpos fun g cap w' h2 h3 h4 h5 => hK _ _ (h g cap w' h2 h3 h4 h5)
theorem wpList_append_valsg {P : Program} {w : World} {ops : Array Oper} {rest : List Oper} {o : Oper} {a : Act} {Q : Exit → Act → World → Prop} (hgd : Region.wanted o (yielded ops a.tmps) = true) (s x : Operand) (t : TypeId)
    (ho : o.op = .call { callee := .builtin .append, args := #[s, x], argTypes := #[t, t] })
    (base : Nat) (e : TypeId) (i : TypeInfo) (z : Value) (bytes : Nat) (ht : P.underlying t = some (.slice e)) (hi : P.info? e = some i) (hz : i.zero = some z)
    (hsize : i.size = 1) (hby : i.bytes = bytes) (hzs : z.cells.size = 1) (hb8 : bytes ≤ 8)
    (v : Value) (n : Nat) (xs : List Value) (hs : a.eval s = v) (hown : w.ownsRow base e 1 v n xs)
    (sv : Value) (vs : List Value) (hx : a.eval x = sv) (hv : ValsAt w sv vs) (h1 : ∀ u ∈ vs, u.oneCell' = true)
    (hsmall : n + vs.length ≤ 2000000) (hpos : 0 < vs.length) (hbase : base ≤ w.heap.size)
    (h : ∀ v' w', w'.ownsRow base e 1 v' (n + vs.length) (xs ++ vs) → Below base w w' → wpList P ops Q rest (a.put o.dst v') w') : wpList P ops Q (o :: rest) a w := by
  refine wpList_wanted hgd fun K hK => ?_
  obtain ⟨p, c, rfl, hp, h2⟩ := hv
  obtain ⟨b, o', rfl, hc⟩ := h2 (by omega)
  refine wp_append_own w s x t ho base e i z 1 bytes ht hi hz hsize hby hzs (by omega) v n xs hs hown ⟨b, o', none⟩ vs.length c vs hx (by simp) ?_ h1 (by unfold maxLen; omega) ?_ hbase ?_
  · intro j u hj
    have e1 : (⟨b, o', none⟩ : Addr).add j = ⟨b, o' + j, none⟩ := by first | (simp [Addr.add]; done) | (simp [Addr.add]; omega)
    rw [e1]
    exact hc j u hj
  · exact Nat.le_trans (Nat.mul_le_mul hsmall hb8) (by omega)
  · intro v' w' hown' hg _
    exact hK _ _ (h v' w' hown' ((Below.refl base w).grown hg hbase fun k hk => (hown.lt k hk).1))
end Go.Proofs.Ytfoiadabppnibaa

import Derived.Test.YtcjambgbbmffiaaNe
import Derived.ArgAppend
namespace Go.Proofs.Ytcjambgbbmffiaa
open Go.RowKit Go.Instr
set_option linter.unusedVariables false

/-! append of a list in memory to []int{}: the row is the literal's, or a new one. -/
theorem wp_append_lit {P : Program} {w : World} {o : Oper} {a : Act} {K : Act → World → Prop} {Q : Exit → Act → World → Prop} (s x : Operand) (t : TypeId)
    (ho : o.op = .call { callee := .builtin .append, args := #[s, x], argTypes := #[t, t] })
    (base : Nat) (e : TypeId) (i : TypeInfo) (z : Value) (ht : P.underlying t = some (.slice e)) (hi : P.info? e = some i) (hz : i.zero = some z)
    (hsize : i.size = 1) (hby : i.bytes = 8) (hzs : z.cells.size = 1)
    (xb : Nat) (hs : a.eval s = .slice (some ⟨xb, 0, none⟩) 0 0) (hown : w.ownsRow base e 1 (.slice (some ⟨xb, 0, none⟩) 0 0) 0 [])
    (sv : Value) (l : List Int) (hx : a.eval x = sv) (hv : IntsBig w sv l)
    (hsmall : l.length ≤ 1000000) (hbase : base ≤ w.heap.size)
    (h : ∀ g c w', w'.ownsRow base e 1 (.slice (some ⟨g, 0, none⟩) l.length c) l.length (i64s l) → w.grownBy w' none → (g = xb ∨ w.heap.size ≤ g) → g < w'.heap.size → K (a.put o.dst (.slice (some ⟨g, 0, none⟩) l.length c)) w') : o.wp P a w K Q := by
  obtain ⟨p, c, rfl, c1, c2, hp, h2⟩ := hv
  have hlt : xb < w.heap.size := (hown.lt xb rfl).2
  by_cases h0 : l.length = 0
  · obtain rfl := List.eq_nil_of_length_eq_zero h0
    cases p with
    | none =>
      obtain rfl := hp rfl
      have hrun := run_append_owned_none (P := P) (w := w) base t o.type e i 1 ht hi _ 0 [] hown
      unfold Oper.wp
      simp [execOp, ho, resolve, invoke, builtin, hs, hx, hrun, Result.andThen]
      exact h xb 0 w hown (World.grownBy.refl _ _) (Or.inl rfl) hlt
    | some ad =>
      have hrun := run_append_room_cells (P := P) w t o.type e i ht hi xb 0 0 0 ad 0 c [] (by simp) (by intro j u hj; cases hj) (by intro u hu; cases hu) (Nat.le_refl _) (by intro j hj; cases hj) (by intro j hj; cases hj)
      unfold Oper.wp
      simp [execOp, ho, resolve, invoke, builtin, hs, hx, hrun, Result.andThen]
      exact h xb 0 w hown (World.grownBy.refl _ _) (Or.inl rfl) hlt
  · obtain ⟨b, o', rfl, hc⟩ := h2 h0
    obtain ⟨v', w', hrun, r1, r2⟩ := run_append_arg_grows (P := P) w t o.type e i z 1 8 ht hi hz hsize hby hzs (by omega) ⟨xb, 0, none⟩ 0 0 [] rfl (by intro j u hj; cases hj) ⟨b, o', none⟩ l.length c (i64s l) (by simp [i64s])
      (by
        intro j u hj
        have hj2 := (List.getElem?_eq_some_iff.1 hj).1
        rw [i64s_len] at hj2
        have e1 : (⟨b, o', none⟩ : Addr).add j = ⟨b, o' + j, none⟩ := by first | (simp [Addr.add]; done) | (simp [Addr.add]; omega)
        rw [e1, hc j hj2, ← hj]
        simp [i64s, List.getD, List.getElem?_eq_getElem hj2]) (by omega) (by unfold maxLen; omega) (by omega)
    rw [Nat.zero_add, List.nil_append] at r1
    have hn : v' ≠ .slice none 0 0 := by
      rintro rfl
      rcases r1.2 with ⟨-, hh⟩ | ⟨g, cap, cur, hh, -⟩
      · exact h0 hh
      · cases hh
    obtain ⟨g, cc, rfl, hg1, hg2, -, -⟩ := own_some r1 hn
    unfold Oper.wp
    simp [execOp, ho, resolve, invoke, builtin, hs, hx, hrun, Result.andThen]
    refine h g cc w' ⟨r1.1, ?_⟩ r2 (Or.inr hg1) hg2
    rcases r1.2 with ⟨hh, -⟩ | ⟨g', cap, cur, hh, q1, q2⟩
    · cases hh
    · exact .inr ⟨g', cap, cur, hh, by omega, q2⟩
theorem step_append_lit {P : Program} {w : World} {ops : Array Oper} {o : Oper} {a : Act} {K : Act → World → Prop} {Q : Exit → Act → World → Prop} {E : Prop} (hgd : Region.wanted o (yielded ops a.tmps) = true) (s x : Operand) (t : TypeId)
    (ho : o.op = .call { callee := .builtin .append, args := #[s, x], argTypes := #[t, t] })
    (base : Nat) (e : TypeId) (i : TypeInfo) (z : Value) (ht : P.underlying t = some (.slice e)) (hi : P.info? e = some i) (hz : i.zero = some z)
    (hsize : i.size = 1) (hby : i.bytes = 8) (hzs : z.cells.size = 1)
    (xb : Nat) (hs : a.eval s = .slice (some ⟨xb, 0, none⟩) 0 0) (hown : w.ownsRow base e 1 (.slice (some ⟨xb, 0, none⟩) 0 0) 0 [])
    (sv : Value) (l : List Int) (hx : a.eval x = sv) (hv : IntsBig w sv l)
    (hsmall : l.length ≤ 1000000) (hbase : base ≤ w.heap.size)
    (h : ∀ g c w', w'.ownsRow base e 1 (.slice (some ⟨g, 0, none⟩) l.length c) l.length (i64s l) → w.grownBy w' none → (g = xb ∨ w.heap.size ≤ g) → g < w'.heap.size → K (a.put o.dst (.slice (some ⟨g, 0, none⟩) l.length c)) w') :
    if Region.wanted o (yielded ops a.tmps) = true then Oper.wp P o a w K Q else E := by
  rw [if_pos hgd]
  exact wp_append_lit s x t ho base e i z ht hi hz hsize hby hzs xb hs hown sv l hx hv hsmall hbase h
theorem cell_alloc {w : World} {a : Addr} {v : Value} (o : Obj) (h : w.cell? a = some v) : (w.alloc o).cell? a = some v := (World.cell?_alloc_lt w o a (World.block_lt_of_cell? w a h)).trans h
theorem own_grown {w w' : World} {base g c : Nat} {e : TypeId} {size n : Nat} {xs : List Value} {row : Option Nat} (h : w.ownsRow base e size (.slice (some ⟨g, 0, none⟩) n c) n xs) (hg : w.grownBy w' row) (hne : row ≠ some g) : w'.ownsRow base e size (.slice (some ⟨g, 0, none⟩) n c) n xs :=
  h.kept hg (Or.inr (by simpa [Value.ownBlock] using fun h => hne h.symm))
theorem own_keep {w w' : World} {base g c : Nat} {e : TypeId} {size n : Nat} {xs : List Value} (h : w.ownsRow base e size (.slice (some ⟨g, 0, none⟩) n c) n xs) (hg : w.grownBy w' none) : w'.ownsRow base e size (.slice (some ⟨g, 0, none⟩) n c) n xs :=
  h.kept hg (Or.inr (by simp [Value.ownBlock]))
end Go.Proofs.Ytcjambgbbmffiaa


import Derived.Test.YtchmiaeajkpijaaLv
import Derived.Laws.AppendOwnNone
import Derived.IntWalk
namespace Go.Proofs.Ytchmiaeajkpijaa
open Go.RowKit Go.Instr
set_option linter.unusedVariables false

/-! 'Grown'. -/
/-- A list of numbers in memory, of any length. -/
def U64Big (w : World) (v : Value) (l : List (BitVec 64)) : Prop := ∃ p c, v = .slice p l.length c ∧ l.length ≤ c ∧ c ≤ 9223372036854775807 ∧ (p = none → c = 0) ∧ (l.length ≠ 0 → ∃ b o, p = some ⟨b, o, none⟩ ∧ ∀ i (hi : i < l.length), w.cell? ⟨b, o + i, none⟩ = some (.int .u64 (l[i].toNat : Int)))
theorem U64Big.at_ {w : World} {v : Value} {l : List (BitVec 64)} (h : U64Big w v l) (hm : l.length ≤ 1000000) : U64At w v l := ⟨hm, h⟩
theorem U64At.big {w : World} {v : Value} {l : List (BitVec 64)} (h : U64At w v l) : U64Big w v l := h.2
theorem U64Big.below {w w' : World} {v : Value} {l : List (BitVec 64)} (h : U64Big w v l) (hb : Below w.heap.size w w') : U64Big w' v l := by
  obtain ⟨p, c, rfl, c1, c2, hpn, h2⟩ := h
  refine ⟨p, c, rfl, c1, c2, hpn, fun h0 => ?_⟩
  obtain ⟨b, o, rfl, h3⟩ := h2 h0
  exact ⟨b, o, rfl, fun i hi => cell_below hb (h3 i hi)⟩
def growF (l : List (BitVec 64)) : Nat → List (BitVec 64)
  | 0 => l
  | k + 1 => growF l k ++ [BitVec.ofNat 64 (growF l k).length * 2654435761#64]
theorem growF_len (l : List (BitVec 64)) : ∀ k, (growF l k).length = l.length + k := by
  intro k
  induction k with
  | zero => rfl
  | succ k ih => simp [growF, ih]; omega
def growB (l : List (BitVec 64)) (n : Nat) : List (BitVec 64) := growF (l.take n) (n - (l.take n).length)
theorem growB_len (l : List (BitVec 64)) (n : Nat) : (growB l n).length = n := by
  unfold growB
  rw [growF_len, List.length_take]
  omega
def u64s (l : List (BitVec 64)) : List Value := l.map fun x => .int .u64 (x.toNat : Int)
theorem u64sOne (l : List (BitVec 64)) : ∀ v ∈ u64s l, v.oneCell' = true := by
  intro v hv
  obtain ⟨c, -, rfl⟩ := List.mem_map.1 hv
  rfl
theorem u64s_len (l : List (BitVec 64)) : (u64s l).length = l.length := by simp [u64s]
/-- append of a list in memory to a row of the call's own. -/
theorem wpList_append_u64 {P : Program} {w : World} {ops : Array Oper} {rest : List Oper} {o : Oper} {a : Act} {Q : Exit → Act → World → Prop} (hgd : o.guard = none) (s x : Operand) (t : TypeId)
    (ho : o.op = .call { callee := .builtin .append, args := #[s, x], argTypes := #[t, t] })
    (base : Nat) (e : TypeId) (i : TypeInfo) (z : Value) (ht : P.underlying t = some (.slice e)) (hi : P.info? e = some i) (hz : i.zero = some z)
    (hsize : i.size = 1) (hby : i.bytes = 8) (hzs : z.cells.size = 1)
    (v : Value) (n : Nat) (xs : List Value) (hs : a.eval s = v) (hown : w.ownsRow base e 1 v n xs)
    (sv : Value) (l : List (BitVec 64)) (hx : a.eval x = sv) (hv : U64Big w sv l)
    (hsmall : n + l.length ≤ 2000000) (hbase : base ≤ w.heap.size)
    (h : ∀ v' w', w'.ownsRow base e 1 v' (n + l.length) (xs ++ u64s l) → Below base w w' → wpList P ops Q rest (a.put o.dst v') w') : wpList P ops Q (o :: rest) a w := by
  obtain ⟨p, c, rfl, c1, c2, hp, h2⟩ := hv
  by_cases h0 : l.length = 0
  · obtain rfl := List.eq_nil_of_length_eq_zero h0
    cases p with
    | none =>
      obtain rfl := hp rfl
      exact wpList_append_own_none hgd s x t ho base e i 1 ht hi v n xs hs hown hx (h _ _ (by simpa [u64s] using hown) (Below.refl _ _))
    | some ad =>
      refine wpList_append_own w hgd s x t ho base e i z 1 8 ht hi hz hsize hby hzs (by omega) v n xs hs hown ad 0 c [] hx rfl (by intro j u hj; cases hj) (by intro u hu; cases hu) (by unfold maxLen; simp at hsmall; omega) (by simp at hsmall; omega) hbase ?_
      intro v' w' hown' hg _
      exact h v' w' (by simpa [u64s] using hown') ((Below.refl base w).grown hg hbase fun k hk => (hown.lt k hk).1)
  · obtain ⟨b, o', rfl, hc⟩ := h2 h0
    refine wpList_append_own w hgd s x t ho base e i z 1 8 ht hi hz hsize hby hzs (by omega) v n xs hs hown ⟨b, o', none⟩ l.length c (u64s l) hx (by simp [u64s]) ?_ (u64sOne l) (by unfold maxLen; omega) (by omega) hbase ?_
    · intro j u hj
      have hj2 := (List.getElem?_eq_some_iff.1 hj).1
      rw [u64s_len] at hj2
      have e1 : (⟨b, o', none⟩ : Addr).add j = ⟨b, o' + j, none⟩ := by first | (simp [Addr.add]; done) | (simp [Addr.add]; omega)
      rw [e1, hc j hj2, ← hj]
      simp [u64s, hj2]
    · intro v' w' hown' hg _
      exact h v' w' hown' ((Below.refl base w).grown hg hbase fun k hk => (hown.lt k hk).1)
theorem own_new (w : World) (e : TypeId) : (w.alloc (.cells #[] e)).ownsRow w.heap.size e 1 (.slice (some ⟨w.heap.size, 0, none⟩) 0 0) 0 [] := World.ownsRow_lit w #[] 0 (Nat.le_refl _) (by unfold maxLen; omega) rfl
theorem below_a0 (w : World) (o : Obj) : Below w.heap.size w (w.alloc o) := (Below.refl _ _).alloc (Nat.le_refl _) _
theorem U64Big.pre {w : World} {p : Option Addr} {n c : Nat} {l : List (BitVec 64)} (h : U64Big w (.slice p n c) l) (k : Nat) (hk : k ≤ l.length) : U64Big w (.slice p k c) (l.take k) := by
  obtain ⟨p', c', e, c1, c2, hpn, h2⟩ := h
  simp only [Value.slice.injEq] at e
  obtain ⟨rfl, rfl, rfl⟩ := e
  have hl : (l.take k).length = k := by rw [List.length_take]; omega
  refine ⟨_, _, by rw [hl], by omega, c2, hpn, fun h0 => ?_⟩
  obtain ⟨b, o, rfl, h3⟩ := h2 (by omega)
  refine ⟨b, o, rfl, fun i hi => ?_⟩
  rw [h3 i (by omega)]
  simp
theorem own_form {w : World} {base n : Nat} {e : TypeId} {v : Value} {xs : List Value} (h : w.ownsRow base e 1 v n xs) : ∃ p c, v = .slice p n c := by
  rcases h.2 with ⟨rfl, h0⟩ | ⟨g, cap, cur, rfl, -⟩
  · subst h0; exact ⟨_, _, rfl⟩
  · exact ⟨_, _, rfl⟩
theorem one_cell (W : World) (v : Value) (t : TypeId) : ∀ (j : Nat) (u : Value), [v][j]? = some u → (W.alloc (.cells #[v] t)).cell? ((⟨W.heap.size, 0, none⟩ : Addr).add j) = some u := cell_one_new W v t
theorem ret_slice {p : Option Addr} {n n' c : Nat} (h : n = n') : Ending.returned (.slice p n c) = .returned (.slice p n' c) := by rw [h]
theorem one_val (x : Int) : ∀ u ∈ [Value.int .u64 x], u.oneCell' = true := by intro u hu; obtain rfl := List.mem_singleton.1 hu; simp [Value.oneCell']
def lenOf : Value → Nat
  | .slice _ n _ => n
  | _ => 0
theorem min_or (a b : Nat) : Nat.min a b = a ∨ Nat.min a b = b := by
  rcases Nat.le_total a b with h | h
  · exact Or.inl (Nat.min_eq_left h)
  · exact Or.inr (Nat.min_eq_right h)
theorem grow_num (k : Nat) (h : k ≤ 5000) : (k : Int) * 2654435761 = ((BitVec.ofNat 64 k * 2654435761#64).toNat : Int) := by
  rw [show (k : Int) * 2654435761 = IntKind.u64.wrap ((k : Int) * 2654435761) by rw [IntKind.wrap_u64]; omega]
  rw [show (k : Int) = ((BitVec.ofNat 64 k).toNat : Int) from lenV k (by omega)]
  exact mulV _ 2654435761#64
-- CASES
end Go.Proofs.Ytchmiaeajkpijaa

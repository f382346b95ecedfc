import Derived.Test.YtffcnkkgbhhfnaaGreatDoorRbm
import Derived.OwnWalk
import Derived.Laws.AppendOwn
import Derived.Laws.AppendOwnNone
import Derived.Laws.OwnMore
import Derived.Deep.AppendLies
import Derived.Deep.RegionHeld3
namespace Go.Proofs.YtffcnkkgbhhfnaaGreatDoor
open Go.RowKit Go.Instr
set_option linter.unusedVariables false

/-! Rows of integers that a call makes. -/
theorem heap_new (w : World) (o : Obj) : (w.alloc o).heap[w.heap.size]? = some o := (MapKept.heap_alloc w o).1
theorem blk_cell {w : World} {b j : Nat} {cs : Array Value} {t : TypeId} (h : w.heap[b]? = some (.cells cs t (0, 0))) {v : Value} (hj : cs[j]? = some v) : w.cell? ⟨b, j, none⟩ = some v := by simp [World.cell?, h, hj]
theorem below_a0 (w : World) (o : Obj) : Below w.heap.size w (w.alloc o) := (Below.refl _ _).alloc (Nat.le_refl _) _
theorem own_below {w w' : World} {base : Nat} {e : TypeId} {size : Nat} {v : Value} {n : Nat} {xs : List Value} (h : w.ownsRow base e size v n xs) (hb : Below w.heap.size w w') : w'.ownsRow base e size v n xs := by
  refine ⟨h.1, ?_⟩
  rcases h.2 with hn | ⟨g, cap, cur, rfl, h1, h2, rest⟩
  · exact .inl hn
  · exact .inr ⟨g, cap, cur, rfl, h1, (hb.block g (Array.getElem?_eq_some_iff.1 h2).1).trans h2, rest⟩
theorem own_base {w : World} {base base' : Nat} {e : TypeId} {size : Nat} {v : Value} {n : Nat} {xs : List Value} (h : w.ownsRow base' e size v n xs) (hb : base ≤ base') : w.ownsRow base e size v n xs := by
  refine ⟨h.1, ?_⟩
  rcases h.2 with hn | ⟨g, cap, cur, rfl, h1, rest⟩
  · exact .inl hn
  · exact .inr ⟨g, cap, cur, rfl, by omega, rest⟩
def ValsAt (w : World) (v : Value) (vs : List Value) : Prop := ∃ p c, v = .slice p vs.length c ∧ (p = none → c = 0) ∧ (vs.length ≠ 0 → ∃ b o, p = some ⟨b, o, none⟩ ∧ ∀ i u, vs[i]? = some u → w.cell? ⟨b, o + i, none⟩ = some u)
theorem ValsAt.below {w w' : World} {v : Value} {vs : List Value} (h : ValsAt w v vs) (hb : Below w.heap.size w w') : ValsAt w' v vs := by
  obtain ⟨p, c, rfl, hp, h2⟩ := h
  refine ⟨p, c, rfl, hp, fun h0 => ?_⟩
  obtain ⟨b, o, rfl, h3⟩ := h2 h0
  exact ⟨b, o, rfl, fun i u hi => cell_below hb (h3 i u hi)⟩
theorem owns_vals {w : World} {base : Nat} {e : TypeId} {v : Value} {n : Nat} {xs : List Value} (h : w.ownsRow base e 1 v n xs) : ValsAt w v xs := by
  have hl : xs.length = n := by have := h.1; omega
  rcases h.2 with ⟨rfl, h0⟩ | ⟨g, cap, cur, rfl, -⟩
  · exact ⟨none, 0, by rw [hl, h0], fun _ => rfl, fun h => by omega⟩
  · refine ⟨_, cap, by rw [hl], (fun h => by cases h), fun _ => ⟨g, 0, rfl, fun i u hi => ?_⟩⟩
    have hi2 := (List.getElem?_eq_some_iff.1 hi).1
    rw [Nat.zero_add, h.cellAt i (by omega), hi]

theorem wpList_append_vals {P : Program} {w : World} {ops : Array Oper} {rest : List Oper} {o : Oper} {a : Act} {Q : Exit → Act → World → Prop} (hgd : o.guard = none) (s x : Operand) (t : TypeId)
    (ho : o.op = .call { callee := .builtin .append, args := #[s, x], argTypes := #[t, t] })
    (base : Nat) (e : TypeId) (i : TypeInfo) (z : Value) (bytes : Nat) (ht : P.underlying t = some (.slice e)) (hi : P.info? e = some i) (hz : i.zero = some z)
    (hsize : i.size = 1) (hby : i.bytes = bytes) (hzs : z.cells.size = 1) (hb8 : bytes ≤ 8)
    (v : Value) (n : Nat) (xs : List Value) (hs : a.eval s = v) (hown : w.ownsRow base e 1 v n xs)
    (sv : Value) (vs : List Value) (hx : a.eval x = sv) (hv : ValsAt w sv vs) (h1 : ∀ u ∈ vs, u.oneCell' = true)
    (hsmall : n + vs.length ≤ 2000000) (hbase : base ≤ w.heap.size)
    (h : ∀ v' w', w'.ownsRow base e 1 v' (n + vs.length) (xs ++ vs) → Below base w w' → wpList P ops Q rest (a.put o.dst v') w') : wpList P ops Q (o :: rest) a w := by
  obtain ⟨p, c, rfl, hp, h2⟩ := hv
  cases p with
  | none =>
    obtain rfl := hp rfl
    have h0 : vs.length = 0 := by
      rcases Nat.eq_zero_or_pos vs.length with h' | h'
      · exact h'
      · obtain ⟨b, o, hbo, -⟩ := h2 (by omega)
        cases hbo
    obtain rfl := List.eq_nil_of_length_eq_zero h0
    refine wpList_append_own_none hgd s x t ho base e i 1 ht hi v n xs hs hown hx (h _ _ (by simpa using hown) (Below.refl _ _))
  | some ad =>
    refine wpList_append_own w hgd s x t ho base e i z 1 bytes ht hi hz hsize hby hzs (by omega) v n xs hs hown ad vs.length c vs hx (by simp) ?_ h1 (by unfold maxLen; omega) ?_ hbase ?_
    · intro j u hj
      have hj2 := (List.getElem?_eq_some_iff.1 hj).1
      obtain ⟨b, o, hbo, hc⟩ := h2 (by omega)
      obtain rfl := Option.some.inj hbo
      have e1 : (⟨b, o, none⟩ : Addr).add j = ⟨b, o + j, none⟩ := by first | (simp [Addr.add]; done) | (simp [Addr.add]; omega)
      rw [e1]
      exact hc j u hj
    · exact Nat.le_trans (Nat.mul_le_mul hsmall hb8) (by omega)
    · intro v' w' hown' hg _
      exact h v' w' hown' ((Below.refl base w).grown hg hbase fun k hk => (hown.lt k hk).1)

theorem own_new (w : World) (e : TypeId) : (w.alloc (.cells #[] e)).ownsRow w.heap.size e 1 (.slice (some ⟨w.heap.size, 0, none⟩) 0 0) 0 [] := World.ownsRow_lit w #[] 0 (Nat.le_refl _) (by unfold maxLen; omega) rfl
theorem vals_one (w : World) (u : Value) (e : TypeId) : ValsAt (w.alloc (.cells #[u] e)) (.slice (some ⟨w.heap.size, 0, none⟩) 1 1) [u] := by
  refine ⟨_, 1, rfl, (fun h => by cases h), fun _ => ⟨w.heap.size, 0, rfl, fun i x hi => ?_⟩⟩
  have : i = 0 := by
    have := (List.getElem?_eq_some_iff.1 hi).1
    simpa using this
  subst this
  obtain rfl := Option.some.inj hi
  exact blk_cell (heap_new _ _) rfl
theorem infoInt : (Tryz.prog.info? 3).map (fun i => (i.zero, i.size, i.bytes)) = some (some (.int .i64 0), 1, 8) := by kernel_rfl
/-- A list of bits in memory. -/
def natsV (l : List Nat) : List Value := l.map fun (n : Nat) => .int .i64 (n : Int)
theorem natsV_one (l : List Nat) : ∀ u ∈ natsV l, u.oneCell' = true := by
  intro u hu
  obtain ⟨n, -, rfl⟩ := List.mem_map.1 hu
  rfl
theorem natsV_len (l : List Nat) : (natsV l).length = l.length := by simp [natsV]
def BitsAt (w : World) (v : Value) (l : List Nat) : Prop := ∃ p c, v = .slice p l.length c ∧ l.length ≤ c ∧ c ≤ 9223372036854775807 ∧ (p = none → c = 0) ∧ (l.length ≠ 0 → ∃ b o, p = some ⟨b, o, none⟩ ∧ ∀ i, i < l.length → w.cell? ⟨b, o + i, none⟩ = some (.int .i64 ((l.getD i 0 : Nat) : Int)))
theorem BitsAt.below {w w' : World} {v : Value} {l : List Nat} (h : BitsAt w v l) (hb : Below w.heap.size w w') : BitsAt w' v l := by
  obtain ⟨p, c, rfl, h1, h2, h3, h4⟩ := h
  refine ⟨p, c, rfl, h1, h2, h3, fun h0 => ?_⟩
  obtain ⟨b, o, rfl, h5⟩ := h4 h0
  exact ⟨b, o, rfl, fun i hi => cell_below hb (h5 i hi)⟩
theorem BitsAt.vals {w : World} {v : Value} {l : List Nat} (h : BitsAt w v l) : ValsAt w v (natsV l) := by
  obtain ⟨p, c, rfl, h1, h2, h3, h4⟩ := h
  refine ⟨p, c, by rw [natsV_len], h3, fun h0 => ?_⟩
  rw [natsV_len] at h0
  obtain ⟨b, o, rfl, h5⟩ := h4 h0
  refine ⟨b, o, rfl, fun i u hu => ?_⟩
  have hi := (List.getElem?_eq_some_iff.1 hu).1
  rw [natsV_len] at hi
  rw [h5 i hi, ← hu]
  simp [natsV, List.getD, List.getElem?_eq_getElem hi]
theorem bits_owned {w : World} {base : Nat} {e : TypeId} {v : Value} {n : Nat} {l : List Nat} (h : w.ownsRow base e 1 v n (natsV l)) : BitsAt w v l := by
  have hl : l.length = n := by have := h.1; rw [natsV_len] at this; omega
  have hv := owns_vals h
  rcases h.2 with ⟨rfl, h0⟩ | ⟨g, cap, cur, rfl, q1, q2, q3, q4⟩
  · have : l = [] := List.eq_nil_of_length_eq_zero (by omega)
    subst this
    exact ⟨none, 0, rfl, Nat.le_refl _, by omega, fun _ => rfl, fun h => absurd rfl h⟩
  · obtain ⟨p', c', e1, hp, h2⟩ := hv
    simp only [Value.slice.injEq] at e1
    obtain ⟨rfl, -, rfl⟩ := e1
    refine ⟨_, cap, by rw [hl], by omega, by have := q4.1; unfold maxLen at this; omega, (fun h => by cases h), fun h0 => ?_⟩
    obtain ⟨b, o, hbo, hc⟩ := h2 (by rw [natsV_len]; exact h0)
    refine ⟨b, o, hbo, fun i hi => ?_⟩
    rw [hc i (.int .i64 ((l.getD i 0 : Nat) : Int)) (by simp [natsV, List.getD, List.getElem?_eq_getElem hi])]
/-- No cell of the row lies below a block. -/
def Past (B : Nat) (v : Value) : Prop := ∀ p n c, v = .slice (some p) n c → B ≤ p.block
theorem Past.mono {B B' : Nat} {v : Value} (h : Past B v) (hb : B' ≤ B) : Past B' v := fun p n c e => Nat.le_trans hb (h p n c e)
theorem past_owned {w : World} {base : Nat} {e : TypeId} {v : Value} {n : Nat} {xs : List Value} (h : w.ownsRow base e 1 v n xs) : Past base v := by
  rintro p k c rfl
  rcases h.2 with ⟨h0, -⟩ | ⟨g, cap, cur, h0, q1, -⟩
  · cases h0
  · simp only [Value.slice.injEq, Option.some.injEq] at h0
    obtain ⟨rfl, -, -⟩ := h0
    exact q1
theorem BitsAt.set {w : World} {B : Nat} {v : Value} {l : List Nat} (h : BitsAt w v l) (hp : Past (B + 1) v) (o : Nat) (x : Value) : BitsAt (w.setCell ⟨B, o, none⟩ x) v l := by
  obtain ⟨p, c, rfl, h1, h2, h3, h4⟩ := h
  refine ⟨p, c, rfl, h1, h2, h3, fun h0 => ?_⟩
  obtain ⟨b, o', rfl, h5⟩ := h4 h0
  have hb := hp _ _ _ rfl
  simp only at hb
  refine ⟨b, o', rfl, fun i hi => ?_⟩
  rw [World.cell?_setCell_far _ _ _ _ (show B ≠ b by omega)]
  exact h5 i hi
theorem lit_one (w : World) (x : Value) (e : TypeId) : (w.alloc (.cells #[x] e)).ownsRow w.heap.size e 1 (.slice (some ⟨w.heap.size, 0, none⟩) 1 1) 1 [x] := World.ownsRow_lit w #[x] 1 (Nat.le_refl _) (by unfold maxLen; omega) rfl
theorem natsV_snoc (l : List Nat) (x : Nat) : natsV l ++ [.int .i64 (x : Int)] = natsV (l ++ [x]) := by simp [natsV]
theorem natsV_append (l m : List Nat) : natsV l ++ natsV m = natsV (l ++ m) := by simp [natsV]
end Go.Proofs.YtffcnkkgbhhfnaaGreatDoor

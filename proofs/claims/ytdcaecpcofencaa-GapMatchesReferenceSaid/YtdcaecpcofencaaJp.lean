import Derived.Test.YtdcaecpcofencaaJn
import Derived.Deep.AppendLies
namespace Go.Proofs.Ytdcaecpcofencaa
open Go.RowKit Go.Instr Go.Deep
set_option maxRecDepth 100000
set_option linter.unusedVariables false
set_option linter.unusedSimpArgs false

/-! Gaps that are made by append. -/
theorem form_of {w : World} {base : Nat} {e : TypeId} {v : Value} {n : Nat} {xs : List Value} (h : w.ownsRow base e 1 v n xs) (hv : v ≠ .slice none 0 0) :
    ∃ g cap cur, v = .slice (some ⟨g, 0, none⟩) n cap ∧ base ≤ g ∧ w.heap[g]? = some (.cells cur e (0, 0)) ∧ ∀ i, i < n → cur[i]? = xs[i]? := by
  rcases h.2 with ⟨h1, -⟩ | ⟨g, cap, cur, h1, h2, h3, h4, h5, h6, h7⟩
  · exact absurd h1 hv
  · refine ⟨g, cap, cur, h1, h2, h3, fun i hi => ?_⟩
    rw [← h7, List.getElem?_take]
    rw [if_pos (by omega)]
    simp
/-- Rows at the head of a loop that makes gaps by append. -/
structure NewP (w wr : World) (m k : Nat) (v : Value) (F : Nat → Nat → Int) (xs : List Value) (R C : Nat → Nat) : Prop where
  nn : v ≠ .slice none 0 0
  own : wr.ownsRow w.heap.size 22 1 v k xs
  hd : ∀ i, i < k → xs[i]? = some (.slice (some ⟨R i, 0, none⟩) m (C i))
  row : ∀ i, i < k → w.heap.size ≤ R i ∧ ∃ cs, wr.heap[R i]? = some (.cells cs 3 (0, 0)) ∧ ∀ j, j < m → cs[j]? = some (.int .i64 (F i j))
  inj : ∀ i j, i < k → j < k → R i = R j → i = j
  bel : Below w.heap.size w wr
def NewO (w wr : World) (m k : Nat) (v : Value) (F : Nat → Nat → Int) : Prop := ∃ (xs : List Value) (R C : Nat → Nat), NewP w wr m k v F xs R C
/-- One row. -/
structure NewQ (wo wi : World) (j : Nat) (s : Value) (F : Nat → Int) (ys : List Value) : Prop where
  nn : s ≠ .slice none 0 0
  own : wi.ownsRow wo.heap.size 3 1 s j ys
  val : ∀ i, i < j → ys[i]? = some (.int .i64 (F i))
  bel : Below wo.heap.size wo wi
def NewI (wo wi : World) (j : Nat) (s : Value) (F : Nat → Int) : Prop := ∃ ys : List Value, NewQ wo wi j s F ys
theorem NewO.start (w : World) (m : Nat) (F : Nat → Nat → Int) : NewO w (w.alloc (.cells #[] 22)) m 0 (.slice (some ⟨w.heap.size, 0, none⟩) 0 0) F :=
  ⟨[], fun _ => 0, fun _ => 0, by simp, World.ownsRow_lit w #[] 0 (Nat.le_refl _) (by unfold maxLen; omega) rfl, fun i hi => by omega, fun i hi => by omega, fun i j hi => by omega, below_al _ _⟩
theorem NewI.start (w : World) (F : Nat → Int) : NewI w (w.alloc (.cells #[] 3)) 0 (.slice (some ⟨w.heap.size, 0, none⟩) 0 0) F :=
  ⟨[], by simp, World.ownsRow_lit w #[] 0 (Nat.le_refl _) (by unfold maxLen; omega) rfl, fun i hi => by omega, below_al _ _⟩
theorem own_keep {w w' : World} {base n : Nat} {e : TypeId} {v : Value} {xs : List Value} (h : w.ownsRow base e 1 v n xs) (hk : ∀ g, g < w.heap.size → w'.heap[g]? = w.heap[g]?) : w'.ownsRow base e 1 v n xs := by
  refine ⟨h.1, ?_⟩
  rcases h.2 with h | ⟨g', cap', cur, q1, q2, q3, q4⟩
  · exact .inl h
  · exact .inr ⟨g', cap', cur, q1, q2, (hk g' (lt_of_blk q3)).trans q3, q4⟩
theorem NewP.keep {w wr wr' : World} {m k : Nat} {v : Value} {F : Nat → Nat → Int} {xs : List Value} {R C : Nat → Nat} (h : NewP w wr m k v F xs R C) (hb : Below wr.heap.size wr wr') : NewP w wr' m k v F xs R C :=
  ⟨h.nn, own_keep h.own hb.block, h.hd, fun i hi => by
    obtain ⟨q1, cs, q2, q3⟩ := h.row i hi
    exact ⟨q1, cs, (hb.block _ (lt_of_blk q2)).trans q2, q3⟩, h.inj, stepA h.bel hb⟩
/-- A number was appended. -/
theorem NewQ.step {wo wi w' : World} {j : Nat} {s v' : Value} {F : Nat → Int} {ys : List Value} (h : NewQ wo wi j s F ys) (o : Obj) {x : Int} (hx : x = F j) (ho : w'.ownsRow wo.heap.size 3 1 v' (j + 1) (ys ++ [.int .i64 x])) (hg : (wi.alloc o).grownBy w' s.ownBlock) (hv : v' ≠ .slice none 0 0) : NewI wo w' (j + 1) v' F := by
  refine ⟨_, hv, ho, fun i hi => ?_, (h.bel.alloc h.bel.size _).grown hg (by have := h.bel.size; simp; omega) (fun k hk => (h.own.lt k hk).1)⟩
  have hl : ys.length = j := by have := h.own.1; omega
  by_cases e : i = j
  · subst e
    rw [List.getElem?_append_right (by omega), hl, hx]
    simp
  · rw [List.getElem?_append_left (by omega)]
    exact h.val i (by omega)
/-- A row was appended. -/
theorem NewP.step {w wo wi w' : World} {m k : Nat} {v v' s : Value} {F : Nat → Nat → Int} {G : Nat → Int} {xs ys : List Value} {R C : Nat → Nat} (h : NewP w wo m k v F xs R C) (hi : NewQ wo wi m s G ys) (hG : ∀ j, j < m → G j = F k j) (o : Obj)
    (ho : w'.ownsRow w.heap.size 22 1 v' (k + 1) (xs ++ [s])) (hg : (wi.alloc o).grownBy w' v.ownBlock) (hv : v' ≠ .slice none 0 0) : NewO w w' m (k + 1) v' F := by
  have hP := h.keep hi.bel
  obtain ⟨g2, cap2, cur2, rfl, q2, q3, q4⟩ := form_of hi.own hi.nn
  obtain ⟨gv, capv, curv, rfl, p2, p3, p4⟩ := form_of hP.own hP.nn
  have hl : xs.length = k := by have := h.own.1; omega
  have far : ∀ (g : Nat) (cs : Array Value), wi.heap[g]? = some (Obj.cells cs 3 (0, 0)) → w'.heap[g]? = some (Obj.cells cs 3 (0, 0)) := by
    intro g cs hh
    have hlt := lt_of_blk hh
    refine (hg.block g (by simp; omega) (fun e => ?_)).trans ((blk_alloc_lt _ _ _ hlt).trans hh)
    simp only [Value.ownBlock, Option.some.injEq] at e
    rw [e, p3] at hh
    injection hh with hh
    injection hh with _ ht
    exact absurd ht (by decide)
  refine ⟨_, fun i => if i = k then g2 else R i, fun i => if i = k then cap2 else C i, hv, ho, fun i hi' => ?_, fun i hi' => ?_, fun i j hi' hj' => ?_, (hP.bel.alloc hP.bel.size _).grown hg (by have := hP.bel.size; simp; omega) (fun b hb => (hP.own.lt b hb).1)⟩
  · by_cases e : i = k
    · subst e
      rw [List.getElem?_append_right (by omega), hl]
      simp
    · rw [List.getElem?_append_left (by omega), h.hd i (by omega)]
      simp [e]
  · by_cases e : i = k
    · simp only [if_pos e]
      refine ⟨Nat.le_trans h.bel.size q2, cur2, far _ _ q3, fun j hj => ?_⟩
      rw [q4 j hj, hi.val j hj, e, hG j hj]
    · simp only [if_neg e]
      obtain ⟨r1, cs, r2, r3⟩ := hP.row i (by omega)
      exact ⟨r1, cs, far _ _ r2, r3⟩
  · by_cases e : i = k
    · by_cases e2 : j = k
      · intro _; omega
      · simp only [if_pos e, if_neg e2]
        intro e3
        obtain ⟨-, cs, r2, -⟩ := h.row j (by omega)
        have := lt_of_blk r2
        omega
    · by_cases e2 : j = k
      · simp only [if_neg e, if_pos e2]
        intro e3
        obtain ⟨-, cs, r2, -⟩ := h.row i (by omega)
        have := lt_of_blk r2
        omega
      · simp only [if_neg e, if_neg e2]
        exact h.inj i j (by omega) (by omega)
theorem NewO.done {w w' : World} {m n : Nat} {v : Value} {F : Nat → Nat → Int} (h : NewO w w' m n v F) : GrRet w.heap.size n m F w (.returned v) w' := by
  obtain ⟨xs, R, C, h⟩ := h
  obtain ⟨g, cap, cur, rfl, q2, q3, q4⟩ := form_of h.own h.nn
  exact ⟨g, cap, R, C, rfl, ⟨q2, ⟨cur, q3, fun i hi => by rw [q4 i hi, h.hd i hi]⟩, fun i hi => h.row i hi, h.inj⟩, h.bel⟩
/-- append of one value. -/
theorem wpList_append_one {P : Program} {w : World} {ops : Array Oper} {rest : List Oper} {o : Oper} {a : Act} {Q : Exit → Act → World → Prop} (hgd : o.guard = none) (s x : Operand) (t : TypeId)
    (ho : o.op = .call { callee := .builtin .append, args := #[s, x], argTypes := #[t, t] })
    (base : Nat) (e : TypeId) (i : TypeInfo) (z : Value) (bytes : Nat) (ht : P.underlying t = some (.slice e)) (hi : P.info? e = some i) (hz : i.zero = some z)
    (hsize : i.size = 1) (hby : i.bytes = bytes) (hzs : z.cells.size = 1) (hb24 : bytes ≤ 24)
    (v : Value) (n : Nat) (xs : List Value) (hs : a.eval s = v) (hown : w.ownsRow base e 1 v n xs) (hv : v ≠ .slice none 0 0)
    (q : Nat) (u : Value) (hx : a.eval x = .slice (some ⟨q, 0, none⟩) 1 1) (hc : w.cell? ⟨q, 0, none⟩ = some u) (h1 : u.oneCell' = true)
    (hsmall : n ≤ 1000000) (hbase : base ≤ w.heap.size)
    (h : ∀ v' w', w'.ownsRow base e 1 v' (n + 1) (xs ++ [u]) → w.grownBy w' v.ownBlock → v' ≠ .slice none 0 0 → wpList P ops Q rest (a.put o.dst v') w') : wpList P ops Q (o :: rest) a w := by
  refine wpList_append_own w hgd s x t ho base e i z 1 bytes ht hi hz hsize hby hzs (by omega) v n xs hs hown ⟨q, 0, none⟩ 1 1 [u] hx rfl ?_ (by intro y hy; rw [List.mem_singleton] at hy; rw [hy]; exact h1) (by unfold maxLen; omega) (Nat.le_trans (Nat.mul_le_mul (show n + 1 ≤ 1000001 by omega) hb24) (by omega)) hbase ?_
  · intro j y hy
    have hj : j = 0 := by have := (List.getElem?_eq_some_iff.1 hy).1; simpa using this
    subst hj
    obtain rfl := Option.some.inj hy
    simpa [Addr.add] using hc
  · intro v' w' h2 h3 h4
    exact h v' w' h2 h3 (fun e => hv (h4.1 e).1)
/-- append of a row of numbers to an empty literal. -/
theorem wpList_append_row {P : Program} {w : World} {ops : Array Oper} {rest : List Oper} {o : Oper} {a : Act} {Q : Exit → Act → World → Prop} (hgd : o.guard = none) (s x : Operand) (t : TypeId)
    (ho : o.op = .call { callee := .builtin .append, args := #[s, x], argTypes := #[t, t] })
    (i : TypeInfo) (z : Value) (ht : P.underlying t = some (.slice 3)) (hi : P.info? 3 = some i) (hz : i.zero = some z)
    (hsize : i.size = 1) (hby : i.bytes = 8) (hzs : z.cells.size = 1) {wo : World}
    (v : Value) (hs : a.eval s = v) (F : Nat → Int) (hI : NewI wo w 0 v F)
    (r m c : Nat) (hx : a.eval x = .slice (some ⟨r, 0, none⟩) m c) (hc : ∀ j, j < m → w.cell? ⟨r, j, none⟩ = some (.int .i64 (F j))) (hm : m ≤ 65536)
    (h : ∀ v' w', NewI wo w' m v' F → wpList P ops Q rest (a.put o.dst v') w') : wpList P ops Q (o :: rest) a w := by
  obtain ⟨ys, hq⟩ := hI
  have hys : ys = [] := List.eq_nil_of_length_eq_zero (by have := hq.own.1; omega)
  subst hys
  refine wpList_append_own w hgd s x t ho wo.heap.size _ i z 1 8 ht hi hz hsize hby hzs (by omega) v 0 [] hs hq.own ⟨r, 0, none⟩ m c ((List.range m).map fun j => .int .i64 (F j)) hx (by simp) ?_ (by intro y hy; obtain ⟨j, -, rfl⟩ := List.mem_map.1 hy; rfl) (by unfold maxLen; omega) (by omega) hq.bel.size ?_
  · intro j y hy
    have hj : j < m := by have := (List.getElem?_eq_some_iff.1 hy).1; simpa using this
    simp [hj] at hy
    subst hy
    have e1 : (⟨r, 0, none⟩ : Addr).add j = ⟨r, j, none⟩ := by first | (simp [Addr.add]; done) | (simp [Addr.add]; omega)
    rw [e1]
    exact hc j hj
  · intro v' w' h2 h3 h4
    rw [Nat.zero_add, List.nil_append] at h2
    exact h v' w' ⟨_, fun e => hq.nn (h4.1 e).1, h2, fun j hj => by simp [hj], hq.bel.grown h3 hq.bel.size (fun k hk => (hq.own.lt k hk).1)⟩
end Go.Proofs.Ytdcaecpcofencaa

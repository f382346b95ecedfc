import Derived.Test.YtchmiaeajkpijaaLq
namespace Go.Proofs.Ytchmiaeajkpijaa
open Go.RowKit Go.Shelf
attribute [local go_sem] Oper.semAt_some
set_option linter.unusedVariables false

/-! The iterator 'pairs(n, i, o)'. -/
theorem below_grown {W W' : World} (h : Below W.heap.size W W') : W.grownBy W' none := ⟨h.os, h.tape, h.output, h.size, fun k hk _ => h.block k hk⟩
theorem Bears.of_below {β : Type} {B K : Nat} {J : β → World → Prop} (h : Bears B K J) {s : β} {W W' : World} (hs : J s W) (hb : Below W.heap.size W W') : J s W' := h s W W' none hs (below_grown hb) (fun r e => by cases e)
theorem Bears.set {β : Type} {B K : Nat} {J : β → World → Prop} (h : Bears B K J) {s : β} {W : World} (b : Nat) (v : Value) (hs : J s W) (h1 : B ≤ b) (h2 : b < B + K) : J s (W.setCell ⟨b, 0, none⟩ v) := h s W _ (some b) hs (grownBy_setCell' W b v) (fun r e => by cases e; exact ⟨h1, .inr h2⟩)
/-- A list of numbers in a block of G. -/
def U64G (w : World) (G : Nat → Prop) (v : Value) (l : List (BitVec 64)) : Prop := l.length ≤ 1000000 ∧ ∃ p c, v = .slice p l.length c ∧ l.length ≤ c ∧ c ≤ 9223372036854775807 ∧ (p = none → c = 0) ∧ (l.length ≠ 0 → ∃ b o cs t fz, p = some ⟨b, o, none⟩ ∧ G b ∧ w.heap[b]? = some (.cells cs t fz) ∧ ∀ i (hi : i < l.length), w.cell? ⟨b, o + i, none⟩ = some (.int .u64 (l[i].toNat : Int)))
theorem U64G.at_ {w w' : World} {G : Nat → Prop} {v : Value} {l : List (BitVec 64)} (h : U64G w G v l) (hk : ∀ g o, G g → w.heap[g]? = some o → w'.heap[g]? = some o) : U64At w' v l := by
  obtain ⟨hm, p, c, rfl, c1, c2, hpn, h2⟩ := h
  refine ⟨hm, p, c, rfl, c1, c2, hpn, fun h0 => ?_⟩
  obtain ⟨b, o, cs, t, fz, rfl, hg, hh, h3⟩ := h2 h0
  refine ⟨b, o, rfl, fun i hi => ?_⟩
  rw [← h3 i hi]
  exact World.cell?_of_block ((hk b _ hg hh).trans hh.symm)
theorem U64At.in_ {w : World} {v : Value} {l : List (BitVec 64)} (h : U64At w v l) (G : Nat → Prop) (hG : ∀ b o n c, v = .slice (some ⟨b, o, none⟩) n c → n ≠ 0 → G b) : U64G w G v l := by
  obtain ⟨hm, p, c, rfl, c1, c2, hpn, h2⟩ := h
  refine ⟨hm, p, c, rfl, c1, c2, hpn, fun h0 => ?_⟩
  obtain ⟨b, o, rfl, h3⟩ := h2 h0
  have h00 := h3 0 (by omega)
  unfold World.cell? at h00
  cases ho : w.heap[b]? with
  | none => simp [ho] at h00
  | some ob => cases ob with
    | cells cs t fz => exact ⟨b, o, cs, t, fz, rfl, hG _ _ _ _ rfl h0, ho, h3⟩
    | _ => simp [ho] at h00

theorem heap3 (W : World) (A B C : Obj) : (((W.alloc A).alloc B).alloc C).heap[W.heap.size]? = some A ∧ (((W.alloc A).alloc B).alloc C).heap[W.heap.size + 1]? = some B ∧ (((W.alloc A).alloc B).alloc C).heap[W.heap.size + 1 + 1]? = some C ∧
    Below W.heap.size W (((W.alloc A).alloc B).alloc C) ∧ (((W.alloc A).alloc B).alloc C).heap.size = W.heap.size + 3 := by
  have h1 := World.alloc_heap_new W A
  have h2 := World.alloc_heap_new (W.alloc A) B
  have h3 := World.alloc_heap_new ((W.alloc A).alloc B) C
  rw [World.size_alloc] at h2
  rw [World.size_alloc, World.size_alloc] at h3
  refine ⟨?_, ?_, h3, (((Below.refl _ W).alloc (Nat.le_refl _) _).alloc (by simp) _).alloc (by simp; omega) _, by simp⟩
  · exact (Below.heap_alloc _ _ _ (by simp; omega)).trans ((Below.heap_alloc _ _ _ (by simp)).trans h1)
  · exact (Below.heap_alloc _ _ _ (by simp)).trans h2
/-! The pairs that have come, and the one at hand. -/
def stP (pre : List Sib) (leaf : BitVec 64) (path : List (BitVec 64)) : Pair := lastP (pre.map Sib.ahead) (0#64, leaf) (path.take pre.length)
theorem stP_nil (leaf : BitVec 64) (path : List (BitVec 64)) : stP [] leaf path = (0#64, leaf) := rfl
theorem stP_next (pre : List Sib) (s : Sib) (leaf : BitVec 64) (path : List (BitVec 64)) (h : pre.length < path.length) : stP (pre ++ [s]) leaf path = besideB (joinP (stP pre leaf path)) path[pre.length] s.ahead := by
  unfold stP
  rw [List.map_append, List.length_append, List.length_singleton, List.take_succ_eq_append_getElem h, lastP_app _ _ _ _ _ (by simp; omega)]
  rfl
theorem pairsB_len (n i : Nat) (leaf : BitVec 64) (path : List (BitVec 64)) (h : path.length = (sibs 0 n i).length) : (pairsB n i leaf path).length = (sibs 0 n i).length + 2 := by
  unfold pairsB
  rw [List.length_append, upP_len _ _ _ (by simp [aheads, h])]
  simp [aheads]
theorem pairsB_at (n i : Nat) (leaf : BitVec 64) (path : List (BitVec 64)) (h : path.length = (sibs 0 n i).length) (pre : List Sib) (hp : pre <+: sibs 0 n i) : (pairsB n i leaf path)[pre.length]? = some (stP pre leaf path) := by
  have hl := hp.length_le
  have h1 := upP_get (aheads n i) (0#64, leaf) path pre.length (by simp [aheads, h]) (by simpa [aheads] using hl)
  unfold pairsB
  rw [List.getElem?_append_left (by rw [upP_len _ _ _ (by simp [aheads, h])]; simp [aheads]; omega), h1]
  unfold stP aheads
  have e := List.prefix_iff_eq_take.1 hp
  rw [← List.map_take, ← e]
theorem pairsB_last (n i : Nat) (leaf : BitVec 64) (path : List (BitVec 64)) (h : path.length = (sibs 0 n i).length) : (pairsB n i leaf path)[(sibs 0 n i).length + 1]? = some (BitVec.ofNat 64 n, joinP (stP (sibs 0 n i) leaf path)) := by
  unfold pairsB
  rw [List.getElem?_append_right (by rw [upP_len _ _ _ (by simp [aheads, h])]; simp [aheads]), upP_len _ _ _ (by simp [aheads, h])]
  unfold stP
  rw [← h, List.take_length]
  simp [aheads, h]
theorem take_next {α : Type} {l : List α} {k : Nat} {x : α} (h : l[k]? = some x) : l.take k ++ [x] = l.take (k + 1) := by
  obtain ⟨hlt, rfl⟩ := List.getElem?_eq_some_iff.1 h
  exact (List.take_succ_eq_append_getElem hlt).symm
theorem take_pre {α : Type} (l : List α) (k : Nat) : l.take k <+: l := List.take_prefix _ _
/-- A pair's box. -/
def pairO (p : Pair) : Obj := .cells #[.int .u64 (p.1.toNat : Int), .int .u64 (p.2.toNat : Int)] 36 (0, 0)
theorem U64G.cut {w : World} {G : Nat → Prop} {p : Option Addr} {n c : Nat} {l : List (BitVec 64)} (h : U64G w G (.slice p n c) l) (h1 : 1 ≤ l.length) : n = l.length ∧ ∃ b o, p = some ⟨b, o, none⟩ ∧ G b ∧ (∃ ob : Obj, w.heap[b]? = some ob) ∧ n ≤ c ∧ (∀ w' : World, (∀ g o, G g → w.heap[g]? = some o → w'.heap[g]? = some o) → w'.cell? ⟨b, o, none⟩ = some (.int .u64 (l[0].toNat : Int))) ∧ U64G w G (.slice (if c = 1 then some ⟨b, o, none⟩ else some ⟨b, o + 1, none⟩) (n - 1) (c - 1)) (l.drop 1) := by
  obtain ⟨hm, p', c', e, c1, c2, hpn, h2⟩ := h
  simp only [Value.slice.injEq] at e
  obtain ⟨rfl, rfl, rfl⟩ := e
  obtain ⟨b, o, cs, t, fz, rfl, hg, hh, h3⟩ := h2 (by omega)
  refine ⟨rfl, b, o, rfl, hg, ⟨_, hh⟩, c1, fun w' hk => ?_, by rw [List.length_drop]; omega, _, _, by rw [List.length_drop], by rw [List.length_drop]; omega, by omega, (fun h => by split at h <;> cases h), fun h0 => ?_⟩
  · have := h3 0 (by omega)
    rw [Nat.add_zero] at this
    rw [← this]
    exact World.cell?_of_block ((hk b _ hg hh).trans hh.symm)
  rw [List.length_drop] at h0
  rw [if_neg (by omega)]
  refine ⟨b, o + 1, cs, t, fz, rfl, hg, hh, fun i hi => ?_⟩
  rw [List.length_drop] at hi
  rw [show o + 1 + i = o + (1 + i) by omega, h3 (1 + i) (by omega)]
  simp only [List.getElem_drop]
theorem blk_free {w : World} {b : Nat} {cs : Array Value} {t : TypeId} (h : w.heap[b]? = some (.cells cs t (0, 0))) (j : Nat) : w.frozen? ⟨b, j, none⟩ = false := by simp [World.frozen?, h]
theorem keptIn {B : Nat} {G : Nat → Prop} {q : Obj → Prop} {V V' : World} (hq : ∀ o : Obj, o.isCells = false → q o) (h : Kept B (Hold G B 7) q V V') {B1 : Nat} (e : B1 = B + 5) : Kept B1 (Hold (fun g => g = B + 3 ∨ g = B + 3 + 1) B1 (0 + 2)) (fun o => o.isCells = false) V V' := by
  subst e
  refine ⟨h.size, fun k o hk hh => h.same k o hk ?_⟩
  rcases hh with ((hh | hh) | hh) | hh
  · exact .inl (.inr (by omega))
  · exact .inl (.inr (by omega))
  · exact .inl (.inr (by omega))
  · exact .inr ⟨by omega, hq _ hh.2⟩
theorem grown_set (W : World) (b j : Nat) (v : Value) : W.grownBy (W.setCell ⟨b, j, none⟩ v) (some b) :=
  ⟨rfl, rfl, rfl, (KeepsWalks.setCell W _ v).size, fun k _ hk => Below.heap_setCell _ _ _ k (fun e => hk (by rw [e]))⟩
theorem blk_set {w : World} {b j : Nat} {cs : Array Value} {t : TypeId} (h : w.heap[b]? = some (.cells cs t (0, 0))) (u : Value) : (w.setCell ⟨b, j, none⟩ u).heap[b]? = some (.cells (cs.setIfInBounds j u) t (0, 0)) := by
  obtain ⟨hlt, h'⟩ := Array.getElem?_eq_some_iff.1 h
  show (w.heap.modify b _)[b]? = _
  rw [Array.getElem?_eq_getElem (by simpa using hlt), Array.getElem_modify_self, h']
  rfl
theorem grown_two {X Y Z : World} {row : Option Nat} (h : X.grownBy Y row) (k : Y.grownBy Z row) : X.grownBy Z row :=
  ⟨k.os.trans h.os, k.tape.trans h.tape, k.output.trans h.output, Nat.le_trans h.size k.size, fun b hb hne => (k.block b (Nat.lt_of_lt_of_le hb h.size) hne).trans (h.block b hb hne)⟩
theorem pair_set {y : World} {pb : Nat} {p : Pair} (p' : Pair) (h : y.heap[pb]? = some (pairO p)) : ∃ w4, (y.setCell ⟨pb, 0, none⟩ (.int .u64 (p'.1.toNat : Int))).setCell ⟨pb, 1, none⟩ (.int .u64 (p'.2.toNat : Int)) = w4 ∧ y.grownBy w4 (some pb) ∧ w4.heap[pb]? = some (pairO p') :=
  ⟨_, rfl, grown_two (grown_set _ _ _ _) (grown_set _ _ _ _), blk_set (blk_set h _) _⟩
theorem drew_grown (W : World) : W.grownBy W.drew none := ⟨rfl, rfl, rfl, Nat.le_refl _, fun _ _ _ => rfl⟩
/-- What the iterator's variables hold between two siblings. -/
def pairI (w0 W : World) (G : Nat → Prop) (pb rb l : Nat) (F : List Pair) (leaf : BitVec 64) (path : List (BitVec 64)) (J : List Pair → World → Prop) (pre : List Sib) (V : World) : Prop :=
  ((((V.heap[pb]? = some (pairO (stP pre leaf path))) ∧ (∃ rv, Boxed V rb 22 rv ∧ U64G w0 G rv (path.drop pre.length))) ∧ Boxed V W.heap.size 68 (.func (.yield l) #[] #[])) ∧ (∀ g o, G g → w0.heap[g]? = some o → V.heap[g]? = some o)) ∧ J (F.take pre.length) V
theorem pairI_bears {w0 W : World} {G : Nat → Prop} {pb rb l : Nat} {F : List Pair} {leaf : BitVec 64} {path : List (BitVec 64)} {J : List Pair → World → Prop} (hJ : Bears W.heap.size 7 J) (hgl : ∀ g o, G g → w0.heap[g]? = some o → g < W.heap.size) (h1 : pb < W.heap.size + 5) (h2 : rb < W.heap.size + 5) :
    Bears (W.heap.size + 5) 2 (pairI w0 W G pb rb l F leaf path J) := by
  refine Bears.and (Bears.and (Bears.and (Bears.and (Bears.block _ h1) ?_) (Bears.boxed _ _ (by omega))) ?_) (fun s V V' row hs hg ht => (hJ.low (B' := W.heap.size + 5) (K' := 2) (by omega) (by omega)) _ V V' row hs hg ht)
  · rintro s V V' row ⟨rv, h3, h4⟩ hg ht
    exact ⟨rv, h3.kept hg (fun e => by have := (ht rb e.symm).1; omega), h4⟩
  · intro s V V' row hs hg ht g o hG ho
    have h5 := hs g o hG ho
    exact (hg.block g (Array.getElem?_eq_some_iff.1 h5).1 (fun e => by have := (ht g e.symm).1; have := hgl g o hG ho; omega)).trans h5

theorem pair_done {w0 W W1 W₂ W3 y2 w4 : World} {G : Nat → Prop} {pb rb l : Nat} {F : List Pair} {leaf : BitVec 64} {path : List (BitVec 64)} {J : List Pair → World → Prop} {pre : List Sib} {s : Sib} {P' : Pair} {ov : Value}
    (hJ : Bears W.heap.size 7 J) (hgl : ∀ g o, G g → w0.heap[g]? = some o → g < W.heap.size) (hs1 : W1.heap.size = W.heap.size + 5) (hb1 : pb < W.heap.size + 3) (hb2 : rb < W.heap.size + 3) (hb3 : W.heap.size + 1 ≤ pb) (hb4 : W.heap.size + 1 ≤ rb) (hb5 : pb ≠ rb)
    (hk3 : Kept W1.heap.size (Hold (fun g => g = W.heap.size + 3 ∨ g = W.heap.size + 3 + 1) W1.heap.size (0 + 2)) (fun o => o.isCells = false) W₂ W3)
    (hq3 : Below W3.drew.heap.size W3.drew y2) (hg4 : y2.grownBy w4 (some pb)) (h4 : w4.heap[pb]? = some (pairO P'))
    (r3 : W3.heap[rb]? = some (.cells #[ov] 22 (0, 0))) (y3 : W3.heap[W.heap.size]? = some (.cells #[.func (.yield l) #[] #[]] 68 (0, 0))) (g3 : ∀ g o, G g → w0.heap[g]? = some o → W3.heap[g]? = some o)
    (hJ3 : J (F.take (pre.length + 1)) W3) (SN : stP (pre ++ [s]) leaf path = P') (nv : Value) (hu : U64G w0 G nv ((path.drop pre.length).drop 1)) :
    Kept W1.heap.size (Hold (fun g => g = W.heap.size + 3 ∨ g = W.heap.size + 3 + 1) W1.heap.size (0 + 2)) (fun o => o.isCells = false) W₂ (w4.setCell ⟨rb, 0, none⟩ nv) ∧ pairI w0 W G pb rb l F leaf path J (pre ++ [s]) (w4.setCell ⟨rb, 0, none⟩ nv) := by
  have st : ∀ k o, W3.heap[k]? = some o → k ≠ pb → w4.heap[k]? = some o := fun k o h hne => by
    have h1 := (hq3.block k (Array.getElem?_eq_some_iff.1 h).1).trans h
    exact (hg4.block k (Array.getElem?_eq_some_iff.1 h1).1 (fun e => hne (Option.some.inj e))).trans h1
  have st5 : ∀ k o, w4.heap[k]? = some o → k ≠ rb → (w4.setCell ⟨rb, 0, none⟩ nv).heap[k]? = some o := fun k o h hne =>
    ((grown_set w4 rb 0 nv).block k (Array.getElem?_eq_some_iff.1 h).1 (fun e => hne (Option.some.inj e))).trans h
  refine ⟨(((hk3.trans (Kept.of_grownBy (drew_grown W3) (fun r o e => by cases e))).trans (Kept.of_below hq3)).trans (Kept.of_grownBy hg4 ?_)).trans (Kept.of_grownBy (grown_set w4 rb 0 nv) ?_), ⟨⟨⟨st5 pb _ (by rw [SN]; exact h4) hb5, nv, ?_, ?_⟩, st5 _ _ (st _ _ y3 (by omega)) (by omega)⟩, fun g o h1 h2 => ?_⟩, ?_⟩
  · intro r o e _
    obtain rfl := Option.some.inj e
    exact ⟨fun h => by rcases h with (h | h) | h <;> omega, fun h => by omega⟩
  · intro r o e _
    obtain rfl := Option.some.inj e
    exact ⟨fun h => by rcases h with (h | h) | h <;> omega, fun h => by omega⟩
  · exact Boxed.set (t := 22) nv (st rb _ r3 (Ne.symm hb5))
  · rw [List.length_append, List.length_singleton]
    simpa [List.drop_drop] using hu
  · have h3 := hgl g o h1 h2
    exact st5 g o (st g o (g3 g o h1 h2) (by omega)) (by omega)
  · rw [List.length_append, List.length_singleton]
    have j1 := hJ _ _ _ _ hJ3 (drew_grown W3) (fun r e => by cases e)
    have j2 := hJ.of_below j1 hq3
    have j3 := hJ _ _ _ _ j2 hg4 (fun r e => by cases e; exact ⟨by omega, .inr (by omega)⟩)
    exact hJ _ _ _ _ j3 (grown_set w4 rb 0 nv) (fun r e => by cases e; exact ⟨by omega, .inr (by omega)⟩)

theorem pair_end {B : Nat} {J Jx : List Pair → World → Prop} {F : List Pair} {V : World} {D : Nat} {o' : Obj} (hJ : Bears B 7 J) (hJx : Bears B 7 Jx) (hD : B ≤ D) (hK : V.heap[D]? = some (.deferred (some []))) (h : J F V ∨ ∃ ps, ps <+: F ∧ Jx ps V) :
    J F (V.putObj D o') ∨ ∃ ps, ps <+: F ∧ Jx ps (V.putObj D o') := by
  have ht : Turn B 7 (some D) V := fun r e => by cases e; exact ⟨hD, .inl ⟨_, hK, rfl⟩⟩
  rcases h with h | ⟨ps, h1, h2⟩
  · exact .inl (hJ _ _ _ _ h (putObj_grown V D o') ht)
  · exact .inr ⟨ps, h1, hJx _ _ _ _ h2 (putObj_grown V D o') ht⟩

/-- Behind the first statement: the two variables in their boxes, whichever was made first. -/
def pairs1_P (W : World) (bo bn bi l : Nat) (leaf : BitVec 64) (pv : Value) (e : Exit) (a : Act) (w : World) : Prop :=
  e = .normal ∧ ∃ pb rb : Nat, ((pb = W.heap.size + 1 ∧ rb = W.heap.size + 1 + 1) ∨ (rb = W.heap.size + 1 ∧ pb = W.heap.size + 1 + 1)) ∧ a = {
      tmps :=
        #[.func (.yield l) #[] #[], .pointer (some ⟨bo, 0, none⟩), .pointer (some ⟨bn, 0, none⟩), .pointer (some ⟨bi, 0, none⟩),
          .pointer (some ⟨W.heap.size, 0, none⟩), .pointer (some ⟨pb, 0, none⟩), .pointer (some ⟨rb, 0, none⟩), undef, .pointer (some ⟨bo, 0, none⟩), .int .u64 (leaf.toNat : Int), .agg #[.int .u64 0, .int .u64 (leaf.toNat : Int)], .pointer (some ⟨bo, 1, none⟩),
          pv, undef, undef, undef, undef, undef, undef, undef, undef, undef, undef, undef, undef, undef, undef,
          undef, undef, undef, undef, undef, undef, undef, undef, undef, undef, undef, undef, undef, undef],
      defers := [] } ∧ w.heap[pb]? = some (.cells #[.int .u64 0, .int .u64 (leaf.toNat : Int)] 36 (0, 0)) ∧ Boxed w rb 22 pv ∧ Boxed w W.heap.size 68 (.func (.yield l) #[] #[]) ∧ Below W.heap.size W w ∧ w.heap.size = W.heap.size + 3
set_option maxRecDepth 100000 in
set_option maxHeartbeats 4000000 in
theorem pairs1_in (q : Obj → Prop) (hq : ∀ o : Obj, o.isCells = false → q o) (hq72 : ∀ cs fz, q (.cells cs 65 fz)) (n i : Nat) (hi : i < n) (hn : n ≤ 4096) (leaf : BitVec 64) (path : List (BitVec 64)) (hlen : path.length = (sibs 0 n i).length)
    (bo bn bi : Nat) (pv : Value) (G : Nat → Prop) (hG1 : G bo) (hG2 : G bn) (hG3 : G bi) (w0 : World) (ho : w0.heap[bo]? = some (.cells #[.int .u64 (leaf.toNat : Int), pv] 25 (0, 0))) (hbn : Boxed w0 bn 3 (.int .i64 (n : Int))) (hbi : Boxed w0 bi 3 (.int .i64 (i : Int))) (hp : U64G w0 G pv path)
    (m l : Nat) (J Jx : List Pair → World → Prop) (W : World) (hGW : ∀ g o, G g → w0.heap[g]? = some o → W.heap[g]? = some o) (hJ : Bears W.heap.size 7 J) (hJx : Bears W.heap.size 7 Jx)
    (hY : ∀ m pre x W1, J pre W1 → W.heap.size + 7 ≤ W1.heap.size → pre ++ [x] <+: pairsB n i leaf path → YieldAt Fence.wide m Try.prog l #[encP x] W1 fun e W' =>
      (e = .returned (.bool true) ∧ J (pre ++ [x]) W' ∧ Kept W.heap.size (Hold G W.heap.size 7) q W1 W') ∨ (e = .returned (.bool false) ∧ Jx (pre ++ [x]) W' ∧ Kept W.heap.size (Hold G W.heap.size 7) q W1 W'))
    (h0 : J [] W) :
    CallsIn Fence.wide m Try.prog 36 #[.func (.yield l) #[] #[], .pointer (some ⟨bo, 0, none⟩), .pointer (some ⟨bn, 0, none⟩), .pointer (some ⟨bi, 0, none⟩)] W fun e W' => (∃ v, e = .returned v) ∧ (J (pairsB n i leaf path) W' ∨ ∃ pre, pre <+: pairsB n i leaf path ∧ Jx pre W') := by
  have hdd : ∀ k : Nat, (Fence.wide.depth.isSome = true → 1 ≤ k) := fun k h => by cases h
  obtain ⟨pa, pc, rfl⟩ : ∃ pa pc, pv = .slice pa path.length pc := by
    obtain ⟨_, p, c, h, _⟩ := hp
    exact ⟨p, c, h⟩
  have k0 : W.cell? ⟨bo, 0, none⟩ = some (.int .u64 (leaf.toNat : Int)) := blk_cell (hGW _ _ hG1 ho) rfl
  have k1 : W.cell? ⟨bo, 1, none⟩ = some (.slice pa path.length pc) := blk_cell (hGW _ _ hG1 ho) rfl
  have k2 : W.cell? ⟨bn, 0, none⟩ = some (.int .i64 (n : Int)) := Boxed.cell (t := 3) (hGW _ _ hG2 hbn)
  have k3 : W.cell? ⟨bi, 0, none⟩ = some (.int .i64 (i : Int)) := Boxed.cell (t := 3) (hGW _ _ hG3 hbi)
  refine callsIn_of_wp_marks Try.func36 rfl trivial ?_ rfl
  simp only [Try.ntmps36, List.size_toArray, List.length_cons, List.length_nil, Nat.reduceAdd, Nat.reduceSub, Array.replicate_succ, Array.replicate_zero, List.push_toArray, List.append_toArray, List.nil_append, List.cons_append]
  have HLEN := hid hlen
  clear hlen
  gi_wp2
  refine wpIn_mono (Q := pairs1_P W bo bn bi l leaf (.slice pa path.length pc)) ?region1 ?rest
  case region1 =>
    refine wpIn_wide.2 ?_
    have f0 : (W.alloc (.cells #[.func (.yield l) #[] #[]] 68)).cell? ⟨bo, 0, none⟩ = some (.int .u64 (leaf.toNat : Int)) := cell_alloc _ k0
    have f1 : (W.alloc (.cells #[.func (.yield l) #[] #[]] 68)).cell? ⟨bo, 1, none⟩ = some (.slice pa path.length pc) := cell_alloc _ k1
    have hlt := World.block_lt_of_cell? W _ k0
    simp only at hlt
    have g0 : (W.alloc (.cells #[.func (.yield l) #[] #[]] 68)).drew.cell? ⟨bo, 0, none⟩ = some (.int .u64 (leaf.toNat : Int)) := f0
    have g1 : (W.alloc (.cells #[.func (.yield l) #[] #[]] 68)).drew.cell? ⟨bo, 1, none⟩ = some (.slice pa path.length pc) := f1
    have n1 : ¬ W.heap.size + 1 = bo := by omega
    have n2 : ¬ W.heap.size + 1 + 1 = bo := by omega
    go_region_held3 (fun W' => W'.cell? ⟨bo, 0, none⟩ = some (.int .u64 (leaf.toNat : Int)) ∧ W'.cell? ⟨bo, 1, none⟩ = some (.slice pa path.length pc))
      (first | (with_reducible exact ⟨g0, g1⟩) | (simp [*, World.cell?_alloc_some, World.cell?_setCell_far]) | fail)
      (fail)
    · have H3 := heap3 W (.cells #[.func (.yield l) #[] #[]] 68) (.cells #[.int .u64 0, .int .u64 (leaf.toNat : Int)] 36) (.cells #[.slice pa path.length pc] 22)
      exact ⟨rfl, _, _, .inl ⟨rfl, rfl⟩, rfl, H3.2.1, H3.2.2.1, H3.1, H3.2.2.2.1.drew, H3.2.2.2.2⟩
    · have H3 := heap3 W (.cells #[.func (.yield l) #[] #[]] 68) (.cells #[.slice pa path.length pc] 22) (.cells #[.int .u64 0, .int .u64 (leaf.toNat : Int)] 36)
      exact ⟨rfl, _, _, .inr ⟨rfl, rfl⟩, rfl, H3.2.2.1, H3.2.1, H3.1, H3.2.2.2.1.drew, H3.2.2.2.2⟩
  case rest =>
    rintro e a' w1 ⟨rfl, pb, rb, hbs, rfl, hpb, hrb, hyb, hbel, hsz⟩
    have hgl : ∀ g o, G g → w0.heap[g]? = some o → g < W.heap.size := fun g o h1 h2 => (Array.getElem?_eq_some_iff.1 (hGW g o h1 h2)).1
    have hg1 : ∀ g o, G g → w0.heap[g]? = some o → w1.heap[g]? = some o := fun g o h1 h2 => (hbel.block g (hgl g o h1 h2)).trans (hGW g o h1 h2)
    have hj1 := hJ.of_below h0 hbel
    have e2 : w1.cell? ⟨bn, 0, none⟩ = some (.int .i64 (n : Int)) := Boxed.cell (t := 3) (hg1 _ _ hG2 hbn)
    have e3 : w1.cell? ⟨bi, 0, none⟩ = some (.int .i64 (i : Int)) := Boxed.cell (t := 3) (hg1 _ _ hG3 hbi)
    clear k0 k1 k2 k3
    gi_wp2_with ((try refine ⟨trivial, ?_⟩); (try refine ⟨hdd _, ?_⟩); gi_at_call 31; refine (siblings_in _ _ _ _).mono ?_; rintro e W1 ⟨rfl, hW1⟩)
    -- LOOP
    have hs1 : W1.heap.size = W.heap.size + 5 := by rw [← hW1]; simp [sibW]; omega
    have hbw : Below w1.heap.size w1 W1 := by rw [← hW1]; exact ((Below.refl _ w1).alloc (Nat.le_refl _) _).alloc (by simp) _
    have hn1 : Boxed W1 (W.heap.size + 3) 3 (.int .i64 (n : Int)) := by
      rw [← hW1]
      have := Boxed.new w1 3 (.int .i64 (n : Int))
      rw [hsz] at this
      exact this.alloc _
    have hi1 : Boxed W1 (W.heap.size + 3 + 1) 3 (.int .i64 (i : Int)) := by
      rw [← hW1]
      have := Boxed.new (w1.alloc (.cells #[.int .i64 (n : Int)] 3)) 3 (.int .i64 (i : Int))
      rw [World.size_alloc, hsz] at this
      exact this
    have hk1 : ∀ k o, w1.heap[k]? = some o → W1.heap[k]? = some o := fun k o h => (hbw.block k (Array.getElem?_eq_some_iff.1 h).1).trans h
    have hI0 : pairI w0 W G pb rb l (pairsB n i leaf path) leaf path J [] W1 := ⟨⟨⟨⟨hk1 _ _ hpb, _, hk1 _ _ hrb, by simpa using hp⟩, hk1 _ _ hyb⟩, fun g o h1 h2 => hk1 _ _ (hg1 g o h1 h2)⟩, by simpa using hJ.of_below hj1 hbw⟩
    have hbb : pb < W.heap.size + 3 ∧ rb < W.heap.size + 3 ∧ W.heap.size + 1 ≤ pb ∧ W.heap.size + 1 ≤ rb ∧ pb ≠ rb := by omega
    obtain ⟨hb1, hb2, hb3, hb4, hb5⟩ := hbb
    clear hW1 hpb hrb hyb hbel hbs hg1 hj1 e2 e3 hbw hk1 h0
    refine range_law (gf := 39) (lb := #[.pointer (some ⟨W.heap.size + 3, 0, none⟩), .pointer (some ⟨W.heap.size + 3 + 1, 0, none⟩)]) rfl (enters_of Try.func39 (by kernel_rfl) rfl)
      (sib_seq (fun o => o.isCells = false) n i _ _ hi (by omega) W1 hn1 hi1) (by rintro k (rfl | rfl) <;> omega) (fun _ _ _ h => h) (fun _ => rfl) (fun _ h => h)
      (pairI w0 W G pb rb l (pairsB n i leaf path) leaf path J) (fun c pre V => c = .ret ∧ ∃ ps, ps <+: pairsB n i leaf path ∧ Jx ps V)
      (by rw [hs1]; exact pairI_bears hJ hgl (by omega) (by omega))
      (fun c => by
        rw [hs1]
        rintro s V V' row ⟨hc, ps, h1, h2⟩ hg ht
        exact ⟨hc, ps, h1, (hJx.low (B' := W.heap.size + 5) (K' := 2) (by omega) (by omega)) ps V V' row h2 hg ht⟩)
      hI0 ?round ?done ?stop
    case round =>
      rintro l' pre s V hI hVs hpre
      have hI' := hI
      obtain ⟨⟨⟨⟨hp1, rv, hr1, hu1⟩, hy1⟩, hgg⟩, hj⟩ := hI'
      unfold encSib
      gi_wp2
      refine ⟨Kept.alloc _ _, pairI_bears hJ hgl (by omega) (by omega) _ V _ none hI (World.grownBy_alloc V _ none) (fun r e => by cases e), ?_⟩
      clear hp1 hr1 hu1 hy1 hgg hj hI
      rintro W₂ hg2 ⟨⟨⟨⟨hp1, rv, hr1, hu1⟩, hy1⟩, hgg⟩, hj⟩ hsz2
      have hsx : W₂.heap[V.heap.size]? = some (.cells #[.int .i64 (s.lo : Int), .int .i64 (s.hi : Int), .bool s.ahead] 65 (0, 0)) := (hg2.block V.heap.size (by simp) (fun e => by have := Option.some.inj e; omega)).trans (World.alloc_heap_new V _)
      have hkl : pre.length < (sibs 0 n i).length := by
        have := hpre.length_le
        simp at this
        omega
      have hkp : pre.length < path.length := by rw [HLEN.out]; exact hkl
      have hpre0 : pre <+: sibs 0 n i := (List.prefix_append _ _).trans hpre
      have FK := hid (pairsB_at n i leaf path HLEN.out pre hpre0)
      have SN := hid (stP_next pre s leaf path hkp)
      have hyy := hY (m - 1) ((pairsB n i leaf path).take pre.length) (stP pre leaf path) W₂ hj (by omega) (by rw [take_next FK.out]; exact take_pre _ _)
      rw [take_next FK.out] at hyy
      obtain ⟨fn, tmps, assign, body, hy, hR⟩ := hyy
      have q0 : W₂.cell? ⟨pb, 0, none⟩ = some (.int .u64 ((stP pre leaf path).1.toNat : Int)) := blk_cell (t := 36) hp1 rfl
      have q1 : W₂.cell? ⟨pb, 1, none⟩ = some (.int .u64 ((stP pre leaf path).2.toNat : Int)) := blk_cell (t := 36) hp1 rfl
      have q2 := hy1.cell
      unfold encP at hy
      have HP1 := hid hp1
      have HR1 := hid hr1
      have HU1 := hid hu1
      have HY1 := hid hy1
      have HGG := hid hgg
      have HSX := hid hsx
      have HPRE := hid hpre
      clear hp1 hr1 hu1 hy1 hgg hsx hpre hj hpre0
      generalize stP pre leaf path = P at *
      obtain ⟨rp, rn, rc, rfl⟩ : ∃ rp rn rc, rv = .slice rp rn rc := by
        obtain ⟨_, p, c, h, _⟩ := HU1.out
        exact ⟨p, _, c, h⟩
      have CU := HU1.out.cut (by rw [List.length_drop]; omega)
      obtain ⟨hrn, b, o, rfl, hGb, ⟨obj, hob⟩, hnc, hx0, hu2⟩ := CU
      have hblt := hgl b obj hGb hob
      have HX0 := hid hx0
      have HU2 := hid hu2
      have hrn1 : 1 ≤ rn := by rw [hrn, List.length_drop]; omega
      clear hx0 hu2 hrn hob
      gi_wp2_with ((try refine ⟨hdd _, ?_⟩); refine hR.mono ?_; clear hR; rintro e W3 (⟨rfl, hJ3, hk3⟩ | ⟨rfl, hJx3, hk3⟩))
      · have p3 := hk3.same pb _ HP1.out (.inl (.inr ⟨by omega, by omega⟩))
        have r3 := hk3.same rb _ HR1.out (.inl (.inr ⟨by omega, by omega⟩))
        have y3 := hk3.same W.heap.size _ HY1.out (.inl (.inr ⟨by omega, by omega⟩))
        have s3 := hk3.same V.heap.size _ HSX.out (.inr ⟨by omega, hq72 _ _⟩)
        have g3 : ∀ g o, G g → w0.heap[g]? = some o → W3.heap[g]? = some o := fun g o h1 h2 => hk3.same g o (HGG.out g o h1 h2) (.inl (.inl h1))
        have z0 : W3.cell? ⟨pb, 0, none⟩ = some (.int .u64 (P.1.toNat : Int)) := blk_cell (t := 36) p3 rfl
        have z1 : W3.cell? ⟨pb, 1, none⟩ = some (.int .u64 (P.2.toNat : Int)) := blk_cell (t := 36) p3 rfl
        have z2 : W3.cell? ⟨rb, 0, none⟩ = some (.slice (some ⟨b, o, none⟩) rn rc) := Boxed.cell (t := 22) r3
        have z3 := HX0.out W3 g3
        simp only [List.getElem_drop, Nat.add_zero] at z3
        have z4 : W3.cell? ⟨V.heap.size, 2, none⟩ = some (.bool s.ahead) := blk_cell (t := 65) s3 rfl
        have t0 : 0 < rn := by omega
        -- REGION5
        refine round_region (S := fun W' => (W'.cell? ⟨rb, 0, none⟩ = some (.slice (some ⟨b, o, none⟩) rn rc) ∧ W'.cell? ⟨b, o, none⟩ = some (.int .u64 (path[pre.length].toNat : Int)) ∧ W'.cell? ⟨V.heap.size, 2, none⟩ = some (.bool s.ahead))) (by kernel_rfl) (by rfl) ?_ (fun hHeld => ?_)
        · exact ⟨z2, z3, z4⟩
        refine wpAnyH_take (i := 2) (oi := ({ dst := some 23, op := Op.load 22 (Operand.tmp 6), type := 22, pos := "pairs.go:20", after := #[], guard := none } : Oper)) (v := ?_) rfl (by kernel_rfl) (by kernel_rfl) (by kernel_rfl) (fun _ _ _ h => h) (Or.inl ⟨by rfl, ?_⟩) (by assumption) ?_
        rotate_left
        · intro w hSw; (try dsimp only at hSw); go_simp <;> with_reducible rfl
        (try simp only [Act.put, List.setIfInBounds_toArray, List.set_cons_zero, List.set_cons_succ])
        refine wpAnyH_take (i := 3) (oi := ({ dst := some 24, op := Op.indexAddr 22 (Operand.tmp 23) (Operand.const (Value.int IntKind.i64 0)), type := 0, pos := "pairs.go:20", after := #[{ on := 2, ground := Ground.data }], guard := none } : Oper)) (v := ?_) rfl (by kernel_rfl) (by kernel_rfl) (by kernel_rfl) (fun _ _ _ h => h) (Or.inl ⟨by rfl, ?_⟩) (by assumption) ?_
        rotate_left
        · intro w hSw; (try dsimp only at hSw); go_simp <;> with_reducible rfl
        (try simp only [Act.put, List.setIfInBounds_toArray, List.set_cons_zero, List.set_cons_succ])
        refine wpAnyH_take (i := 4) (oi := ({ dst := some 25, op := Op.load 23 (Operand.tmp 24), type := 23, pos := "pairs.go:20", after := #[{ on := 3, ground := Ground.data }], guard := none } : Oper)) (v := ?_) rfl (by kernel_rfl) (by kernel_rfl) (by kernel_rfl) (fun _ _ _ h => h) (Or.inl ⟨by rfl, ?_⟩) (by assumption) ?_
        rotate_left
        · intro w hSw; (try dsimp only at hSw); go_simp <;> with_reducible rfl
        (try simp only [Act.put, List.setIfInBounds_toArray, List.set_cons_zero, List.set_cons_succ])
        refine wpAnyH_take (i := 5) (oi := ({ dst := some 26, op := Op.fieldAddr 65 (Operand.tmp 7) 2, type := 0, pos := "pairs.go:20", after := #[], guard := none } : Oper)) (v := ?_) rfl (by kernel_rfl) (by kernel_rfl) (by kernel_rfl) (fun _ _ _ h => h) (Or.inl ⟨by rfl, ?_⟩) (by assumption) ?_
        rotate_left
        · intro w hSw; (try dsimp only at hSw); go_simp <;> with_reducible rfl
        (try simp only [Act.put, List.setIfInBounds_toArray, List.set_cons_zero, List.set_cons_succ])
        refine wpAnyH_take (i := 6) (oi := ({ dst := some 27, op := Op.load 4 (Operand.tmp 26), type := 4, pos := "pairs.go:20", after := #[{ on := 5, ground := Ground.data }], guard := none } : Oper)) (v := ?_) rfl (by kernel_rfl) (by kernel_rfl) (by kernel_rfl) (fun _ _ _ h => h) (Or.inl ⟨by rfl, ?_⟩) (by assumption) ?_
        rotate_left
        · intro w hSw; (try dsimp only at hSw); go_simp <;> with_reducible rfl
        (try simp only [Act.put, List.setIfInBounds_toArray, List.set_cons_zero, List.set_cons_succ])
        refine wpAnyH_ready (rs := [0]) (by kernel_rfl) (by simp) ?_
        refine (AllReadyH.cons (o := ({ dst := some 21, op := Op.load 36 (Operand.tmp 5), type := 36, pos := "pairs.go:20", after := #[], guard := none } : Oper)) rfl (fun K hK => ?_) AllReadyH.nil)
        go_simp
        refine hK.out _ _ ?_ (fun hHeld => ?_)
        · exact hHeld
        clear hK K
        (try simp only [Act.put, List.setIfInBounds_toArray, List.set_cons_zero, List.set_cons_succ])
        refine wpAnyH_ready (rs := [1]) (by kernel_rfl) (by simp) ?_
        refine (AllReadyH.cons (o := ({ dst := some 22, op := Op.call { callee := Callee.value (Operand.func 28), args := #[Operand.tmp 21], argTypes := #[36] }, type := 23, pos := "pairs.go:20", after := #[{ on := 0, ground := Ground.data }], guard := none } : Oper)) rfl (fun K hK => ?_) AllReadyH.nil)
        go_simp
        go_at_call 28
        refine (pjoin_any P _).mono ?_
        rintro e y1 ⟨rfl, hq1⟩
        refine hK.out _ _ ?_ (fun hHeld => ?_)
        · exact ⟨cell_below hq1 z2, cell_below hq1 z3, cell_below hq1 z4⟩
        clear hK K
        (try simp only [Act.put, List.setIfInBounds_toArray, List.set_cons_zero, List.set_cons_succ])
        refine wpAnyH_ready (rs := [7]) (by kernel_rfl) (by simp) ?_
        refine (AllReadyH.cons (o := ({ dst := some 28, op := Op.call { callee := Callee.value (Operand.func 37), args := #[Operand.tmp 22, Operand.tmp 25, Operand.tmp 27], argTypes := #[23, 23, 4] }, type := 36, pos := "pairs.go:20", after := #[{ on := 1, ground := Ground.data }, { on := 4, ground := Ground.data }, { on := 6, ground := Ground.data }, { on := 1, ground := Ground.chain }], guard := none } : Oper)) rfl (fun K hK => ?_) AllReadyH.nil)
        go_simp
        go_at_call 37
        refine (beside_any (joinP P) path[pre.length] s.ahead _).mono ?_
        rintro e y2 ⟨rfl, hq2⟩
        have hq3 := below_step hq1 hq2
        have p4 := (hq3.block pb (Array.getElem?_eq_some_iff.1 p3).1).trans p3
        have fz := blk_free (t := 36) p4 0
        have fz1 := blk_free (t := 36) p4 1
        have u0 : y2.cell? ⟨pb, 0, none⟩ = some (.int .u64 (P.1.toNat : Int)) := cell_below hq3 z0
        have u1 : y2.cell? ⟨pb, 1, none⟩ = some (.int .u64 (P.2.toNat : Int)) := cell_below hq3 z1
        refine hK.out _ _ ?_ (fun hHeld => ?_)
        · exact ⟨cell_below hq3 z2, cell_below hq3 z3, cell_below hq3 z4⟩
        clear hK K
        (try simp only [Act.put, List.setIfInBounds_toArray, List.set_cons_zero, List.set_cons_succ])
        refine wpAnyH_ready (rs := [8]) (by kernel_rfl) (by simp) ?_
        refine (AllReadyH.cons (o := ({ dst := none, op := Op.store 36 (Operand.tmp 5) (Operand.tmp 28), type := 0, pos := "pairs.go:20", after := #[{ on := 7, ground := Ground.data }, { on := 7, ground := Ground.chain }, { on := 0, ground := Ground.phase }, { on := 1, ground := Ground.phase }, { on := 2, ground := Ground.phase }, { on := 3, ground := Ground.phase }, { on := 4, ground := Ground.phase }, { on := 5, ground := Ground.phase }, { on := 6, ground := Ground.phase }, { on := 7, ground := Ground.phase }], guard := none } : Oper)) rfl (fun K hK => ?_) AllReadyH.nil)
        go_simp
        obtain ⟨w4, hw4, hg4, h4⟩ := pair_set (besideB (joinP P) path[pre.length] s.ahead) p4
        rw [hw4]
        refine hK.out _ _ ?_ (fun hHeld => ?_)
        · exact ⟨hg4.cell (cell_below hq3 z2) (fun e => hb5 (Option.some.inj e).symm), hg4.cell (cell_below hq3 z3) (fun e => by have := Option.some.inj e; simp only at this; omega), hg4.cell (cell_below hq3 z4) (fun e => by have := Option.some.inj e; simp only at this; omega)⟩
        clear hK K
        (try simp only [Act.put, List.setIfInBounds_toArray, List.set_cons_zero, List.set_cons_succ])
        refine wpAnyH_done (by kernel_rfl) ?_ _
        refine onlyN_mk ?_
        clear hHeld
        have v0 := hg4.cell (cell_below hq3 z2) (fun e => hb5 (Option.some.inj e).symm)
        have v1 : w4.frozen? ⟨rb, 0, none⟩ = false := by
          have r5 := (hq3.block rb (Array.getElem?_eq_some_iff.1 r3).1).trans r3
          exact Boxed.frozen (t := 22) ((hg4.block rb (Array.getElem?_eq_some_iff.1 r5).1 (fun e => hb5 (Option.some.inj e).symm)).trans r5)
        clear hw4 fz fz1 u0 u1 z0 z1 z2 z3 z4
        have PD := fun nv hu => pair_done (pb := pb) (rb := rb) hJ hgl hs1 hb1 hb2 hb3 hb4 hb5 (keptIn hq hk3 hs1) hq3 hg4 h4 r3 y3 g3 hJ3 SN.out nv hu
        by_cases hc1 : rc = 1
        · have UU := HU2.out
          rw [if_pos hc1, hc1] at UU
          have HF := hid (PD _ UU)
          clear UU PD
          gi_wp2
          exact HF.out
        · have UU := HU2.out
          rw [if_neg hc1] at UU
          have HF := hid (PD _ UU)
          clear UU PD
          gi_wp2
          exact HF.out
      · exact ⟨keptIn hq hk3 hs1, rfl, _, take_pre _ _, hJx3⟩
    case done =>
      rintro V ⟨⟨⟨⟨hp1, rv, hr1, hu1⟩, hy1⟩, hgg⟩, hj⟩ hK hszV
      have FK := hid (pairsB_at n i leaf path HLEN.out (sibs 0 n i) (List.prefix_refl _))
      have FL := hid (pairsB_last n i leaf path HLEN.out)
      have FN := hid (pairsB_len n i leaf path HLEN.out)
      have q0 : V.cell? ⟨pb, 0, none⟩ = some (.int .u64 ((stP (sibs 0 n i) leaf path).1.toNat : Int)) := blk_cell (t := 36) hp1 rfl
      have q1 : V.cell? ⟨pb, 1, none⟩ = some (.int .u64 ((stP (sibs 0 n i) leaf path).2.toNat : Int)) := blk_cell (t := 36) hp1 rfl
      have q2 := hy1.cell
      have hyy := hY (m - 1) ((pairsB n i leaf path).take (sibs 0 n i).length) (stP (sibs 0 n i) leaf path) V hj (by omega) (by rw [take_next FK.out]; exact take_pre _ _)
      rw [take_next FK.out] at hyy
      obtain ⟨fn, tmps, assign, body, hy, hR⟩ := hyy
      unfold encP at hy
      have HP1 := hid hp1
      have HY1 := hid hy1
      have HGG := hid hgg
      have HK := hid (show V.heap[W.heap.size + 5]? = some (.deferred (some [])) by rw [← hs1]; exact hK)
      clear hp1 hr1 hu1 hy1 hgg hj hK
      generalize stP (sibs 0 n i) leaf path = P at *
      gi_wp2_with ((try refine ⟨hdd _, ?_⟩); refine hR.mono ?_; clear hR; rintro e W3 (⟨rfl, hJ3, hk3⟩ | ⟨rfl, hJx3, hk3⟩))
      · have p3 := hk3.same pb _ HP1.out (.inl (.inr ⟨by omega, by omega⟩))
        have y3 := hk3.same W.heap.size _ HY1.out (.inl (.inr ⟨by omega, by omega⟩))
        have g3 : ∀ g o, G g → w0.heap[g]? = some o → W3.heap[g]? = some o := fun g o h1 h2 => hk3.same g o (HGG.out g o h1 h2) (.inl (.inl h1))
        have d3 := hk3.same (W.heap.size + 5) _ HK.out (.inl (.inr ⟨by omega, by omega⟩))
        have z0 : W3.cell? ⟨pb, 0, none⟩ = some (.int .u64 (P.1.toNat : Int)) := blk_cell (t := 36) p3 rfl
        have z1 : W3.cell? ⟨pb, 1, none⟩ = some (.int .u64 (P.2.toNat : Int)) := blk_cell (t := 36) p3 rfl
        have z2 : W3.cell? ⟨W.heap.size, 0, none⟩ = some (.func (.yield l) #[] #[]) := Boxed.cell (t := 68) y3
        have z3 : W3.cell? ⟨bn, 0, none⟩ = some (.int .i64 (n : Int)) := Boxed.cell (t := 3) (g3 _ _ hG2 hbn)
        have jd := hJ _ _ _ _ hJ3 (drew_grown W3) (fun r e => by cases e)
        have YY := hid (fun (y : World) (hb : Below W3.drew.heap.size W3.drew y) => YieldAt.mono (hY (m - 1) ((pairsB n i leaf path).take ((sibs 0 n i).length + 1)) (BitVec.ofNat 64 n, joinP P) y (hJ.of_below jd hb) (by have h1 := hb.size; have h2 := hk3.size; simp at h1; omega) (by rw [take_next FL.out]; exact take_pre _ _))
          (R' := fun e W4 => ∃ v, e = .returned v ∧ (J (pairsB n i leaf path) W4 ∨ ∃ ps, ps <+: pairsB n i leaf path ∧ Jx ps W4) ∧ W4.heap[W.heap.size + 5]? = some (.deferred (some []))) (fun e W4 h => by
            have ef : (pairsB n i leaf path).take ((sibs 0 n i).length + 1 + 1) = pairsB n i leaf path := List.take_of_length_le (by rw [FN.out]; omega)
            rw [take_next FL.out, ef] at h
            have dk : ∀ {Z : World}, Kept W.heap.size (Hold G W.heap.size 7) q y Z → Z.heap[W.heap.size + 5]? = some (.deferred (some [])) := fun hk => hk.same _ _ ((hb.block _ (by have := (Array.getElem?_eq_some_iff.1 d3).1; simpa using this)).trans d3) (.inl (.inr ⟨by omega, by omega⟩))
            rcases h with ⟨rfl, h1, h2⟩ | ⟨rfl, h1, h2⟩
            · exact ⟨_, rfl, .inl h1, dk h2⟩
            · exact ⟨_, rfl, .inr ⟨_, List.prefix_refl _, h1⟩, dk h2⟩))
        have eN : ((BitVec.ofNat 64 n).toNat : Int) = IntKind.u64.wrap (n : Int) := by rw [wrapU, BitVec.toNat_ofNat]
        unfold encP at YY
        simp only [eN] at YY
        have hmix : Try.prog.follows .mixedOrders = true := by kernel_rfl
        clear jd hJ3 g3 y3 p3 hk3 q0 q1 q2 hy
        refine wpIn_mono (Q := onlyN _) ?_ onlyN_use
        gi_region_with_o (first
          | ((try refine ⟨trivial, ?_⟩); (try refine ⟨hdd _, ?_⟩); gi_at_call 28; refine ((callsIn_wide (n := m - 1)).2 (pjoin_any P _)).mono ?_; rintro e y1 ⟨rfl, hq1⟩; obtain ⟨fn, tmps, assign, body, hy, hR⟩ := YY.out y1 hq1; have v2 := cell_below hq1 z2; have v3 := cell_below hq1 z3)
          | ((try refine ⟨hdd _, ?_⟩); refine hR.mono ?_; rintro e W4 ⟨v, rfl, hfin, hK4⟩))
        all_goals
          refine onlyN_mk ?_
          clear YY hR
          gi_wp2
          refine ⟨by simp, .inl ⟨_, _, rfl, run_takeDeferred hK4, ?_⟩⟩
          exact ⟨_, results_none rfl _ _ _, ⟨_, rfl⟩, pair_end hJ hJx (by omega) hK4 hfin⟩
      · refine ⟨by simp, .inl ⟨_, _, rfl, run_takeDeferred (hk3.same _ _ HK.out (.inl (.inr ⟨by omega, by omega⟩))), ?_⟩⟩
        exact ⟨_, results_none rfl _ _ _, ⟨_, rfl⟩, pair_end hJ hJx (by omega) (hk3.same _ _ HK.out (.inl (.inr ⟨by omega, by omega⟩))) (.inr ⟨_, take_pre _ _, hJx3⟩)⟩
    case stop =>
      rintro c pre V hpre ⟨rfl, ps, h1, h2⟩ hK
      gi_wp2
      refine ⟨by simp, .inl ⟨_, _, rfl, run_takeDeferred hK, ?_⟩⟩
      exact ⟨_, results_none rfl _ _ _, ⟨_, rfl⟩, .inr ⟨ps, h1, hJx _ _ _ _ h2 (putObj_grown V _ _) (fun r e => by cases e; exact ⟨by omega, .inl ⟨_, hK, rfl⟩⟩)⟩⟩

/-- The blocks that 'pairs' must find again: its three boxes, and the path's. -/
def pairG (bo bn bi : Nat) (pv : Value) (g : Nat) : Prop := g = bo ∨ g = bn ∨ g = bi ∨ ∃ b o n c, pv = .slice (some ⟨b, o, none⟩) n c ∧ n ≠ 0 ∧ g = b
/-- The kinds of blocks that it must find again wherever they lie. -/
def pairQ (o : Obj) : Prop := o.isCells = false ∨ ∃ cs fz, o = .cells cs 65 fz
theorem pairG_lt {bo bn bi B : Nat} {pv : Value} {w : World} {path : List (BitVec 64)} (h1 : bo < B) (h2 : bn < B) (h3 : bi < B) (hp : U64At w pv path) (hB : w.heap.size ≤ B) : ∀ k, pairG bo bn bi pv k → k < B := by
  rintro k (rfl | rfl | rfl | ⟨b, o, n, c, rfl, h0, rfl⟩)
  · exact h1
  · exact h2
  · exact h3
  · obtain ⟨_, p', c', e, _, _, _, h⟩ := hp
    simp only [Value.slice.injEq] at e
    obtain ⟨rfl, rfl, rfl⟩ := e
    obtain ⟨b', o', e', hc⟩ := h h0
    have hlt := World.block_lt_of_cell? _ _ (hc 0 (by omega))
    simp only [Option.some.injEq, Addr.mk.injEq] at e'
    simp only at hlt
    omega
theorem pair_seq (n i : Nat) (hi : i < n) (hn : n ≤ 4096) (leaf : BitVec 64) (path : List (BitVec 64)) (hlen : path.length = (sibs 0 n i).length) (bo bn bi : Nat) (pv : Value) (w0 : World)
    (ho : w0.heap[bo]? = some (.cells #[.int .u64 (leaf.toNat : Int), pv] 25 (0, 0))) (hbn : Boxed w0 bn 3 (.int .i64 (n : Int))) (hbi : Boxed w0 bi 3 (.int .i64 (i : Int))) (hp : U64At w0 pv path) :
    SeqG Try.prog 36 #[.pointer (some ⟨bo, 0, none⟩), .pointer (some ⟨bn, 0, none⟩), .pointer (some ⟨bi, 0, none⟩)] (fun x => #[encP x]) (pairsB n i leaf path) (pairG bo bn bi pv) 7 pairQ w0 :=
  fun m l J Jx W hG hJ hJx hY h0 =>
    pairs1_in pairQ (fun _ h => .inl h) (fun cs fz => .inr ⟨cs, fz, rfl⟩) n i hi hn leaf path hlen bo bn bi pv (pairG bo bn bi pv) (.inl rfl) (.inr (.inl rfl)) (.inr (.inr (.inl rfl))) w0 ho hbn hbi
      (hp.in_ _ (fun b o n c e h => .inr (.inr (.inr ⟨b, o, n, c, e, h, rfl⟩)))) m l J Jx W hG hJ hJx hY h0
end Go.Proofs.Ytchmiaeajkpijaa

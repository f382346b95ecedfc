import Derived.Test.YtchmiaeajkpijaaLt
import Derived.RangeFuncNested
import Derived.RangeFuncBound
import Derived.RangeFuncCalls
import Derived.RangeFuncLeaves
import Derived.Shelf.Abstract
import Derived.Shelf.RegionOpen
import Derived.OwnWalkIn
import Derived.TacticsInMore
import Derived.LoopNIn
import Derived.LoopIn
namespace Go.Proofs.Ytchmiaeajkpijaa
open Go.RowKit Go.Shelf
set_option linter.unusedVariables false

/-! Ranges over iterators that keep a state of their own in cells. -/
/-- What an iterator whose call began at a heap of B blocks may turn: what is no cells, and its own first K blocks. -/
def Turn (B K : Nat) (row : Option Nat) (W : World) : Prop := ∀ r, row = some r → B ≤ r ∧ ((∃ o : Obj, W.heap[r]? = some o ∧ o.isCells = false) ∨ r < B + K)
def Bears {β : Type} (B K : Nat) (J : β → World → Prop) : Prop := ∀ s W W' row, J s W → W.grownBy W' row → Turn B K row W → J s W'
theorem Bears.and {β : Type} {B K : Nat} {J J' : β → World → Prop} (h : Bears B K J) (h' : Bears B K J') : Bears B K (fun s W => J s W ∧ J' s W) := fun s W W' row hs hg ht => ⟨h s W W' row hs.1 hg ht, h' s W W' row hs.2 hg ht⟩
theorem Bears.pure {β : Type} (B K : Nat) (p : β → Prop) : Bears B K (fun s (_ : World) => p s) := fun _ _ _ _ hs _ _ => hs
theorem Bears.low {β : Type} {B K B' K' : Nat} {J : β → World → Prop} (h : Bears B K J) (h1 : B ≤ B') (h2 : B' + K' ≤ B + K) : Bears B' K' J :=
  fun s W W' row hs hg ht => h s W W' row hs hg fun r e => ⟨by have := (ht r e).1; omega, (ht r e).2.elim Or.inl fun h => Or.inr (by omega)⟩
theorem Bears.alloc {β : Type} {B K : Nat} {J : β → World → Prop} (h : Bears B K J) {s : β} {W : World} (o : Obj) (hs : J s W) : J s (W.alloc o) :=
  h s W _ none hs (World.grownBy_alloc W o none) (fun r e => by cases e)
theorem Bears.below {β : Type} {n0 B K : Nat} {w : World} (h1 : n0 ≤ B) (h2 : n0 ≤ w.heap.size) : Bears B K (fun (_ : β) W => Below n0 w W) :=
  fun s W W' row hs hg ht => hs.grown hg (Nat.le_trans h2 hs.size) (fun k e => by have := (ht k e).1; omega)
theorem Bears.boxed {β : Type} {B K b : Nat} (t : TypeId) (f : β → Value) (hb : b < B) : Bears B K (fun s W => Boxed W b t (f s)) :=
  fun s W W' row hs hg ht => hs.kept hg (fun e => by have := (ht b e.symm).1; omega)
theorem Bears.block {β : Type} {B K b : Nat} (f : β → Obj) (hb : b < B) : Bears B K (fun s W => W.heap[b]? = some (f s)) :=
  fun s W W' row hs hg ht => (hg.block b (Array.getElem?_eq_some_iff.1 hs).1 (fun e => by have := (ht b e.symm).1; omega)).trans hs

/-- What a round keeps: the blocks of G; and from B on all of the kind q. -/
structure Kept (B : Nat) (G : Nat → Prop) (q : Obj → Prop) (W W' : World) : Prop where
  size : W.heap.size ≤ W'.heap.size
  same : ∀ (k : Nat) (o : Obj), W.heap[k]? = some o → (G k ∨ (B ≤ k ∧ q o)) → W'.heap[k]? = some o
theorem Kept.refl (B : Nat) (G : Nat → Prop) (q : Obj → Prop) (W : World) : Kept B G q W W := ⟨Nat.le_refl _, fun _ _ h _ => h⟩
theorem Kept.trans {B : Nat} {G : Nat → Prop} {q : Obj → Prop} {X Y Z : World} (h : Kept B G q X Y) (k : Kept B G q Y Z) : Kept B G q X Z :=
  ⟨Nat.le_trans h.size k.size, fun i o hi ho => k.same i o (h.same i o hi ho) ho⟩
theorem Kept.of_grownBy {B : Nat} {G : Nat → Prop} {q : Obj → Prop} {W W' : World} {row : Option Nat} (hg : W.grownBy W' row) (hr : ∀ r o, row = some r → W.heap[r]? = some o → ¬ G r ∧ (B ≤ r → ¬ q o)) : Kept B G q W W' :=
  ⟨hg.size, fun k o hk hq => (hg.block k (Array.getElem?_eq_some_iff.1 hk).1 (fun e => by
    have h2 := hr k o e.symm hk
    rcases hq with h | ⟨h, h'⟩
    · exact h2.1 h
    · exact h2.2 h h')).trans hk⟩
theorem Kept.alloc {B : Nat} {G : Nat → Prop} {q : Obj → Prop} (W : World) (o : Obj) : Kept B G q W (W.alloc o) := Kept.of_grownBy (World.grownBy_alloc W o none) (fun r o e => by cases e)
theorem Kept.weaken {B B' : Nat} {G G' : Nat → Prop} {q : Obj → Prop} {W W' : World} (h : Kept B G q W W') (hB : B ≤ B') (hG : ∀ k, G' k → G k) : Kept B' G' q W W' :=
  ⟨h.size, fun k o hk hq => h.same k o hk (hq.elim (fun g => Or.inl (hG k g)) fun ⟨h1, h2⟩ => Or.inr ⟨by omega, h2⟩)⟩
/-- The blocks that an iterator of K own blocks, called at a heap of B, must find again. -/
def Hold (G : Nat → Prop) (B K : Nat) (g : Nat) : Prop := G g ∨ (B ≤ g ∧ g < B + K)

theorem room_any (k : Nat) : Fence.wide.room k := room_wide k
theorem round_any {m m' : Nat} {P : Program} {l : Nat} {f : FuncId} {tmps : Array Value} {assign body : Code} {w : World} {R : Ending → World → Prop}
    (h : RoundIn Fence.wide m P l f tmps assign body w R) : RoundIn Fence.wide m' P l f tmps assign body w R := ⟨h.1, fun c cs _ => h.2 c cs (room_wide _)⟩
theorem yield_any {m : Nat} (m' : Nat) {P : Program} {l : Nat} {args : Array Value} {W : World} {R : Ending → World → Prop} (h : YieldAt Fence.wide m P l args W R) : YieldAt Fence.wide m' P l args W R := by
  obtain ⟨fn, tmps, assign, body, hy, hR⟩ := h
  exact ⟨fn, tmps, assign, body, hy, round_any hR⟩

/-- The contract of an iterator that yields the elements of a list in their order. -/
def SeqG {α : Type} (P : Program) (gf : Nat) (lb : Array Value) (encs : α → Array Value) (full : List α) (G : Nat → Prop) (K : Nat) (q : Obj → Prop) (w0 : World) : Prop :=
  ∀ (m l : Nat) (J Jx : List α → World → Prop) (W : World), (∀ g o, G g → w0.heap[g]? = some o → W.heap[g]? = some o) → Bears W.heap.size K J → Bears W.heap.size K Jx →
    (∀ m pre x W1, J pre W1 → W.heap.size + K ≤ W1.heap.size → pre ++ [x] <+: full → YieldAt Fence.wide m P l (encs x) W1 fun e W' =>
      (e = .returned (.bool true) ∧ J (pre ++ [x]) W' ∧ Kept W.heap.size (Hold G W.heap.size K) q W1 W') ∨ (e = .returned (.bool false) ∧ Jx (pre ++ [x]) W' ∧ Kept W.heap.size (Hold G W.heap.size K) q W1 W')) →
    J [] W →
    CallsIn Fence.wide m P gf (#[.func (.yield l) #[] #[]] ++ lb) W fun e W' => (∃ v, e = .returned v) ∧ (J full W' ∨ ∃ pre, pre <+: full ∧ Jx pre W')

/-- How a round may be left. -/
def roundP {α : Type} (KB : World → World → Prop) (I : List α → World → Prop) (Ix : Code → List α → World → Prop) (xs : List α) (W : World) : Exit → Act → World → Prop
  | .normal, _, W' => KB W W' ∧ I xs W'
  | .ret, _, W' => KB W W' ∧ Ix .ret xs W'
  | .exit id, _, W' => KB W W' ∧ Ix (.exit id) xs W'
  | .goto t, _, W' => KB W W' ∧ Ix (.goto t) xs W'
  | .panic _, _, _ => False
  | .outgrown, _, _ => False

theorem putObj_grown (W : World) (l : Nat) (o : Obj) : W.grownBy (W.putObj l o) (some l) := grownBy_putObj' W l o

/-- The statement, outermost in its function. -/
theorem range_law {α : Type} {P : Program} {m : Nat} {g : Operand} {ps : Array Tmp} {assign body : Code} {Q : Exit → Act → World → Prop} {a : Act} {w : World}
    {gf : Nat} {lb : Array Value} (hg : a.eval g = .func (.func gf) #[] lb) (eg : ∀ args w, (callFunc gf args).run P w = .ok (.enter gf args) w)
    {encs : α → Array Value} {full : List α} {G : Nat → Prop} {K : Nat} {q : Obj → Prop} {w0 : World} (hseq : SeqG P gf lb encs full G K q w0)
    (hG : ∀ k, G k → k < w.heap.size) (hw : ∀ k o, G k → w0.heap[k]? = some o → w.heap[k]? = some o) (hps : ∀ x, (encs x).size = ps.size) (hq : ∀ o : Obj, o.isCells = false → q o)
    (I : List α → World → Prop) (Ix : Code → List α → World → Prop) (hI : Bears w.heap.size (K + 2) I) (hIx : ∀ c, Bears w.heap.size (K + 2) (Ix c)) (h0 : I [] w)
    (hround : ∀ (l : Nat) (pre : List α) (x : α) (W : World), I pre W → w.heap.size + 2 + K ≤ W.heap.size → pre ++ [x] <+: full →
      assign.wpIn (Fence.wide.inRound l) m P (Exit.then (fun a₁ W₁ => Kept w.heap.size (Hold G w.heap.size (K + 2)) q W W₁ ∧ I pre W₁ ∧
        ∀ W₂, W₁.grownBy W₂ (some (w.heap.size + 1)) → I pre W₂ → w.heap.size + 2 + K ≤ W₂.heap.size → body.wpIn (Fence.wide.inRound l) m P (roundP (Kept w.heap.size (Hold G w.heap.size (K + 2)) q) I Ix (pre ++ [x]) W₂) a₁ W₂) (fun _ _ _ => False))
        { tmps := (ps.zip (encs x)).foldl (fun t (p, v) => t.setIfInBounds p v) a.tmps, defers := [] } W)
    (hdone : ∀ (W : World), I full W → W.heap[w.heap.size]? = some (.deferred (some [])) → w.heap.size + 2 ≤ W.heap.size → Q .normal { a with defers := { target := .collected w.heap.size, args := #[] } :: a.defers } W)
    (hstop : ∀ (c : Code) (pre : List α) (W : World), pre <+: full → Ix c pre W → W.heap[w.heap.size]? = some (.deferred (some [])) → c.wpIn Fence.wide m P Q { a with defers := { target := .collected w.heap.size, args := #[] } :: a.defers } W) :
    (Code.rangeFunc g ps assign body).wpIn Fence.wide m P Q a w := by
  refine wpIn_rangeFunc fun fn hfn => ?_
  -- the two blocks of the statement: the rounds' deferred calls, and the record
  obtain ⟨rec, hrec⟩ : ∃ rec : LoopState → Option Code → Loop, rec = fun st pe => { state := st, pending := pe, fn, tmps := a.tmps, params := ps, assign, body, defers := w.heap.size } := ⟨_, rfl⟩
  obtain ⟨V, hV⟩ : ∃ V, (w.alloc (.deferred (some []))).alloc (.loop (rec .ready none)) = V := ⟨_, rfl⟩
  have hVs : V.heap.size = w.heap.size + 2 := by rw [← hV]; simp
  have hVr : V.heap[w.heap.size + 1]? = some (.loop (rec .ready none)) := by
    rw [← hV]
    have := World.alloc_heap_new (w.alloc (.deferred (some []))) (.loop (rec .ready none))
    rwa [World.size_alloc] at this
  have hVd : V.heap[w.heap.size]? = some (.deferred (some [])) := by
    rw [← hV]
    exact (Below.heap_alloc _ _ _ (by simp)).trans (World.alloc_heap_new w _)
  have hVg : ∀ k o, G k → w0.heap[k]? = some o → V.heap[k]? = some o := fun k o hk ho => by
    have hlt := hG k hk
    rw [← hV]
    exact (Below.heap_alloc _ _ _ (by simp; omega)).trans ((Below.heap_alloc _ _ _ hlt).trans (hw k o hk ho))
  have hVI : I [] V := by rw [← hV]; exact hI.alloc _ (hI.alloc _ h0)
  refine ⟨w.heap.size + 1, [{ target := .collected w.heap.size, args := #[] }], V, { target := .fn (.func gf) lb, args := #[.func (.yield (w.heap.size + 1)) #[] #[]] }, V, gf,
    #[.func (.yield (w.heap.size + 1)) #[] #[]] ++ lb, V, ?_, ?_, fun _ _ => trivial, ?_, (fun h => by cases h), ?_⟩
  · rw [← hV, hrec]
    exact run_enterLoop_outer _ _ _ _ _
  · simp only [resolve, hg]
    simp [go_sem]
  · simp [invoke, go_sem, eg]
  -- what the iterator may turn leaves the two blocks as they lie
  have keepBlk : ∀ {A B : World} {row : Option Nat} {k : Nat} {o : Obj}, k < V.heap.size → A.grownBy B row → Turn V.heap.size K row A → A.heap[k]? = some o → B.heap[k]? = some o := fun {A B row k o} hk hgr ht ho =>
    (hgr.block k (Array.getElem?_eq_some_iff.1 ho).1 (fun e => by have := (ht k e.symm).1; omega)).trans ho
  have lift : ∀ {A : World} {row : Option Nat}, Turn V.heap.size K row A → Turn w.heap.size (K + 2) row A := fun ht r e => ⟨by have := (ht r e).1; omega, (ht r e).2.elim Or.inl fun h => Or.inr (by omega)⟩
  have turnR : ∀ {A : World} {r : Loop}, A.heap[w.heap.size + 1]? = some (.loop r) → Turn w.heap.size (K + 2) (some (w.heap.size + 1)) A := fun {A r} h k e => by
    cases e
    exact ⟨by omega, Or.inr (by omega)⟩
  refine (hseq (m - 1) (w.heap.size + 1)
    (fun pre W => I pre W ∧ W.heap[w.heap.size + 1]? = some (.loop (rec .ready none)) ∧ W.heap[w.heap.size]? = some (.deferred (some [])))
    (fun pre W => ∃ c, Ix c pre W ∧ W.heap[w.heap.size + 1]? = some (.loop (rec .done (some c))) ∧ W.heap[w.heap.size]? = some (.deferred (some [])))
    V hVg
    (fun s A B row hs hgr ht => ⟨hI s A B row hs.1 hgr (lift ht), keepBlk (by omega) hgr ht hs.2.1, keepBlk (by omega) hgr ht hs.2.2⟩)
    (fun s A B row hs hgr ht => by
      obtain ⟨c, h1, h2, h3⟩ := hs
      exact ⟨c, hIx c s A B row h1 hgr (lift ht), keepBlk (by omega) hgr ht h2, keepBlk (by omega) hgr ht h3⟩)
    ?_ ⟨hVI, hVr, hVd⟩).mono ?_
  · -- one round
    rintro m1 pre x W ⟨hi, hl, hd⟩ hsz hpre
    rw [hVs] at hsz
    have hy := run_yield (P := P) (args := encs x) hl (by rw [hrec]; exact hps x)
    rw [hrec] at hy
    refine ⟨fn, _, assign, body, hy, round_any (m := m) (roundIn_of_wpIn hfn (wpIn_mono (hround _ pre x W hi (by omega) hpre) ?_))⟩
    clear hy
    rintro e a₁ W₁ hp
    cases e with
    | normal =>
      obtain ⟨hk1, hi1, hgo⟩ := hp
      have hl1 := hk1.same _ _ hl (Or.inr ⟨by omega, hq _ rfl⟩)
      have hd1 := hk1.same _ _ hd (Or.inr ⟨by omega, hq _ rfl⟩)
      have hlt1 := (Array.getElem?_eq_some_iff.1 hl1).1
      refine ⟨_, run_beginRound hl1 (by rw [hrec]), ?_⟩
      obtain ⟨W₂, hW₂⟩ : ∃ W₂, W₁.putObj (w.heap.size + 1) (.loop { rec .ready none with state := .busy }) = W₂ := ⟨_, rfl⟩
      rw [hW₂]
      have hg2 : W₁.grownBy W₂ (some (w.heap.size + 1)) := by rw [← hW₂]; exact putObj_grown _ _ _
      have hl2 : W₂.heap[w.heap.size + 1]? = some (.loop { rec .ready none with state := .busy }) := by rw [← hW₂]; exact World.putObj_heap_same hlt1
      have hd2 : W₂.heap[w.heap.size]? = some (.deferred (some [])) := by rw [← hW₂]; exact (World.putObj_heap_other (by omega)).trans hd1
      have hi2 := hI _ _ _ _ hi1 hg2 (turnR hl1)
      have hk2 : Kept V.heap.size (Hold G V.heap.size K) q W₁ W₂ := Kept.of_grownBy hg2 (fun r o e ho => by
        cases e
        refine ⟨fun h => ?_, fun h => by omega⟩
        rcases h with h | h
        · have := hG _ h; omega
        · omega)
      have narrow : ∀ {A B : World}, Kept w.heap.size (Hold G w.heap.size (K + 2)) q A B → Kept V.heap.size (Hold G V.heap.size K) q A B := fun h => h.weaken (by omega) (fun k hk => hk.elim Or.inl fun ⟨h1, h2⟩ => Or.inr ⟨by omega, by omega⟩)
      refine wpIn_mono (hgo W₂ hg2 hi2 (by have := hk1.size; have := hk2.size; omega)) ?_
      have fin : ∀ (jump : Option Code) (W3 : World), Kept w.heap.size (Hold G w.heap.size (K + 2)) q W₂ W3 →
          (Instr.endRound (w.heap.size + 1) jump).run P W3 = .ok (.bool jump.isNone) (W3.putObj (w.heap.size + 1) (.loop (rec (if jump.isNone then .ready else .done) jump))) ∧
          W3.heap[w.heap.size + 1]? = some (.loop { rec .ready none with state := .busy }) ∧
          (W3.putObj (w.heap.size + 1) (.loop (rec (if jump.isNone then .ready else .done) jump))).heap[w.heap.size + 1]? = some (.loop (rec (if jump.isNone then .ready else .done) jump)) ∧
          (W3.putObj (w.heap.size + 1) (.loop (rec (if jump.isNone then .ready else .done) jump))).heap[w.heap.size]? = some (.deferred (some [])) ∧
          Kept V.heap.size (Hold G V.heap.size K) q W (W3.putObj (w.heap.size + 1) (.loop (rec (if jump.isNone then .ready else .done) jump))) := fun jump W3 hk3 => by
        have hl3 := hk3.same _ _ hl2 (Or.inr ⟨by omega, hq _ rfl⟩)
        have hd3 := hk3.same _ _ hd2 (Or.inr ⟨by omega, hq _ rfl⟩)
        have hr := run_endRound (P := P) jump hl3
        rw [hrec] at hr ⊢
        refine ⟨hr, by rw [hrec] at hl3; exact hl3, World.putObj_heap_same (Array.getElem?_eq_some_iff.1 hl3).1, (World.putObj_heap_other (by omega)).trans hd3, (((narrow hk1).trans hk2).trans (narrow hk3)).trans (Kept.of_grownBy (putObj_grown _ _ _) (fun r o e ho => ?_))⟩
        cases e
        refine ⟨fun h => ?_, fun h => by omega⟩
        rcases h with h | h
        · have := hG _ h; omega
        · omega
      rintro e a3 W3 hp
      cases e with
      | normal =>
        obtain ⟨hk3, hi3⟩ := hp
        obtain ⟨hr, hl3, hl4, hd4, hk4⟩ := fin none W3 hk3
        exact ⟨_, _, hr, .inl ⟨rfl, ⟨hI _ _ _ _ hi3 (putObj_grown _ _ _) (turnR hl3), hl4, hd4⟩, hk4⟩⟩
      | ret =>
        obtain ⟨hk3, hi3⟩ := hp
        obtain ⟨hr, hl3, hl4, hd4, hk4⟩ := fin (some .ret) W3 hk3
        exact ⟨_, _, hr, .inr ⟨rfl, ⟨.ret, hIx _ _ _ _ _ hi3 (putObj_grown _ _ _) (turnR hl3), hl4, hd4⟩, hk4⟩⟩
      | exit id =>
        obtain ⟨hk3, hi3⟩ := hp
        obtain ⟨hr, hl3, hl4, hd4, hk4⟩ := fin (some (.exit id)) W3 hk3
        exact ⟨_, _, hr, .inr ⟨rfl, ⟨.exit id, hIx _ _ _ _ _ hi3 (putObj_grown _ _ _) (turnR hl3), hl4, hd4⟩, hk4⟩⟩
      | goto t =>
        obtain ⟨hk3, hi3⟩ := hp
        obtain ⟨hr, hl3, hl4, hd4, hk4⟩ := fin (some (.goto t)) W3 hk3
        exact ⟨_, _, hr, .inr ⟨rfl, ⟨.goto t, hIx _ _ _ _ _ hi3 (putObj_grown _ _ _) (turnR hl3), hl4, hd4⟩, hk4⟩⟩
      | panic ch => exact hp.elim
      | outgrown => exact hp.elim
    | ret => exact hp.elim
    | exit id => exact hp.elim
    | goto t => exact hp.elim
    | panic ch => exact hp.elim
    | outgrown => exact hp.elim
  · -- behind the iterator
    rintro e W2 ⟨⟨v, rfl⟩, (⟨hi, hl, hd⟩ | ⟨pre, hp, c, hi, hl, hd⟩)⟩
    · refine ⟨none, _, by have := run_endLoop (P := P) hl (by rw [hrec]; simp); rw [hrec] at this; exact this, hdone _ (hI _ _ _ _ hi (putObj_grown _ _ _) (turnR hl)) ((World.putObj_heap_other (by omega)).trans hd) (by have := (Array.getElem?_eq_some_iff.1 hl).1; simp; omega)⟩
    · refine ⟨some c, _, by have := run_endLoop (P := P) hl (by rw [hrec]; simp); rw [hrec] at this; exact this, hstop c pre _ hp (hIx c _ _ _ _ hi (putObj_grown _ _ _) (turnR hl)) ((World.putObj_heap_other (by omega)).trans hd)⟩
end Go.Proofs.Ytchmiaeajkpijaa

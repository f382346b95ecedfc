import Derived.Test.YtdcaecpcofencaaJe
import Derived.WalkKit
import Derived.WalkSpells
import Derived.WalkLawsBesides
import Derived.RegionTactic
import Derived.LoopTactic
import Derived.Deep.LoopGhost
import Derived.Deep.QuietTactic
import Derived.BigQuiet
import Derived.Outline
import Derived.Below
import Derived.IntWalk
import Derived.Deep.Draws
import Derived.Deep.RegionHeld3
import Derived.Deep.OwnRows
import Derived.Deep.Cut
import Derived.Deep.DeepCutAuto
import Derived.Laws.OwnMore
import Derived.Laws.Rows
import Derived.Laws.AppendOwn
import Derived.Laws.AppendOwnNone
import Derived.StillTailTactics
import Derived.Lib.Hide
namespace Go.Proofs.Ytdcaecpcofencaa
open Go.RowKit Go.Instr Go.Deep
set_option linter.unusedVariables false
set_option linter.unusedSimpArgs false

/-! Gaps in memory: a row of rows of numbers. -/
theorem hidA {p : Prop} (h : p) : Hid p := h
theorem retA {a b : Int} (h : a = b) : Ending.returned (.int .i64 a) = .returned (.int .i64 b) := by rw [h]
theorem retB {a b : Bool} (h : a = b) : Ending.returned (.bool a) = .returned (.bool b) := by rw [h]
theorem bcell {W w1 : World} (hb : Below W.heap.size W w1) : (∀ b o, b < W.heap.size → w1.cell? ⟨b, o, none⟩ = W.cell? ⟨b, o, none⟩) ∧ (∀ b o, b < W.heap.size → w1.frozen? ⟨b, o, none⟩ = W.frozen? ⟨b, o, none⟩) :=
  ⟨fun b o h => hb.cell (p := ⟨b, o, none⟩) h, fun b o h => hb.frozen (p := ⟨b, o, none⟩) h⟩
theorem stepA {w w1 w2 : World} (h : Below w.heap.size w w1) (k : Below w1.heap.size w1 w2) : Below w.heap.size w w2 := h.trans (k.mono h.size)
theorem cellA {w w' : World} {p : Addr} {x : Value} (hb : Below w.heap.size w w') (h : w.cell? p = some x) : w'.cell? p = some x := (hb.cell (World.block_lt_of_cell? w _ h)).trans h
theorem drewnA {B : Nat} {a w : World} (h : Below B a w) (n : Nat) : Below B a (w.drewN n) := ⟨h.os, h.tape, h.output, h.size, h.block⟩

/-- Gaps: the row of rows lies in block b, row i in block R i with C i cells; all from block lo on. -/
structure Gr (w : World) (lo b n m : Nat) (R C : Nat → Nat) (Z : Nat → Nat → Int) : Prop where
  lob : lo ≤ b
  hd : ∃ cs, w.heap[b]? = some (.cells cs 22 (0, 0)) ∧ ∀ i, i < n → cs[i]? = some (.slice (some ⟨R i, 0, none⟩) m (C i))
  row : ∀ i, i < n → lo ≤ R i ∧ ∃ cs, w.heap[R i]? = some (.cells cs 3 (0, 0)) ∧ ∀ j, j < m → cs[j]? = some (.int .i64 (Z i j))
  inj : ∀ i j, i < n → j < n → R i = R j → i = j

section
variable {w w' : World} {lo b n m : Nat} {R C : Nat → Nat} {Z : Nat → Nat → Int}
theorem Gr.cellh (h : Gr w lo b n m R C Z) {i : Nat} (hi : i < n) : w.cell? ⟨b, i, none⟩ = some (.slice (some ⟨R i, 0, none⟩) m (C i)) := by
  obtain ⟨cs, h1, h2⟩ := h.hd
  exact (cell_of_row w b i cs _ (0, 0) h1).trans (h2 i hi)
theorem Gr.cellv (h : Gr w lo b n m R C Z) {i j : Nat} (hi : i < n) (hj : j < m) : w.cell? ⟨R i, j, none⟩ = some (.int .i64 (Z i j)) := by
  obtain ⟨-, cs, h1, h2⟩ := h.row i hi
  exact (cell_of_row w (R i) j cs _ (0, 0) h1).trans (h2 j hj)
theorem Gr.frh (h : Gr w lo b n m R C Z) (i : Nat) : w.frozen? ⟨b, i, none⟩ = false := by
  obtain ⟨cs, h1, h2⟩ := h.hd
  simp [World.frozen?, h1]
theorem Gr.frv (h : Gr w lo b n m R C Z) {i : Nat} (hi : i < n) (j : Nat) : w.frozen? ⟨R i, j, none⟩ = false := by
  obtain ⟨-, cs, h1, h2⟩ := h.row i hi
  simp [World.frozen?, h1]
theorem lt_of_blk {w : World} {g : Nat} {x : Obj} (h : w.heap[g]? = some x) : g < w.heap.size := (Array.getElem?_eq_some_iff.1 h).1
theorem Gr.ltb (h : Gr w lo b n m R C Z) : b < w.heap.size := by
  obtain ⟨cs, h1, h2⟩ := h.hd
  exact lt_of_blk h1
theorem Gr.ltR (h : Gr w lo b n m R C Z) {i : Nat} (hi : i < n) : R i < w.heap.size := by
  obtain ⟨-, cs, h1, h2⟩ := h.row i hi
  exact lt_of_blk h1
theorem Gr.ne (h : Gr w lo b n m R C Z) {i : Nat} (hi : i < n) : R i ≠ b := by
  obtain ⟨-, cs, h1, h2⟩ := h.row i hi
  obtain ⟨ds, h3, h4⟩ := h.hd
  intro e
  rw [e, h3] at h1
  injection h1 with h1
  injection h1 with _ ht
  exact absurd ht (by decide)
theorem Gr.keep (h : Gr w lo b n m R C Z) (hk : ∀ g, g < w.heap.size → w'.heap[g]? = w.heap[g]?) : Gr w' lo b n m R C Z := by
  refine ⟨h.lob, ?_, fun i hi => ⟨(h.row i hi).1, ?_⟩, h.inj⟩
  · obtain ⟨cs, h1, h2⟩ := h.hd
    exact ⟨cs, (hk b h.ltb).trans h1, h2⟩
  · obtain ⟨-, cs, h1, h2⟩ := h.row i hi
    exact ⟨cs, (hk _ (h.ltR hi)).trans h1, h2⟩
theorem Gr.below {B : Nat} (h : Gr w lo b n m R C Z) (hB : w.heap.size ≤ B) (hb : Below B w w') : Gr w' lo b n m R C Z := h.keep fun g hg => hb.block g (by omega)
theorem Gr.belowA (h : Gr w lo b n m R C Z) (hb : Below w.heap.size w w') : Gr w' lo b n m R C Z := h.below (Nat.le_refl _) hb
theorem Gr.alloc (h : Gr w lo b n m R C Z) (o : Obj) : Gr (w.alloc o) lo b n m R C Z := h.keep fun g hg => blk_alloc_lt _ _ _ hg
theorem Gr.drew (h : Gr w lo b n m R C Z) : Gr w.drew lo b n m R C Z := h.keep fun g hg => rfl
theorem Gr.drewN (h : Gr w lo b n m R C Z) (k : Nat) : Gr (w.drewN k) lo b n m R C Z := h.keep fun g hg => rfl
theorem Gr.lo_le {lo' : Nat} (h : Gr w lo b n m R C Z) (hl : lo' ≤ lo) : Gr w lo' b n m R C Z := ⟨Nat.le_trans hl h.lob, h.hd, fun i hi => ⟨Nat.le_trans hl (h.row i hi).1, (h.row i hi).2⟩, h.inj⟩
theorem Gr.congr {Z' : Nat → Nat → Int} (h : Gr w lo b n m R C Z) (e : ∀ i j, i < n → j < m → Z i j = Z' i j) : Gr w lo b n m R C Z' := by
  refine ⟨h.lob, h.hd, fun i hi => ⟨(h.row i hi).1, ?_⟩, h.inj⟩
  obtain ⟨-, cs, h1, h2⟩ := h.row i hi
  exact ⟨cs, h1, fun j hj => by rw [h2 j hj, e i j hi hj]⟩
theorem setCell_row {w : World} {g : Nat} {cs : Array Value} {t : TypeId} (h : w.heap[g]? = some (.cells cs t (0, 0))) (i : Nat) (u : Value) : (w.setCell ⟨g, i, none⟩ u).heap[g]? = some (.cells (cs.setIfInBounds i u) t (0, 0)) := by
  simp [World.setCell, Array.getElem?_modify, h]
/-- A store of a number. -/
theorem Gr.set (h : Gr w lo b n m R C Z) {i0 : Nat} (hi0 : i0 < n) (j0 : Nat) (x : Int) : Gr (w.setCell ⟨R i0, j0, none⟩ (.int .i64 x)) lo b n m R C (fun i j => if i = i0 ∧ j = j0 then x else Z i j) := by
  refine ⟨h.lob, ?_, fun i hi => ⟨(h.row i hi).1, ?_⟩, h.inj⟩
  · obtain ⟨cs, h1, h2⟩ := h.hd
    exact ⟨cs, (blk_setCell_other w ⟨R i0, j0, none⟩ _ b (fun e => h.ne hi0 e.symm)).trans h1, h2⟩
  · obtain ⟨-, cs, h1, h2⟩ := h.row i hi
    by_cases e : i = i0
    · subst e
      refine ⟨_, setCell_row h1 j0 _, fun j hj => ?_⟩
      have hj2 := (Array.getElem?_eq_some_iff.1 (h2 j hj)).1
      rw [Array.getElem?_setIfInBounds]
      by_cases e2 : j = j0
      · subst e2
        simp [hj2]
      · rw [if_neg (fun h => e2 h.symm), h2 j hj]
        simp [e2]
    · refine ⟨cs, (blk_setCell_other w ⟨R i0, j0, none⟩ _ (R i) (fun e2 => e (h.inj i i0 hi hi0 e2))).trans h1, fun j hj => ?_⟩
      rw [h2 j hj]
      simp [e]
/-- A store elsewhere. -/
theorem Gr.far (h : Gr w lo b n m R C Z) {p : Addr} (hp : p.block < lo) (u : Value) : Gr (w.setCell p u) lo b n m R C Z := by
  refine ⟨h.lob, ?_, fun i hi => ⟨(h.row i hi).1, ?_⟩, h.inj⟩
  · obtain ⟨cs, h1, h2⟩ := h.hd
    exact ⟨cs, (blk_setCell_other w p _ b (by have := h.lob; omega)).trans h1, h2⟩
  · obtain ⟨h0, cs, h1, h2⟩ := h.row i hi
    exact ⟨cs, (blk_setCell_other w p _ (R i) (by omega)).trans h1, h2⟩

/-- The first k rows of n are made. -/
structure PGr (w : World) (lo b n m k : Nat) (R C : Nat → Nat) (Z : Nat → Nat → Int) : Prop where
  gr : Gr w lo b k m R C Z
  rest : ∃ cs, w.heap[b]? = some (.cells cs 22 (0, 0)) ∧ cs.size = n ∧ ∀ i, k ≤ i → i < n → cs[i]? = some (.slice none 0 0)
theorem PGr.cellr {k : Nat} (h : PGr w lo b n m k R C Z) {i : Nat} (hk : k ≤ i) (hi : i < n) : w.cell? ⟨b, i, none⟩ = some (.slice none 0 0) := by
  obtain ⟨cs, h1, -, h2⟩ := h.rest
  exact (cell_of_row w b i cs _ (0, 0) h1).trans (h2 i hk hi)
theorem PGr.start (w : World) (n m : Nat) (R C : Nat → Nat) (Z : Nat → Nat → Int) (hlo : lo ≤ w.heap.size) : PGr (w.alloc (.cells (madeCells #[.slice none 0 0] n) 22)) lo w.heap.size n m 0 R C Z :=
  ⟨⟨hlo, ⟨_, blk_alloc_new _ _, fun i hi => by omega⟩, fun i hi => by omega, fun i j hi => by omega⟩, ⟨_, blk_alloc_new _ _, size_madeCells _ _, fun i _ hi => by simp [madeCells, hi, Nat.mod_one]⟩⟩
theorem PGr.keep {k : Nat} (h : PGr w lo b n m k R C Z) (hk : ∀ g, g < w.heap.size → w'.heap[g]? = w.heap[g]?) : PGr w' lo b n m k R C Z := by
  refine ⟨h.gr.keep hk, ?_⟩
  obtain ⟨cs, h1, h2⟩ := h.rest
  exact ⟨cs, (hk b h.gr.ltb).trans h1, h2⟩
theorem PGr.belowA {k : Nat} (h : PGr w lo b n m k R C Z) (hb : Below w.heap.size w w') : PGr w' lo b n m k R C Z := h.keep fun g hg => hb.block g hg
theorem PGr.set {k : Nat} (h : PGr w lo b n m k R C Z) {i0 : Nat} (hi0 : i0 < k) (j0 : Nat) (x : Int) : PGr (w.setCell ⟨R i0, j0, none⟩ (.int .i64 x)) lo b n m k R C (fun i j => if i = i0 ∧ j = j0 then x else Z i j) := by
  refine ⟨h.gr.set hi0 j0 x, ?_⟩
  obtain ⟨cs, h1, h2⟩ := h.rest
  exact ⟨cs, (blk_setCell_other w ⟨R i0, j0, none⟩ _ b (fun e => h.gr.ne hi0 e.symm)).trans h1, h2⟩
theorem PGr.congr {k : Nat} {Z' : Nat → Nat → Int} (h : PGr w lo b n m k R C Z) (e : ∀ i j, i < k → j < m → Z i j = Z' i j) : PGr w lo b n m k R C Z' := ⟨h.gr.congr e, h.rest⟩
/-- One row more, of zeros. -/
theorem PGr.push {k : Nat} (h : PGr w lo b n m k R C Z) (hk : k < n) (hlo : lo ≤ w.heap.size) :
    PGr ((w.alloc (.cells (madeCells #[.int .i64 0] m) 3)).setCell ⟨b, k, none⟩ (.slice (some ⟨w.heap.size, 0, none⟩) m m)) lo b n m (k + 1) (fun i => if i = k then w.heap.size else R i) (fun i => if i = k then m else C i) (fun i j => if i = k then 0 else Z i j) := by
  obtain ⟨cs, h1, hs, h2⟩ := h.rest
  obtain ⟨ds, g1, g2⟩ := h.gr.hd
  obtain rfl : cs = ds := by
    rw [g1] at h1
    injection h1 with h1
    injection h1 with h1 _
    exact h1.symm
  have hb := h.gr.ltb
  have e1 : ((w.alloc (.cells (madeCells #[.int .i64 0] m) 3)).setCell ⟨b, k, none⟩ (.slice (some ⟨w.heap.size, 0, none⟩) m m)).heap[b]? = some (.cells (cs.setIfInBounds k (.slice (some ⟨w.heap.size, 0, none⟩) m m)) 22 (0, 0)) :=
    setCell_row ((blk_alloc_lt _ _ _ hb).trans h1) k _
  refine ⟨⟨h.gr.lob, ⟨_, e1, fun i hi => ?_⟩, fun i hi => ⟨?_, ?_⟩, fun i j hi hj => ?_⟩, ⟨_, e1, by simpa using hs, fun i hki hi => ?_⟩⟩
  · rw [Array.getElem?_setIfInBounds]
    by_cases e : i = k
    · subst e
      simp [hs, hk]
    · rw [if_neg (fun h => e h.symm), g2 i (by omega)]
      simp [e]
  · by_cases e : i = k
    · simp only [if_pos e]; exact hlo
    · simp only [if_neg e]; exact (h.gr.row i (by omega)).1
  · by_cases e : i = k
    · simp only [if_pos e]
      refine ⟨_, (blk_setCell_other _ ⟨b, k, none⟩ _ w.heap.size (by show w.heap.size ≠ b; omega)).trans (blk_alloc_new _ _), fun j hj => by simp [madeCells, hj, Nat.mod_one]⟩
    · simp only [if_neg e]
      obtain ⟨-, es, f1, f2⟩ := h.gr.row i (by omega)
      have hR := lt_of_blk f1
      exact ⟨es, (blk_setCell_other _ ⟨b, k, none⟩ _ (R i) (h.gr.ne (by omega))).trans ((blk_alloc_lt _ _ _ hR).trans f1), f2⟩
  · by_cases e : i = k
    · by_cases e2 : j = k
      · intro _; omega
      · simp only [if_pos e, if_neg e2]
        intro e3
        have := h.gr.ltR (i := j) (by omega)
        omega
    · by_cases e2 : j = k
      · simp only [if_neg e, if_pos e2]
        intro e3
        have := h.gr.ltR (i := i) (by omega)
        omega
      · simp only [if_neg e, if_neg e2]
        exact h.gr.inj i j (by omega) (by omega)
  · rw [Array.getElem?_setIfInBounds, if_neg (by omega)]
    exact h2 i (by omega) hi
end
end Go.Proofs.Ytdcaecpcofencaa

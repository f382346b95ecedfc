import Derived.Test.YtnholabamjodhaaAo
namespace Go.Proofs.Ytnholabamjodhaa
open Go.RowKit Go.Instr
set_option linter.unusedVariables false
set_option linter.unusedSimpArgs false

/-! A block that is known whole: stores of whole structs, and the end of a function whose result lies there. -/
def KnA (w : World) (g : Nat) (t : TypeId) (cs : Array Value) : Prop := w.heap[g]? = some (.cells cs t (0, 0))
theorem KnA.new (w : World) (t : TypeId) (cs : Array Value) : KnA (w.alloc (.cells cs t)) w.heap.size t cs := heap_alloc_new w _
theorem KnA.lt {w : World} {g : Nat} {t : TypeId} {cs : Array Value} (h : KnA w g t cs) : g < w.heap.size := (Array.getElem?_eq_some_iff.1 h).1
theorem KnA.alloc {w : World} {g : Nat} {t : TypeId} {cs : Array Value} (h : KnA w g t cs) (o : Obj) : KnA (w.alloc o) g t cs := (Below.heap_alloc w o g h.lt).trans h
theorem KnA.below {w w' : World} {g B : Nat} {t : TypeId} {cs : Array Value} (h : KnA w g t cs) (hb : Below B w w') (hg : g < B) : KnA w' g t cs := (hb.block g hg).trans h
theorem KnA.set_far {w : World} {g : Nat} {t : TypeId} {cs : Array Value} (h : KnA w g t cs) {p : Addr} (hp : g ≠ p.block) (u : Value) : KnA (w.setCell p u) g t cs := (heap_setCell_other w p g u hp).trans h
theorem KnA.drew {w : World} {g : Nat} {t : TypeId} {cs : Array Value} (h : KnA w g t cs) : KnA w.drew g t cs := h
theorem KnA.setRow {w : World} {g : Nat} {t : TypeId} {cs : Array Value} (h : KnA w g t cs) (cs' : Array Value) : KnA (w.setRow g cs') g t cs' := setRow_heap w g cs cs' t _ h
theorem below_setRow {B : Nat} {a w : World} (h : Below B a w) {g : Nat} (hg : B ≤ g) (cs : Array Value) : Below B a (w.setRow g cs) :=
  ⟨h.os, h.tape, h.output, by simpa using h.size, fun k hk => (setRow_other w g k cs (by omega)).trans (h.block k hk)⟩
theorem wpList_store_knA {P : Program} {ops : Array Oper} {rest : List Oper} {o : Oper} {a : Act} {w : World} {Q : Exit → Act → World → Prop} (hgd : o.guard = none) (ty : TypeId) (x y : Operand) (ho : o.op = .store ty x y)
    (g : Nat) (cells : Array Value) (hx : a.eval x = .pointer (some ⟨g, 0, none⟩)) (hy : a.eval y = .agg cells)
    (t : TypeId) (old : Array Value) (hg : KnA w g t old) (hi : (P.info? ty).map (·.size) = some cells.size)
    (hold : old.size = cells.size) (h1 : cells.toList.all (·.oneCell') = true)
    (h : wpList P ops Q rest (a.put o.dst undef) (w.setRow g cells)) : wpList P ops Q (o :: rest) a w :=
  wpList_plain hgd fun _ hK => wp_store_row ty x y ho g cells hx hy t old hg hi hold (by rw [← Array.all_toList]; exact h1) (hK _ _ h)
def aggD : TypeDesc → Bool
  | .struct _ => true
  | .array _ _ => true
  | _ => false
/-- The end of a function whose result lies in a block. -/
theorem end_knA {P : Program} {fn : Func} {Q : Ending → World → Prop} {tmps : Array Value} {w : World} {p : Tmp} {ty : TypeId} (hr : fn.results = #[.cell p ty]) (g : Nat) {t : TypeId} {cs : Array Value}
    (hp : tmps.getD p undef = .pointer (some ⟨g, 0, none⟩)) (hg : KnA w g t cs) (hu : (P.underlying ty).map aggD = some true) (hi : (P.info? ty).map (·.size) = some cs.size)
    (h : Q (.returned (.agg cs)) w) : bodyPost P fn Q .ret { tmps := tmps, defers := [] } w := by
  cases hd : P.underlying ty with
  | none => rw [hd] at hu; cases hu
  | some d =>
    rw [hd] at hu
    refine bodyPost_ret (results_cell_row hr tmps w g t cs (0, 0) d hp hg hd ?_ hi) rfl h
    cases d <;> first | rfl | (simp [aggD] at hu)
end Go.Proofs.Ytnholabamjodhaa

import Derived.Test.YtdcaecpcofencaaRows
import Derived.WalkKit
import Derived.WalkSpells
import Derived.WalkLawsBesides
namespace Go.Proofs.Ytdcaecpcofencaa
set_option linter.unusedSimpArgs false
open Go.RowKit Go.Instr Go.MapKept

theorem hid {p : Prop} (h : p) : Hid p := h

/-! A map that the call itself has just made, with integer keys: what a store of a new key and a look-up do. -/
theorem heap_new (w : World) (o : Obj) : (w.alloc o).heap[w.heap.size]? = some o := (MapKept.heap_alloc w o).1

theorem set_new (w : World) (o o' : Obj) : (w.alloc o).heap.setIfInBounds w.heap.size o' = (w.alloc o').heap := by
  show (w.heap.push o).setIfInBounds w.heap.size o' = w.heap.push o'
  apply Array.ext_getElem?
  intro i
  rw [Array.getElem?_setIfInBounds]
  by_cases h : w.heap.size = i
  · subst h; simp
  · rw [if_neg h]; simp [Array.getElem?_push, Ne.symm h]

theorem insert_new {P : Program} {T k e : TypeId} (hT : P.underlying T = some (.map k e)) (hk : P.underlying k = some (.int .i64)) (es : Array MapEntry) (clock : Nat) (n : Int) (v : Value)
    (hf : findNow (.int .i64) (.int .i64 n) es.toList 0 = some none) (w : World) :
    (mapUpdate T (.map (some w.heap.size)) (.int .i64 n) v).run P (w.alloc (.map es clock)) = .ok () (w.alloc (.map (es.push ⟨.int .i64 n, v, clock⟩) (clock + 1))) := by
  simp [mapUpdate, run_underlying hT, MapKept.run_getObj_map (heap_new w _), MapKept.run_checkKey hk (k := .int .i64 n) rfl, MapKept.run_findKey hk hf, MapKept.run_setObj_map _ (heap_new w _), Result.andThen, set_new]
  rfl

theorem lookup_new {P : Program} {T k e : TypeId} (hT : P.underlying T = some (.map k e)) (hk : P.underlying k = some (.int .i64)) (es : Array MapEntry) (clock : Nat) (n : Int) (v : Value) (i : Nat)
    (hf : findNow (.int .i64) (.int .i64 n) es.toList 0 = some (some (i, v))) (w : World) :
    (lookup T (.map (some w.heap.size)) (.int .i64 n) true).run P (w.alloc (.map es clock)) = .ok (.tuple #[v, .bool true]) (w.alloc (.map es clock)) := by
  simp [lookup, run_underlying hT, MapKept.run_getObj_map (heap_new w _), MapKept.run_checkKey hk (k := .int .i64 n) rfl, MapKept.run_findKey hk hf, Result.andThen]

theorem lookup_none {P : Program} {T k e : TypeId} (hT : P.underlying T = some (.map k e)) (hk : P.underlying k = some (.int .i64)) {z : Value} (hz : ∀ w, (zeroValue e).run P w = .ok z w) (es : Array MapEntry) (clock : Nat) (n : Int)
    (hf : findNow (.int .i64) (.int .i64 n) es.toList 0 = some none) (w : World) :
    (lookup T (.map (some w.heap.size)) (.int .i64 n) true).run P (w.alloc (.map es clock)) = .ok (.tuple #[z, .bool false]) (w.alloc (.map es clock)) := by
  simp [lookup, run_underlying hT, MapKept.run_getObj_map (heap_new w _), MapKept.run_checkKey hk (k := .int .i64 n) rfl, MapKept.run_findKey hk hf, Result.andThen, hz]
end Go.Proofs.Ytdcaecpcofencaa

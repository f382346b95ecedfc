import Derived.Test.YtdopjadlbhacfaaRows
import Derived.WalkKit
import Derived.WalkSpells
import Derived.WalkLawsBesides
import Derived.ProofKit
import Derived.Carry
import Derived.OpenShut
import Derived.Lib.SmallJoins
import Derived.Laws.IdiomArrays
namespace Go.Proofs.Ytdopjadlbhacfaa
section
set_option linter.unusedSimpArgs false
open Go.RowKit Go.Instr Go.MapKept

/-! A map that the call itself has just made, with integer keys: what a store of a new key and a look-up do. -/
theorem heap_new (w : World) (o : Obj) : (w.alloc o).heap[w.heap.size]? = some o := (MapKept.heap_alloc w o).1

theorem set_new (w : World) (o o' : Obj) : (w.alloc o).heap.setIfInBounds w.heap.size o' = (w.alloc o').heap := by
  show (w.heap.push o).setIfInBounds w.heap.size o' = w.heap.push o'
  apply Array.ext_getElem?
  intro i
  rw [Array.getElem?_setIfInBounds]
  by_cases h : w.heap.size = i
  · subst h; simp
  · rw [if_neg h]; simp [Array.getElem?_push, Ne.symm h]

theorem insert_new {P : Program} {T k e : TypeId} (hT : P.underlying T = some (.map k e)) (hk : P.underlying k = some (.int .i64)) (es : Array MapEntry) (clock : Nat) (n : Int) (v : Value)
    (hf : findNow (.int .i64) (.int .i64 n) es.toList 0 = some none) (w : World) :
    (mapUpdate T (.map (some w.heap.size)) (.int .i64 n) v).run P (w.alloc (.map es clock)) = .ok () (w.alloc (.map (es.push ⟨.int .i64 n, v, clock⟩) (clock + 1))) := by
  simp [mapUpdate, run_underlying hT, MapKept.run_getObj_map (heap_new w _), MapKept.run_checkKey hk (k := .int .i64 n) rfl, MapKept.run_findKey hk hf, MapKept.run_setObj_map _ (heap_new w _), Result.andThen, set_new]
  rfl

theorem lookup_new {P : Program} {T k e : TypeId} (hT : P.underlying T = some (.map k e)) (hk : P.underlying k = some (.int .i64)) (es : Array MapEntry) (clock : Nat) (n : Int) (v : Value) (i : Nat)
    (hf : findNow (.int .i64) (.int .i64 n) es.toList 0 = some (some (i, v))) (w : World) :
    (lookup T (.map (some w.heap.size)) (.int .i64 n) true).run P (w.alloc (.map es clock)) = .ok (.tuple #[v, .bool true]) (w.alloc (.map es clock)) := by
  simp [lookup, run_underlying hT, MapKept.run_getObj_map (heap_new w _), MapKept.run_checkKey hk (k := .int .i64 n) rfl, MapKept.run_findKey hk hf, Result.andThen]

theorem lookup_none {P : Program} {T k e : TypeId} (hT : P.underlying T = some (.map k e)) (hk : P.underlying k = some (.int .i64)) {z : Value} (hz : ∀ w, (zeroValue e).run P w = .ok z w) (es : Array MapEntry) (clock : Nat) (n : Int)
    (hf : findNow (.int .i64) (.int .i64 n) es.toList 0 = some none) (w : World) :
    (lookup T (.map (some w.heap.size)) (.int .i64 n) true).run P (w.alloc (.map es clock)) = .ok (.tuple #[z, .bool false]) (w.alloc (.map es clock)) := by
  simp [lookup, run_underlying hT, MapKept.run_getObj_map (heap_new w _), MapKept.run_checkKey hk (k := .int .i64 n) rfl, MapKept.run_findKey hk hf, Result.andThen, hz]
end

section
set_option linter.unusedSimpArgs false
open Go.RowKit Go.ChangeShapes Go.WideShapes Go.ChangeAt

/-! The end of a law's proof: it returned true, and of what was there nothing has changed. -/
theorem trodAll_below {H : Type} {enc : TypeId × Value → H} {P : Program} (hl : laidOutB P = true) {W W' : World} (hb : Below W.heap.size W W') :
    ∀ (ts : List TypeId) (vs : List Value) (ds : List (DataW H)) (ps : List MemPlace), ts.all (fun t => P.readableRec t && decide (t < P.types.size)) = true → (∀ x ∈ ps, x.block < W.heap.size) →
      DataW.TrodAll enc P W 0 (fun _ => true) true ts vs ds ps → DataW.TrodAll enc P W' 0 (fun b => decide (b < W.heap.size)) true ts vs ds ps := by
  intro ts
  induction ts with
  | nil => intro vs ds ps _ _ h; cases vs <;> cases ds <;> first | exact h | exact absurd h (by simp [DataW.TrodAll])
  | cons t ts ih =>
    intro vs ds ps hok hlt h
    cases vs with
    | nil => exact absurd h (by simp [DataW.TrodAll])
    | cons v vs =>
      cases ds with
      | nil => exact absurd h (by simp [DataW.TrodAll])
      | cons d ds =>
        obtain ⟨p, q, h1, h2, rfl⟩ := h
        simp only [List.all_cons, Bool.and_eq_true, decide_eq_true_eq] at hok
        exact ⟨p, q, Below.trod hl hok.1.1 hok.1.2 h1 hb (fun x hx => hlt x (List.mem_append_left _ hx)), ih vs ds q hok.2 (fun x hx => hlt x (List.mem_append_right _ hx)) h2, rfl⟩

theorem post_true {H : Type} {enc : TypeId × Value → H} {P : Program} {f : Func} {s : ChangeSpec} {apart : Bool} {T : TypeId} (hl : laidOutB P = true)
    (hpar : f.params.toList.all (fun t => P.readableRec t && decide (t < P.types.size)) = true) (hvars : s.vars = []) (hres : f.resultTypes = #[T]) (hT : P.underlying T = some .bool)
    {W W' : World} {args : Array Value} {ds : List (DataW H)} {before : List MemPlace} (hW : DataW.Whole enc P f.params.toList s.vars apart W args.toList ds [] before) (hb : Below W.heap.size W W')
    (hfn : s.fn H (ds ++ []) = { results := [.lit (.bool true)], args := ds }) : s.post enc P f apart true false false W args (.bool true) W' := by
  have hlt := fun x hx => hW.lt x hx
  have hW0 := hW
  obtain ⟨p, q, hA, hV, rfl, -, -⟩ := hW
  refine ⟨ds, [], p ++ q, [], p, [], hW0, ?_, ?_, ?_, hb.frame _, fun h => by cases h⟩
  · rw [hfn, hres]
    exact trodAll_mk1 (shut_bool hT true)
  · rw [hfn]
    exact trodAll_below hl hb _ _ _ _ hpar (fun x hx => hlt x (List.mem_append_left _ hx)) hA
  · rw [hfn, hvars]
    rfl
end

section
open Go.RowKit Go.ChangeShapes Go.WideShapes Go.ChangeAt Go.Joins
set_option maxRecDepth 100000
set_option linter.unusedVariables false
set_option linter.unusedSimpArgs false

/-! Arguments of span's statements: descriptions of sets, and arrays of numbers. -/
theorem own : ownKnob Try.prog.godebug = none := by kernel_rfl
section
variable {H : Type} {enc : TypeId × Value → H} {w : World}
theorem litA {n : Nat} {v : Value} {y : DataW H × List MemPlace} (h : DataW.trod enc Try.prog w 0 (fun _ => true) true n 3 [v] = some y) : ∃ z : Int, v = .int .i64 z := by
  cases n with
  | zero => simp [DataW.trod] at h
  | succ n =>
    unfold DataW.trod at h
    rw [Try.underlying3] at h
    split at h <;> simp_all
theorem open_raw {base : Nat} {v : Value} {d : DataW H} {p : List MemPlace} (hv : Value.okWide Try.prog w .any base 23 v) (h : DataW.Trod enc Try.prog w 0 (fun _ => true) true 23 v d p) :
    ∃ z0 z1 z2 z3 : Int, v = .agg #[.int .i64 z0, .int .i64 z1, .int .i64 z2, .int .i64 z3] := by
  obtain ⟨v0, v1, v2, v3, y0, y1, y2, y3, n, rfl, _, _, h0, h1, h2, h3⟩ := open_agg4 Try.underlying23 (by kernel_rfl) (by kernel_rfl) hv h
  obtain ⟨z0, rfl⟩ := litA h0
  obtain ⟨z1, rfl⟩ := litA h1
  obtain ⟨z2, rfl⟩ := litA h2
  obtain ⟨z3, rfl⟩ := litA h3
  exact ⟨z0, z1, z2, z3, rfl⟩
end
end

section
open Go.RowKit Go.ChangeShapes Go.WideShapes Go.ChangeAt Go.Joins
set_option maxRecDepth 100000
set_option linter.unusedVariables false
set_option linter.unusedSimpArgs false

/-! Six numbers in an array. -/
section
variable {H : Type} {enc : TypeId × Value → H} {w : World}
theorem six_cells {P : Program} {t e : TypeId} {fuel base : Nat} {sp : Nat → Bool} {hd : Bool} {c0 c1 c2 c3 c4 c5 : Value} {x : DataW H × List MemPlace} (ht : P.underlying t = some (.array 6 e)) (hce : P.cellsOf e = 1) (h : DataW.trod enc P w base sp hd fuel t [c0, c1, c2, c3, c4, c5] = some x) :
    ∃ n, ∀ c, c ∈ [c0, c1, c2, c3, c4, c5] → ∃ y, DataW.trod enc P w base sp hd n e [c] = some y := by
  rcases fuel with _ | n
  · simp [DataW.trod] at h
  · refine ⟨n, fun c hc => ?_⟩
    unfold DataW.trod at h
    rw [ht] at h
    simp [show List.range 6 = [0, 1, 2, 3, 4, 5] from rfl, hce] at h
    obtain ⟨-, h⟩ := h
    generalize g0 : DataW.trod enc P w base sp hd n e [c0] = r0 at h
    generalize g1 : DataW.trod enc P w base sp hd n e [c1] = r1 at h
    generalize g2 : DataW.trod enc P w base sp hd n e [c2] = r2 at h
    generalize g3 : DataW.trod enc P w base sp hd n e [c3] = r3 at h
    generalize g4 : DataW.trod enc P w base sp hd n e [c4] = r4 at h
    generalize g5 : DataW.trod enc P w base sp hd n e [c5] = r5 at h
    rcases r0 with _ | y0 <;> rcases r1 with _ | y1 <;> rcases r2 with _ | y2 <;> rcases r3 with _ | y3 <;> rcases r4 with _ | y4 <;> rcases r5 with _ | y5 <;> simp at h
    simp only [List.mem_cons, List.not_mem_nil, or_false] at hc
    rcases hc with rfl | rfl | rfl | rfl | rfl | rfl
    · exact ⟨_, g0⟩
    · exact ⟨_, g1⟩
    · exact ⟨_, g2⟩
    · exact ⟨_, g3⟩
    · exact ⟨_, g4⟩
    · exact ⟨_, g5⟩
theorem open_arr6 {base : Nat} {v : Value} {d : DataW H} {p : List MemPlace} (hv : Value.okWide Try.prog w .any base 24 v) (h : DataW.Trod enc Try.prog w 0 (fun _ => true) true 24 v d p) :
    ∃ z0 z1 z2 z3 z4 z5 : Int, v = .agg #[.int .i64 z0, .int .i64 z1, .int .i64 z2, .int .i64 z3, .int .i64 z4, .int .i64 z5] ∧ (-9223372036854775808 ≤ z2 ∧ z2 ≤ 9223372036854775807) := by
  obtain ⟨cs, rfl, hsz, hrow⟩ : ∃ cs, v = .agg cs ∧ cs.size = Try.prog.cellsOf 24 ∧ Row.okWide Try.prog w .any base 24 cs := by
    simpa [Value.okWide, Try.underlying24] using hv
  have hc : Try.prog.cellsOf 24 = 6 := by kernel_rfl
  rw [hc] at hsz
  obtain ⟨l⟩ := cs
  match l, hsz with
  | [c0, c1, c2, c3, c4, c5], _ =>
    obtain ⟨fuel, hf⟩ := h
    obtain ⟨n, hn⟩ := six_cells Try.underlying24 (by kernel_rfl) hf
    obtain ⟨y0, h0⟩ := hn c0 (by simp)
    obtain ⟨y1, h1⟩ := hn c1 (by simp)
    obtain ⟨y2, h2⟩ := hn c2 (by simp)
    obtain ⟨y3, h3⟩ := hn c3 (by simp)
    obtain ⟨y4, h4⟩ := hn c4 (by simp)
    obtain ⟨y5, h5⟩ := hn c5 (by simp)
    obtain ⟨z0, rfl⟩ := litA h0
    obtain ⟨z1, rfl⟩ := litA h1
    obtain ⟨z2, e2, -, k2⟩ := DataW.trod_int Try.underlying3 h2
    simp only [List.cons.injEq, and_true] at e2
    subst e2
    have b2 : IntKind.i64.min ≤ z2 ∧ z2 ≤ IntKind.i64.max := by simpa [Lit.wf] using k2
    obtain ⟨z3, rfl⟩ := litA h3
    obtain ⟨z4, rfl⟩ := litA h4
    obtain ⟨z5, rfl⟩ := litA h5
    exact ⟨z0, z1, z2, z3, z4, z5, rfl, b2⟩
end
end
end Go.Proofs.Ytdopjadlbhacfaa

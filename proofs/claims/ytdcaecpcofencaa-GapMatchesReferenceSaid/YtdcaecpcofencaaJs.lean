import Derived.Test.YtdcaecpcofencaaJr
namespace Go.Proofs.Ytdcaecpcofencaa
open Go.RowKit Go.Instr Go.Deep
set_option maxRecDepth 100000
set_option linter.unusedVariables false
set_option linter.unusedSimpArgs false

/-! gap.Set and Assume of any expressions. -/
def formT (op n : Int) (l : List Ex) : Int × Int × Bool :=
  if op = 2 then (n, 0, true) else
  match l with
  | .mk ao an av _ :: .mk bo bn bv _ :: _ => if (op == 4 && (ao == 2 && bo == 1)) = true then (an, bv, true) else if (op == 4 && (ao == 1 && bo == 2)) = true then (bn, av, true) else if (op == 5 && (ao == 2 && bo == 1)) = true then (an, wrap64 (-bv), true) else (0, 0, false)
  | _ => (0, 0, false)
/-- The shift that an expression is. -/
def shiftT (vars : Nat) (op n : Int) (l : List Ex) : Nat × Int × Bool :=
  if shiftB vars (formT op n l).1 (formT op n l).2.1 (formT op n l).2.2 = true then ((formT op n l).1.toNat, (formT op n l).2.1, true) else (0, 0, false)
theorem shiftT_lt {vars : Nat} {op n : Int} {l : List Ex} (h : (shiftT vars op n l).2.2 = true) : (shiftT vars op n l).1 < vars := by
  unfold shiftT at h ⊢
  split at h
  · rename_i hb
    rw [if_pos hb]
    unfold shiftB at hb
    simp at hb
    show (formT op n l).1.toNat < vars
    omega
  · cases h
theorem shiftT_bd (vars : Nat) (op n : Int) (l : List Ex) : -2147483648 ≤ (shiftT vars op n l).2.1 ∧ (shiftT vars op n l).2.1 ≤ 2147483648 := by
  unfold shiftT
  split
  · rename_i hb
    unfold shiftB at hb
    simp at hb
    exact ⟨hb.2.2.2.1, hb.2.2.2.2⟩
  · exact ⟨by decide, by decide⟩
theorem shiftV_T (vars : Nat) (op n : Int) (l : List Ex) : shiftV vars (formT op n l).1 (formT op n l).2.1 (formT op n l).2.2 = .tuple #[.agg #[.int .i64 ((shiftT vars op n l).1 : Int), .int .i64 (shiftT vars op n l).2.1], .bool (shiftT vars op n l).2.2] := by
  unfold shiftV shiftT
  split
  · rename_i hb
    have hb2 := hb
    unfold shiftB at hb2
    simp at hb2
    have e : (((formT op n l).1.toNat : Nat) : Int) = (formT op n l).1 := by omega
    simp only [e]
  · rfl
theorem form_any (w : World) (op n v : Int) (l : List Ex) (oa : Option Addr) (cap : Nat) (hx : exIn w (.mk op n v l) (.agg #[.int .i64 op, .int .i64 n, .int .i64 v, .slice oa l.length cap])) (W : World) (hW : Below w.heap.size w W) :
    Calls Try.prog 63 #[.agg #[.int .i64 op, .int .i64 n, .int .i64 v, .slice oa l.length cap]] W fun e w' => e = .returned (.tuple #[.agg #[.int .i64 (formT op n l).1, .int .i64 (formT op n l).2.1], .bool (formT op n l).2.2]) ∧ Below W.heap.size W w' := by
  have hx2 := exIn_below hW _ _ hx
  clear hx
  unfold formT
  by_cases h2 : op = 2
  · subst h2
    rw [if_pos rfl]
    exact form_var n v oa _ cap W
  · rw [if_neg h2]
    have b2 : (op == 2) = false := by simpa using h2
    rw [exIn] at hx2
    obtain ⟨oa', cap', h1, -, -, h4⟩ := hx2
    injection h1 with h1
    simp only [Array.mk.injEq, List.cons.injEq, Value.slice.injEq] at h1
    obtain ⟨-, -, -, ⟨rfl, -, rfl⟩, -⟩ := h1
    match l, h4 with
    | [], _ => exact form_short op n v oa 0 cap b2 (by omega) W
    | [.mk _ _ _ _], _ => exact form_short op n v oa 1 cap b2 (by omega) W
    | .mk ao an av la :: .mk bo bn bv lb :: r, h4 =>
      obtain ⟨b, off, x0, x1, x2, x3, rfl, c0, c1, c2, c3, e1⟩ := exsIn_at h4 0 _ rfl
      obtain ⟨b', off', y0, y1, y2, y3, hb, d0, d1, d2, d3, e2⟩ := exsIn_at h4 1 _ rfl
      injection hb with hb
      injection hb with hb1 hb2 _
      subst hb1 hb2
      rw [exIn] at e1 e2
      obtain ⟨pa, ka, e1, -, -, -⟩ := e1
      obtain ⟨pb, kb, e2, -, -, -⟩ := e2
      simp only [Value.agg.injEq, Array.mk.injEq, List.toArray_eq_toArray_eq, List.cons.injEq, and_true, List.toArray_inj] at e1 e2
      obtain ⟨rfl, rfl, rfl, rfl⟩ := e1
      obtain ⟨rfl, rfl, rfl, rfl⟩ := e2
      refine form_two W op n v b off (r.length + 1 + 1) cap b2 (by omega) ao an av bo bn bv pa pb la.length ka lb.length kb (by simpa using c0) (by simpa using c1) (by simpa using c2) (by simpa using c3) (by simpa using d0) (by simpa using d1) (by simpa using d2) (by simpa using d3) _ _ _ (hidA rfl) (hidA rfl) (hidA rfl) _ _ _ (hidA ?_)
      rfl
theorem shift_any (w : World) (op n v : Int) (l : List Ex) (oa : Option Addr) (cap vars : Nat) (hx : exIn w (.mk op n v l) (.agg #[.int .i64 op, .int .i64 n, .int .i64 v, .slice oa l.length cap])) (W : World) (hW : Below w.heap.size w W) :
    Calls Try.prog 45 #[.agg #[.int .i64 op, .int .i64 n, .int .i64 v, .slice oa l.length cap], .int .i64 (vars : Int)] W fun e w' => e = .returned (.tuple #[.agg #[.int .i64 ((shiftT vars op n l).1 : Int), .int .i64 (shiftT vars op n l).2.1], .bool (shiftT vars op n l).2.2]) ∧ Below W.heap.size W w' := by
  rw [← shiftV_T]
  exact shiftOf_any W op n v oa _ cap vars _ _ _ (hidA (fun V hV => form_any w op n v l oa cap hx V (stepA hW hV)))
theorem gset_any (w : World) {lo b n m : Nat} {R C : Nat → Nat} {Z : Nat → Nat → Int} (c : Nat) (h : Gr w lo b n m R C Z) (vv : Int) (op nn v : Int) (l : List Ex) (oa : Option Addr) (cap : Nat) (hx : exIn w (.mk op nn v l) (.agg #[.int .i64 op, .int .i64 nn, .int .i64 v, .slice oa l.length cap])) (wh : Bool) (hn : n ≤ 65536) (hm : m ≤ 65536) (hZ : Zok n m Z) :
    Calls Try.prog 15 #[.slice (some ⟨b, 0, none⟩) n c, .int .i64 vv, .agg #[.int .i64 op, .int .i64 nn, .int .i64 v, .slice oa l.length cap], .bool wh] w fun e w' => GrRet w.heap.size n m (setN n m Z vv wh (shiftT n op nn l).2.2 (shiftT n op nn l).1 (shiftT n op nn l).2.1) w e w' :=
  set_any w c h vv op nn v oa _ cap wh _ _ _ (hidA (fun W hW => shift_any w op nn v l oa cap n hx W hW)) hn hm hZ (shiftT_bd _ _ _ _)
theorem gassume_any (w : World) {lo b n m : Nat} {R C : Nat → Nat} {Z : Nat → Nat → Int} (c : Nat) (h : Gr w lo b n m R C Z) (op : Int) (holds : Bool) (ao an av bo bn bv : Int) (la lb : List Ex) (pa pb : Option Addr) (ca cb : Nat) (ha : exIn w (.mk ao an av la) (.agg #[.int .i64 ao, .int .i64 an, .int .i64 av, .slice pa la.length ca])) (hb : exIn w (.mk bo bn bv lb) (.agg #[.int .i64 bo, .int .i64 bn, .int .i64 bv, .slice pb lb.length cb])) (wa wb : Bool) (hn : n ≤ 65536) (hm : m ≤ 65536) (hZ : Zok n m Z) :
    Calls Try.prog 17 #[.slice (some ⟨b, 0, none⟩) n c, .int .i64 op, .bool holds, .agg #[.int .i64 ao, .int .i64 an, .int .i64 av, .slice pa la.length ca], .agg #[.int .i64 bo, .int .i64 bn, .int .i64 bv, .slice pb lb.length cb], .agg #[.bool wa, .bool wb]] w fun e w' => GrRet w.heap.size n m (assumeN m Z op holds (wa && wb && ((shiftT n ao an la).2.2 && (shiftT n bo bn lb).2.2)) (shiftT n ao an la).1 (shiftT n bo bn lb).1 (shiftT n ao an la).2.1 (shiftT n bo bn lb).2.1) w e w' :=
  assume_walk w c h op holds ao an av bo bn bv pa pb _ ca _ cb wa wb _ _ _ _ _ _ (hidA (fun W hW => shift_any w ao an av la pa ca n ha W hW)) (hidA (fun W hW => shift_any w bo bn bv lb pb cb n hb W hW)) shiftT_lt shiftT_lt (shiftT_bd _ _ _ _) (shiftT_bd _ _ _ _) hZ hn hm
end Go.Proofs.Ytdcaecpcofencaa

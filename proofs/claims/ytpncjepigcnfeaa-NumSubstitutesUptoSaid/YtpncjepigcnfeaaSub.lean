/-
  The law NumSubstitutes of package num holds: if a variable gets the value of an expression, an expression has the value that it has with this expression in the place of the variable.
  Condition: the arguments hold together at most 1048576 values.
-/
import Derived.Test.YtpncjepigcnfeaaPut
import Derived.Test.YtpncjepigcnfeaaSize
import Derived.Test.YtpncjepigcnfeaaPl
import Derived.JoinedCond
namespace Go.Proofs.Ytpncjepigcnfeaa
open Go.ChangeShapes Go.WideShapes Go.ChangeAt Go.RowKit
set_option linter.unusedVariables false

/-! The law, without Go. -/
theorem wrap32_2 (a : Int) : wrap32 (wrap32 a) = wrap32 a := w32 (w32_bd' a)
theorem opF_in (n a b : Int) : wrap32 (opF n a b) = opF n a b := by
  unfold opF
  repeat' split
  all_goals first | exact wrap32_2 _ | decide +kernel
theorem elemF_in (l : List Int) (n : Int) : wrap32 (elemF l n) = elemF l n := by
  unfold elemF
  split
  · exact wrap32_2 _
  · decide +kernel
theorem evalE_in (V L : List Int) (t : Ex) : wrap32 (evalE V L t) = evalE V L t := by
  obtain ⟨op, n, v, l⟩ := t
  rw [evalE]
  repeat' split
  · exact wrap32_2 _
  · exact elemF_in _ _
  · exact elemF_in _ _
  · exact opF_in _ _ _

theorem elemF_set (V : List Int) (n : Nat) (hn : n < V.length) (a m : Int) (ha : wrap32 a = a) : elemF (V.set n a) m = if m = n then a else elemF V m := by
  unfold elemF
  rw [List.length_set]
  by_cases h : m = n
  · subst h
    rw [if_pos (by omega), if_pos rfl]
    simp [List.getD_eq_getElem?_getD, hn, ha]
  · rw [if_neg h]
    by_cases h2 : 0 ≤ m ∧ m < V.length
    · rw [if_pos h2, if_pos h2]
      have h3 : n ≠ m.toNat := by omega
      simp [List.getD_eq_getElem?_getD, h3]
    · rw [if_neg h2, if_neg h2]

mutual
theorem subst_ok (V L : List Int) (n : Nat) (hn : n < V.length) (x : Ex) : ∀ t, evalE V L (putE n x t) = evalE (V.set n (evalE V L x)) L t
  | .mk op m v l => by
    rw [putE]
    by_cases h : op = 2 ∧ m = n
    · rw [if_pos h]
      obtain ⟨rfl, rfl⟩ := h
      rw [evalE, if_neg (by omega), if_pos rfl, elemF_set V n hn _ _ (evalE_in V L x), if_pos rfl]
    · rw [if_neg h, evalE, evalE, substs_ok V L n hn x l]
      by_cases h2 : op = 2
      · rw [if_neg (by omega), if_pos h2, if_neg (by omega), if_pos h2, elemF_set V n hn _ _ (evalE_in V L x), if_neg (fun e => h ⟨h2, e⟩)]
      · rw [if_neg h2, if_neg h2]
theorem substs_ok (V L : List Int) (n : Nat) (hn : n < V.length) (x : Ex) : ∀ l, evalsE V L (putsE n x l) = evalsE (V.set n (evalE V L x)) L l
  | [] => by rw [putsE, evalsE, evalsE]
  | t :: r => by rw [putsE, evalsE, evalsE, subst_ok V L n hn x t, substs_ok V L n hn x r]
end

theorem info3 : (Try.prog.info? 3).map (fun i => (i.zero, i.size, i.bytes)) = some (some (.int .i64 0), 1, 8) := by kernel_rfl

/-- A row of the call's own, read as a list of numbers. -/
theorem ints_of_row {w : World} {base g n cap : Nat} {l : List Int} (h : w.ownsRow base 3 1 (.slice (some ⟨g, 0, none⟩) n cap) n (l.map (Value.int .i64))) (hn : l.length = n) : intsIn w l (.slice (some ⟨g, 0, none⟩) n cap) := by
  subst hn
  have hkc : l.length ≤ cap ∧ cap ≤ 9223372036854775807 := by
    rcases h.2 with ⟨h, -⟩ | ⟨g', cap', cur, hv, -, -, h1, h2, -⟩
    · cases h
    · simp only [Value.slice.injEq] at hv
      obtain ⟨-, -, rfl⟩ := hv
      unfold maxLen at h2
      exact ⟨h1, by omega⟩
  refine ⟨_, cap, rfl, hkc.1, hkc.2, fun i hi => ⟨g, 0, rfl, ?_⟩⟩
  have hc := h.cells rfl i (.int .i64 (l.getD i 0)) (by simp [List.getD_eq_getElem?_getD, List.getElem?_eq_getElem hi])
  rwa [Go.WideShapes.add_plain] at hc

set_option maxRecDepth 100000 in
set_option maxHeartbeats 4000000 in
theorem subst_walk (t u : Ex) (V : List Int) (n : Int) (o0 n0 v0 o1 n1 v1 : Int) (a0 a1 : Option Addr) (l0 c0 l1 c1 : Nat) (va : Option Addr) (vc : Nat) (w : World) (hn0 : 0 ≤ n) (hn1 : n ≤ 255) (hsz : exT t ≤ 1048576)
    (ht : exIn w t (.agg #[.int .i64 o0, .int .i64 n0, .int .i64 v0, .slice a0 l0 c0])) (hu : exIn w u (.agg #[.int .i64 o1, .int .i64 n1, .int .i64 v1, .slice a1 l1 c1])) (hv : intsIn w V (.slice va V.length vc)) :
    Calls Try.prog 9 #[.agg #[.int .i64 o0, .int .i64 n0, .int .i64 v0, .slice a0 l0 c0, .int .i64 o1, .int .i64 n1, .int .i64 v1, .slice a1 l1 c1], .int .u8 n, .slice va V.length vc] w fun e w' => e = .returned (.bool true) ∧ Below w.heap.size w w' := by
  obtain ⟨w0, hw0⟩ : ∃ w0, w.alloc (.cells #[.int .i64 o0, .int .i64 n0, .int .i64 v0, .slice a0 l0 c0, .int .i64 o1, .int .i64 n1, .int .i64 v1, .slice a1 l1 c1] 51) = w0 := ⟨_, rfl⟩
  have hb0 : Below w.heap.size w w0 := by rw [← hw0]; exact (Below.refl _ _).alloc (Nat.le_refl _) _
  have g0 : w0.cell? ⟨w.heap.size, 0, none⟩ = some (.int .i64 o0) := by rw [← hw0]; simp [go_sem]
  have g1 : w0.cell? ⟨w.heap.size, 1, none⟩ = some (.int .i64 n0) := by rw [← hw0]; simp [go_sem]
  have g2 : w0.cell? ⟨w.heap.size, 2, none⟩ = some (.int .i64 v0) := by rw [← hw0]; simp [go_sem]
  have g3 : w0.cell? ⟨w.heap.size, 3, none⟩ = some (.slice a0 l0 c0) := by rw [← hw0]; simp [go_sem]
  have g4 : w0.cell? ⟨w.heap.size, 4, none⟩ = some (.int .i64 o1) := by rw [← hw0]; simp [go_sem]
  have g5 : w0.cell? ⟨w.heap.size, 5, none⟩ = some (.int .i64 n1) := by rw [← hw0]; simp [go_sem]
  have g6 : w0.cell? ⟨w.heap.size, 6, none⟩ = some (.int .i64 v1) := by rw [← hw0]; simp [go_sem]
  have g7 : w0.cell? ⟨w.heap.size, 7, none⟩ = some (.slice a1 l1 c1) := by rw [← hw0]; simp [go_sem]
  have T0 := hid (exIn_below hb0 _ _ ht)
  have U0 := hid (exIn_below hb0 _ _ hu)
  have V0 := hid (intsIn_below hb0 hv)
  have B0 := hid hb0
  have Hsz := hid hsz
  have G0 := hid g0
  have G1 := hid g1
  have G2 := hid g2
  have G3 := hid g3
  have G4 := hid g4
  have G5 := hid g5
  have G6 := hid g6
  have G7 := hid g7
  clear ht hu hv hb0 hsz g0 g1 g2 g3 g4 g5 g6 g7
  have Hw := hid hw0; clear hw0
  obtain ⟨vn, hvn⟩ : ∃ n, V.length = n := ⟨_, rfl⟩
  rw [hvn] at V0 ⊢
  have Hvn := hid hvn; clear hvn
  obtain ⟨i0, hi, hz0, hz1, hz2⟩ := info_parts info3
  obtain ⟨k, rfl⟩ := Int.eq_ofNat_of_zero_le hn0
  go_enter Try.func9, Try.ntmps9
  go_wp2_with fail
  rw [Hw.out]
  refine (examples_any _).mono ?_
  rintro e w1 ⟨rfl, hb⟩
  have HS := hid hb; clear hb
  have g0 := cell_below HS.out G0.out
  have g1 := cell_below HS.out G1.out
  have g2 := cell_below HS.out G2.out
  have g3 := cell_below HS.out G3.out
  go_wp2_with fail
  refine (size_any t _ _ (exIn_below HS.out _ _ T0.out)).mono ?_
  rintro e w2 ⟨z1, rfl, hb⟩
  have HS := hid (below_step HS.out hb); clear hb
  clear g0 g1 g2 g3
  by_cases hs1 : 100 < z1
  · go_wp2
    go_ret
    exact ⟨rfl, below_step B0.out HS.out⟩
  have g4 := cell_below HS.out G4.out
  have g5 := cell_below HS.out G5.out
  have g6 := cell_below HS.out G6.out
  have g7 := cell_below HS.out G7.out
  go_wp2_with fail
  refine (size_any u _ _ (exIn_below HS.out _ _ U0.out)).mono ?_
  rintro e w3 ⟨z2, rfl, hb⟩
  have HS := hid (below_step HS.out hb); clear hb
  clear g4 g5 g6 g7
  by_cases hs2 : 100 < z2
  · go_wp2
    go_ret
    exact ⟨rfl, below_step B0.out HS.out⟩
  by_cases hvl : (20 : Int) < (vn : Int)
  · go_wp2
    go_ret
    exact ⟨rfl, below_step B0.out HS.out⟩
  by_cases hnv : vn ≤ k
  · go_wp2
    go_ret
    exact ⟨rfl, below_step B0.out HS.out⟩
  obtain ⟨oa', cap', hsl, hvl1, hvl2, hvc⟩ := V0.out
  simp only [Value.slice.injEq] at hsl
  obtain ⟨rfl, -, rfl⟩ := hsl
  have hvn := Hvn.out
  obtain ⟨b, off, rfl, -⟩ := hvc 0 (by omega)
  have hnews : ∀ W, Below w0.heap.size w0 W → ∀ j u, (V.map (Value.int .i64))[j]? = some u → W.cell? ((⟨b, off, none⟩ : Addr).add j) = some u := fun W hW j u hj => by
    rw [List.getElem?_map] at hj
    cases hvj : V[j]? with
    | none => rw [hvj] at hj; simp at hj
    | some z =>
      rw [hvj] at hj
      simp only [Option.map_some, Option.some.injEq] at hj
      subst hj
      have hjl : j < V.length := (List.getElem?_eq_some_iff.1 hvj).1
      obtain ⟨b', off', hba, hcell⟩ := hvc j hjl
      simp only [Option.some.injEq, Addr.mk.injEq, and_true] at hba
      obtain ⟨rfl, rfl⟩ := hba
      rw [Go.WideShapes.add_plain]
      have h1 : V.getD j 0 = z := by simp [List.getD_eq_getElem?_getD, hvj]
      rw [h1] at hcell
      exact cell_below hW hcell
  have Hnews := hid hnews; clear hnews hvc
  clear hvn hvl1
  have HA := hid (HS.out.alloc HS.out.size (.cells #[] 3))
  have hown : (w3.alloc (.cells #[] 3)).ownsRow w3.heap.size 3 1 (.slice (some ⟨w3.heap.size, 0, none⟩) 0 0) 0 [] :=
    ⟨rfl, .inr ⟨w3.heap.size, 0, #[], rfl, Nat.le_refl _, (MapKept.heap_alloc w3 _).1, Nat.le_refl _, by simp [maxLen], rfl, rfl⟩⟩
  have Hown := hid hown; clear hown
  have hw3 := hid HS.out.size
  go_wp2_with (at_builtin; go_loud (refine wpList_append_lies _ rfl (.tmp 35) (.tmp 36) 28 rfl w3.heap.size 3 i0 _ 1 8 Try.underlying28 hi hz0 hz1 hz2 rfl (by decide) (.slice (some ⟨w3.heap.size, 0, none⟩) 0 0) 0 [] rfl Hown.out ⟨b, off, none⟩ vn vc (V.map (Value.int .i64)) rfl (by rw [List.length_map, Hvn.out, Nat.mul_one]) (Hnews.out _ HA.out) (by intro u hu; simp at hu; obtain ⟨a, _, rfl⟩ := hu; rfl) (by omega) (by unfold maxLen; omega) (by omega) (by simp) (w3.heap.size + 1) (by simp) ?_; intro g cp w4 hown4 hgrow4 hat4 hlt4; simp only [Nat.zero_add, List.nil_append] at hown4; have H4 := hid (Below.grown HA.out hgrow4 (by have := hw3.out; simp; omega) (by intro q hq; simp [Value.ownBlock] at hq; have := hw3.out; omega)); have g4 := cell_below H4.out G4.out; have g5 := cell_below H4.out G5.out; have g6 := cell_below H4.out G6.out; have g7 := cell_below H4.out G7.out; have Hown4 := hid hown4; clear hown4 hgrow4 hat4))
  refine (eval_any V [] u _ _ _ _ (exIn_below H4.out _ _ U0.out) (intsIn_below H4.out V0.out) (nil_ints _)).mono ?_
  rintro e w5 ⟨rfl, hb5⟩
  obtain ⟨val, hval⟩ : ∃ z, evalE V [] u = z := ⟨_, rfl⟩
  rw [hval]
  have hsub := subst_ok V [] k (by have := Hvn.out; omega) u t
  rw [hval] at hsub
  have Hsub := hid hsub; clear hsub hval
  have H5 := hid (below_step H4.out hb5)
  have hown5 := Hown4.out.kept (grown_of_below hb5 none) (.inr (by simp [Value.ownBlock]))
  have hgB : w3.heap.size ≤ g := (hown5.lt g rfl).1
  have hg5 : g < w5.heap.size := (hown5.lt g rfl).2
  have hcell := hown5.cellAt k (by omega)
  have hvk : (V.map (Value.int .i64))[k]? = some (.int .i64 (V.getD k 0)) := by
    have h1 : k < V.length := by have := Hvn.out; omega
    simp [List.getD_eq_getElem?_getD, h1]
  rw [hvk] at hcell
  have hfro := hown5.frozenAt k
  have hst := (hown5.stored k (.int .i64 val)).1
  rw [← List.map_set] at hst
  have A6 := hid (ints_of_row hst (by rw [List.length_set]; exact Hvn.out))
  have H6 := hid (H5.out.setCell (p := ⟨g, k, none⟩) (by have := hw3.out; simp; omega) (.int .i64 val))
  clear hst hvk hown5 hb5 g4 g5 g6 g7
  have hki : (k : Int) < (vn : Int) := by omega
  go_wp2_with fail
  clear hcell hfro
  obtain ⟨w6, hw6⟩ : ∃ w6, w5.setCell ⟨g, k, none⟩ (.int .i64 val) = w6 := ⟨_, rfl⟩
  rw [hw6] at A6 H6 ⊢
  clear hw6
  have hs : Below w6.heap.size w6 w6.drew := (Below.refl _ _).drew
  have hkeep : ∀ W, Below w6.heap.size w6 W → W.cell? ⟨w.heap.size, 0, none⟩ = some (.int .i64 o0) ∧ W.cell? ⟨w.heap.size, 1, none⟩ = some (.int .i64 n0) ∧ W.cell? ⟨w.heap.size, 2, none⟩ = some (.int .i64 v0) ∧ W.cell? ⟨w.heap.size, 3, none⟩ = some (.slice a0 l0 c0) ∧ W.cell? ⟨w.heap.size, 4, none⟩ = some (.int .i64 o1) ∧ W.cell? ⟨w.heap.size, 5, none⟩ = some (.int .i64 n1) ∧ W.cell? ⟨w.heap.size, 6, none⟩ = some (.int .i64 v1) ∧ W.cell? ⟨w.heap.size, 7, none⟩ = some (.slice a1 l1 c1) ∧ Below w6.heap.size w6 W := fun W hW =>
    have hW1 := below_step H6.out hW
    ⟨cell_below hW1 G0.out, cell_below hW1 G1.out, cell_below hW1 G2.out, cell_below hW1 G3.out, cell_below hW1 G4.out, cell_below hW1 G5.out, cell_below hW1 G6.out, cell_below hW1 G7.out, hW⟩
  have Hkeep := hid hkeep; clear hkeep
  have T6 := hid (exIn_below H6.out _ _ T0.out)
  have U6 := hid (exIn_below H6.out _ _ U0.out)
  have V6 := hid (intsIn_below H6.out V0.out)
  have T6d := hid (exQ_keep (Q' := (· < w6.heap.size)) (w := w6) (w' := w6.drew) (fun b hb _ => ⟨hb, rfl⟩) _ _ (exIn_Q _ _ T6.out))
  have U6d := hid (exQ_keep (Q' := (· < w6.heap.size)) (w := w6) (w' := w6.drew) (fun b hb _ => ⟨hb, rfl⟩) _ _ (exIn_Q _ _ U6.out))
  have hwk : IntKind.i64.wrap (k : Int) = (k : Int) := IntWalk.i64_in _ (by omega)
  go_region_held3 (fun W => W.cell? ⟨w.heap.size, 0, none⟩ = some (.int .i64 o0) ∧ W.cell? ⟨w.heap.size, 1, none⟩ = some (.int .i64 n0) ∧ W.cell? ⟨w.heap.size, 2, none⟩ = some (.int .i64 v0) ∧ W.cell? ⟨w.heap.size, 3, none⟩ = some (.slice a0 l0 c0) ∧ W.cell? ⟨w.heap.size, 4, none⟩ = some (.int .i64 o1) ∧ W.cell? ⟨w.heap.size, 5, none⟩ = some (.int .i64 n1) ∧ W.cell? ⟨w.heap.size, 6, none⟩ = some (.int .i64 v1) ∧ W.cell? ⟨w.heap.size, 7, none⟩ = some (.slice a1 l1 c1) ∧ Below w6.heap.size w6 W)
    (exact Hkeep.out _ (by assumption))
    (first
      | (go_at_call 35; refine (put_any k u t w6.heap.size _ _ w6.drew (Nat.le_refl _) Hsz.out T6d.out U6d.out).mono ?_; rintro e x1 ⟨o5, n5, v5, a5, l5, c5, rfl, hb5, hq5⟩; have hz5 : Below w6.heap.size w6 x1 := below_step hs hb5; have Q5 := hid (exQ_in _ _ hq5))
      | (go_at_call_of 17 (Value.slice (some ⟨g, 0, none⟩) vn cp); refine (eval_any (V.set k val) [] t _ _ _ _ (exIn_below (by assumption) _ _ T6.out) (intsIn_below (by assumption) A6.out) (nil_ints _)).mono ?_; rintro e x3 ⟨rfl, hb7⟩; have hz7 : Below w6.heap.size w6 x3 := below_step (by assumption) hb7)
      | (go_at_call 17; refine (eval_any V [] (putE k u t) _ _ _ _ Q5.out (intsIn_below (by assumption) V6.out) (nil_ints _)).mono ?_; rw [Hsub.out]; rintro e x2 ⟨rfl, hb6⟩; have hz6 : Below w6.heap.size w6 x2 := below_step (by assumption) hb6))
  go_wp2
  go_ret
  exact ⟨by simp, below_step B0.out (below_step H6.out hz7)⟩

theorem ex_form {w : World} {t : Ex} {v : Value} (h : exIn w t v) : ∃ (o n z : Int) (a : Option Addr) (l c : Nat), v = .agg #[.int .i64 o, .int .i64 n, .int .i64 z, .slice a l c] := by
  obtain ⟨o, n, z, l⟩ := t
  rw [exIn] at h
  obtain ⟨oa, cap, rfl, -⟩ := h
  exact ⟨_, _, _, _, _, _, rfl⟩

/-- An argument that is an array of two expressions. -/
theorem open_ex2 {H : Type} {enc : TypeId × Value → H} {w : World} {r : Reach} {b : Nat} {v : Value} {d : DataW H} {p : List MemPlace} (hv : Value.okWide Try.prog w r b 51 v) (h : DataW.Trod enc Try.prog w 0 (fun _ => true) true 51 v d p) :
    ∃ (t u : Ex) (o0 n0 v0 o1 n1 v1 : Int) (a0 a1 : Option Addr) (l0 c0 l1 c1 : Nat), v = .agg #[.int .i64 o0, .int .i64 n0, .int .i64 v0, .slice a0 l0 c0, .int .i64 o1, .int .i64 n1, .int .i64 v1, .slice a1 l1 c1] ∧
      exIn w t (.agg #[.int .i64 o0, .int .i64 n0, .int .i64 v0, .slice a0 l0 c0]) ∧ exIn w u (.agg #[.int .i64 o1, .int .i64 n1, .int .i64 v1, .slice a1 l1 c1]) ∧ exT t ≤ Rows.uptoBulk d ∧ exT u ≤ Rows.uptoBulk d := by
  simp only [Value.okWide, Try.underlying51] at hv
  obtain ⟨cs, rfl, hsz, -⟩ := hv
  obtain ⟨n, hn⟩ := h
  obtain ⟨xs, m, rfl, hx, hlen, hxl, hf⟩ := DataW.trod_array Try.underlying51 hn
  simp only [Prod.mk.injEq] at hx
  obtain ⟨rfl, -⟩ := hx
  have c4 : Try.prog.cellsOf 24 = 4 := by kernel_rfl
  have hlen8 : cs.toList.length = 8 := hlen.trans (by kernel_rfl)
  obtain ⟨l⟩ := cs
  match l, hlen8 with
  | [x0, x1, x2, x3, x4, x5, x6, x7], _ =>
    match xs, hxl with
    | [y0, y1], _ =>
      have h0 : DataW.trod enc Try.prog w 0 (fun _ => true) true m 24 [x0, x1, x2, x3] = some y0 := by have := hf 0 (by omega); simpa [c4, Value.cells] using this
      have h1 : DataW.trod enc Try.prog w 0 (fun _ => true) true m 24 [x4, x5, x6, x7] = some y1 := by have := hf 1 (by omega); simpa [c4, Value.cells] using this
      obtain ⟨t, ht, st⟩ := (ex_all m).1 _ _ h0
      obtain ⟨u, hu, su⟩ := (ex_all m).1 _ _ h1
      obtain ⟨o0, n0, v0, a0, l0, c0, e0⟩ := ex_form ht
      obtain ⟨o1, n1, v1, a1, l1, c1, e1⟩ := ex_form hu
      simp only [Value.agg.injEq, Array.mk.injEq, List.cons.injEq, and_true] at e0 e1
      obtain ⟨rfl, rfl, rfl, rfl⟩ := e0
      obtain ⟨rfl, rfl, rfl, rfl⟩ := e1
      refine ⟨t, u, o0, n0, v0, o1, n1, v1, a0, a1, l0, c0, l1, c1, rfl, ht, hu, ?_, ?_⟩
      · simp only [List.map_cons, List.map_nil, Rows.uptoBulk, Rows.uptoBulkAll]; omega
      · simp only [List.map_cons, List.map_nil, Rows.uptoBulk, Rows.uptoBulkAll]; omega

theorem bd8 {a : Int} (h : (Lit.int .u8 a).wf = true) : 0 ≤ a ∧ a ≤ 255 := by
  have h1 : IntKind.u8.min ≤ a ∧ a ≤ IntKind.u8.max := by simpa [Lit.wf] using h
  exact h1

theorem numSubstitutes_contract (H : Type) (enc : TypeId × Value → H) (W : World) (base : Nat) (args : Array Value) (ds gs : List (DataW H)) (before : List MemPlace)
    (hval : ∀ (j : Nat) t v, Try.f9.params[j]? = some t → args[j]? = some v → Value.okWide Try.prog W .any base t v)
    (hW : DataW.Whole enc Try.prog Try.f9.params.toList Rows.numSubstitutesSpec.vars false W args.toList ds gs before) (hk : Rows.uptoSmall H (ds ++ gs) = true) :
    Calls Try.prog 9 args W fun e W' => ∃ v, e = .returned v ∧ Rows.numSubstitutesSpec.post enc Try.prog Try.f9 false true false false W args v W' := by
  have hW' := hW
  obtain ⟨p, q, hA0, hV, rfl, hfz, hnd⟩ := hW
  have hA : DataW.TrodAll enc Try.prog W 0 (fun _ => true) true Try.f9.params.toList args.toList ds p := hA0
  rw [Try.params9] at hA hval
  obtain ⟨v0, vs0, d0, ds0, p0, q0, hargs, rfl, rfl, h0, r0⟩ := trodAll_cons hA
  obtain ⟨v1, vs1, d1, ds1, p1, q1, rfl, rfl, rfl, h1, r1⟩ := trodAll_cons r0
  obtain ⟨v2, vs2, d2, ds2, p2, q2, rfl, rfl, rfl, h2, r2⟩ := trodAll_cons r1
  obtain ⟨rfl, rfl, rfl⟩ := trodAll_nil r2
  obtain rfl : args = #[v0, v1, v2] := by cases args; simp_all
  obtain ⟨rfl, rfl⟩ := trodVars_none hV
  have hbulk : Rows.uptoBulkAll ([d0, d1, d2] ++ []) ≤ 1048576 := of_decide_eq_true hk
  simp only [List.append_nil, Rows.uptoBulkAll] at hbulk
  obtain ⟨t0, u0, o0, n0, v0x, o1, n1, v1x, a0, a1, l0, c0, l1, c1, rfl, in0, iu0, sz0, su0⟩ := open_ex2 (hval 0 _ v0 rfl rfl) h0
  obtain ⟨t1, rfl, rfl, rfl, wf1⟩ := open_int Try.underlying5 (hval 1 5 v1 rfl rfl) h1
  obtain ⟨t2, in2, sz2⟩ := open_intl (hval 2 _ v2 rfl rfl) h2
  have k2 := in2
  obtain ⟨va, vc, rfl, -⟩ := k2
  refine (subst_walk t0 u0 t2 t1 o0 n0 v0x o1 n1 v1x a0 a1 l0 c0 l1 c1 va vc W (bd8 wf1).1 (bd8 wf1).2 (by omega) in0 iu0 in2).mono fun e W' ⟨he, hg⟩ => ?_
  subst he
  exact ⟨_, rfl, post_true (T := 4) (by kernel_rfl) (by kernel_rfl) rfl rfl (by kernel_rfl) hW' hg rfl⟩

set_option maxRecDepth 100000 in
theorem numSubstitutes_lifted (os : Os) (started : os.Started) (H : Type) (enc : TypeId × Value → H) (F : Stop.Interp) :
    ReturnsInHanded {} Try.checked os 9 .any ((Rows.OpenSpec.upto Rows.numSubstitutesSpec).pre6 enc Try.prog Try.f9 Rows.numSubstitutesUptoRow.domain false) (((Rows.OpenSpec.upto Rows.numSubstitutesSpec).at F).post enc Try.prog Try.f9 false true false false) := by
  refine returnsInHanded_of_cond (C := Try.checked) (s := Rows.OpenSpec.upto Rows.numSubstitutesSpec) (k := Rows.uptoSmall) rfl own started (by kernel_rfl) Try.func9
    (OpenSpec.witness (enc := enc) (C := Try.checked) (s := Rows.OpenSpec.upto Rows.numSubstitutesSpec) (k := Rows.uptoSmall) rfl false ⟨#[], #[.agg #[.int .i64 0, .int .i64 0, .int .i64 0, .slice none 0 0, .int .i64 0, .int .i64 0, .int .i64 0, .slice none 0 0], .int .u8 0, .slice none 0 0], []⟩ 8 (by kernel_rfl) (by kernel_rfl) (by kernel_rfl)
      (x := ([.agg [.agg [.lit (.int .i64 0), .lit (.int .i64 0), .lit (.int .i64 0), .nil], .agg [.lit (.int .i64 0), .lit (.int .i64 0), .lit (.int .i64 0), .nil]], .lit (.int .u8 0), .nil], [], [])) (by kernel_rfl) rfl (by kernel_rfl)) ?_
  intro W base args ds gs before hval hW _ hk _
  exact numSubstitutes_contract H enc W base args ds gs before hval hW hk

theorem numSubstitutes_holds : Rows.NumSubstitutesUptoSaid :=
  OpenClaim.holds_of_cond 9 Try.f9 rfl rfl rfl rfl rfl rfl rfl ⟨rfl, rfl, rfl, rfl, rfl⟩ rfl rfl rfl rfl rfl (by kernel_rfl) Try.func9 (by kernel_rfl)
    (of_decide_eq_true (by kernel_rfl)) (by unfold Func.isWrapper; rw [if_neg (of_decide_eq_false (by kernel_rfl))]; exact ⟨rfl, rfl⟩)
    (fun os started H enc _ F => numSubstitutes_lifted os started H enc F)
end Go.Proofs.Ytpncjepigcnfeaa

/-
  The law NumReads of package num holds: variables that an expression or a condition does not read do not matter.
  Condition: the arguments hold together at most 1048576 values.
-/
import Derived.Test.YtcjambgbbmffiaaNf
import Derived.Test.YtcjambgbbmffiaaExa
import Derived.JoinedCond
import Derived.Deep.CutRange
import Derived.Deep.DeepCutAuto
namespace Go.Proofs.Ytcjambgbbmffiaa
open Go.ChangeShapes Go.WideShapes Go.ChangeAt Go.RowKit
set_option linter.unusedVariables false

set_option maxRecDepth 100000 in
set_option maxHeartbeats 8000000 in
theorem reads_walk (t : Ex) (d : Cd) (V U : List Int) (o n v : Int) (a1 : Option Addr) (l1 c1 : Nat) (co : Int) (b1 b2 : Option Addr) (m1 d1 m2 d2 : Nat) (p1 p2 : Option Addr) (n1 k1 n2 k2 : Nat) (w : World) (ht1 : exT t ≤ 1048576) (hd1 : cdT d ≤ 1048576)
    (ht : exIn w t (.agg #[.int .i64 o, .int .i64 n, .int .i64 v, .slice a1 l1 c1])) (hd : cdIn w d (.agg #[.int .i64 co, .slice b1 m1 d1, .slice b2 m2 d2])) (hV : IntsBig w (.slice p1 n1 k1) V) (hU : IntsBig w (.slice p2 n2 k2) U) (hVn : V.length = n1) (hUn : U.length = n2) :
    Calls Try.prog 4 #[.agg #[.int .i64 o, .int .i64 n, .int .i64 v, .slice a1 l1 c1], .agg #[.int .i64 co, .slice b1 m1 d1, .slice b2 m2 d2], .agg #[.slice p1 n1 k1, .slice p2 n2 k2]] w fun e w' => e = .returned (.bool true) ∧ Below w.heap.size w w' := by
  obtain ⟨i0, hi0, hz0, hz1, hz2⟩ := info_int
  obtain ⟨w0, hw0⟩ : ∃ w0, ((w.alloc (.cells #[.int .i64 o, .int .i64 n, .int .i64 v, .slice a1 l1 c1] 24)).alloc (.cells #[.int .i64 co, .slice b1 m1 d1, .slice b2 m2 d2] 27)).alloc (.cells #[.slice p1 n1 k1, .slice p2 n2 k2] 41) = w0 := ⟨_, rfl⟩
  have hb0 : Below w.heap.size w w0 := by rw [← hw0]; exact below_a (below_a (below_a (Below.refl _ _) _) _) _
  have PK := hid (fun (W : World) (hW : Below w0.heap.size w0 W) => show W.cell? ⟨w.heap.size, 0, none⟩ = some (.int .i64 o) ∧ W.cell? ⟨w.heap.size, 1, none⟩ = some (.int .i64 n) ∧ W.cell? ⟨w.heap.size, 2, none⟩ = some (.int .i64 v) ∧ W.cell? ⟨w.heap.size, 3, none⟩ = some (.slice a1 l1 c1) ∧ W.cell? ⟨w.heap.size + 1, 0, none⟩ = some (.int .i64 co) ∧ W.cell? ⟨w.heap.size + 1, 1, none⟩ = some (.slice b1 m1 d1) ∧ W.cell? ⟨w.heap.size + 1, 2, none⟩ = some (.slice b2 m2 d2) ∧ W.cell? ⟨w.heap.size + 1 + 1, 0, none⟩ = some (.slice p1 n1 k1) ∧ W.cell? ⟨w.heap.size + 1 + 1, 1, none⟩ = some (.slice p2 n2 k2) from by
    refine ⟨cell_below hW ?_, cell_below hW ?_, cell_below hW ?_, cell_below hW ?_, cell_below hW ?_, cell_below hW ?_, cell_below hW ?_, cell_below hW ?_, cell_below hW ?_⟩ <;> (rw [← hw0]; simp [go_sem]))
  have T0 := hid (exIn_below hb0 _ _ ht)
  have D0 := hid (cdIn_below hb0 _ _ hd)
  have V0 := hid (hV.below hb0)
  have U0 := hid (hU.below hb0)
  have B0 := hid hb0
  have HT := hid (Nat.le_trans (rdE_len t) ht1)
  have HD := hid (Nat.le_trans (rdC_len d) hd1)
  have HVn := hid hVn
  have HUn := hid hUn
  have Hw := hid hw0
  clear hb0 ht hd hV hU hVn hUn ht1 hd1 hw0
  go_enter Try.func4, Try.ntmps4
  go_wp2_with fail
  rw [Hw.out]
  refine (examples_any _).mono ?_
  rintro e w1 ⟨rfl, hb⟩
  have B1 := hid hb; clear hb
  obtain ⟨x0, x1, x2, x3, q0, q1, q2, z0, z1⟩ := PK.out _ B1.out
  go_wp2_with fail
  refine (size_any t _ _ (exIn_below B1.out _ _ T0.out)).mono ?_
  rintro e w2 ⟨s1, rfl, hb⟩
  have B2 := hid (below_step B1.out hb); clear hb
  clear x0 x1 x2 x3 q0 q1 q2 z0 z1
  by_cases hs1 : 200 < s1
  · go_wp2
    go_ret
    exact ⟨rfl, below_step B0.out B2.out⟩
  obtain ⟨x0, x1, x2, x3, q0, q1, q2, z0, z1⟩ := PK.out _ B2.out
  go_wp2_with fail
  refine (sizec_any d _ _ (cdIn_below B2.out _ _ D0.out)).mono ?_
  rintro e w3 ⟨s2, rfl, hb⟩
  have B3 := hid (below_step B2.out hb); clear hb
  clear x0 x1 x2 x3 q0 q1 q2 z0 z1
  by_cases hs2 : 200 < s2
  · go_wp2
    go_ret
    exact ⟨rfl, below_step B0.out B3.out⟩
  obtain ⟨x0, x1, x2, x3, q0, q1, q2, z0, z1⟩ := PK.out _ B3.out
  by_cases hv1 : (20 : Int) < (n1 : Int)
  · go_wp2
    go_ret
    exact ⟨rfl, below_step B0.out B3.out⟩
  by_cases hv2 : (20 : Int) < (n2 : Int)
  · go_wp2
    go_ret
    exact ⟨rfl, below_step B0.out B3.out⟩
  go_upto_region 6 with fail
  have hsd := (Below.refl w3.heap.size w3).drew
  refine wp_region_held_drew (S := fun W' => (W'.cell? ⟨w.heap.size, 0, none⟩ = some (.int .i64 o) ∧ W'.cell? ⟨w.heap.size, 1, none⟩ = some (.int .i64 n) ∧ W'.cell? ⟨w.heap.size, 2, none⟩ = some (.int .i64 v) ∧ W'.cell? ⟨w.heap.size, 3, none⟩ = some (.slice a1 l1 c1) ∧ W'.cell? ⟨w.heap.size + 1, 0, none⟩ = some (.int .i64 co) ∧ W'.cell? ⟨w.heap.size + 1, 1, none⟩ = some (.slice b1 m1 d1) ∧ W'.cell? ⟨w.heap.size + 1, 2, none⟩ = some (.slice b2 m2 d2) ∧ W'.cell? ⟨w.heap.size + 1 + 1, 0, none⟩ = some (.slice p1 n1 k1) ∧ W'.cell? ⟨w.heap.size + 1 + 1, 1, none⟩ = some (.slice p2 n2 k2) ∧ Below w3.heap.size w3 W')) (by kernel_rfl) ?_ (fun hHeld => ?_)
  · exact ⟨x0, x1, x2, x3, q0, q1, q2, z0, z1, hsd⟩
  refine wpAnyH_take (i := 0) (oi := ({ dst := some 38, op := Op.load 24 (Operand.tmp 3), type := 24, pos := "law.go:131", after := #[], guard := none } : Oper)) (v := ?_) rfl (by kernel_rfl) (by kernel_rfl) (by kernel_rfl) (fun _ _ _ h => h) (Or.inl ⟨by rfl, ?_⟩) (by assumption) ?_
  rotate_left
  · intro w hSw; (try dsimp only at hSw); go_simp <;> with_reducible rfl
  (try simp only [Act.put, List.setIfInBounds_toArray, List.set_cons_zero, List.set_cons_succ])
  refine wpAnyH_take (i := 2) (oi := ({ dst := some 40, op := Op.load 27 (Operand.tmp 4), type := 27, pos := "law.go:131", after := #[], guard := none } : Oper)) (v := ?_) rfl (by kernel_rfl) (by kernel_rfl) (by kernel_rfl) (fun _ _ _ h => h) (Or.inl ⟨by rfl, ?_⟩) (by assumption) ?_
  rotate_left
  · intro w hSw; (try dsimp only at hSw); go_simp <;> with_reducible rfl
  (try simp only [Act.put, List.setIfInBounds_toArray, List.set_cons_zero, List.set_cons_succ])
  refine wpAnyH_ready (rs := [1]) (by kernel_rfl) (by simp) ?_
  refine AllReadyH.cons (o := ({ dst := some 39, op := Op.call { callee := Callee.value (Operand.func 21), args := #[Operand.tmp 38], argTypes := #[24] }, type := 28, pos := "law.go:131", after := #[{ on := 0, ground := Ground.data }], guard := none } : Oper)) rfl (fun K hK => ?_) ?_
  rotate_left
  · exact AllReadyH.nil
  go_simp
  go_at_call 21
  with_reducible refine (reads_any t _ _ (exIn_below (below_step B3.out hsd) _ _ T0.out) (by have := HT.out; omega)).mono ?_
  rintro e y0 ⟨va, rfl, hIa, hq0⟩
  have hB0 := below_step hsd hq0
  clear hHeld
  first | (with_reducible refine hK.out _ _ ?_ (fun hHeld => ?_)) | (go_wp2_with fail; with_reducible refine hK.out _ _ ?_ (fun hHeld => ?_))
  · exact ⟨cell_below hB0 x0, cell_below hB0 x1, cell_below hB0 x2, cell_below hB0 x3, cell_below hB0 q0, cell_below hB0 q1, cell_below hB0 q2, cell_below hB0 z0, cell_below hB0 z1, hB0⟩
  clear hK K
  (try simp only [Act.put, List.setIfInBounds_toArray, List.set_cons_zero, List.set_cons_succ])
  refine wpAnyH_ready (rs := [3]) (by kernel_rfl) (by simp) ?_
  refine AllReadyH.cons (o := ({ dst := some 41, op := Op.call { callee := Callee.value (Operand.func 23), args := #[Operand.tmp 40], argTypes := #[27] }, type := 28, pos := "law.go:131", after := #[{ on := 2, ground := Ground.data }, { on := 1, ground := Ground.chain }], guard := none } : Oper)) rfl (fun K hK => ?_) ?_
  rotate_left
  · exact AllReadyH.nil
  go_simp
  go_at_call 23
  with_reducible refine (readsC_any d _ _ (cdIn_below (below_step B3.out hB0) _ _ D0.out) (by have := HD.out; omega)).mono ?_
  rintro e y1 ⟨vb, rfl, hIb, hq1⟩
  have hB1 := below_step hB0 hq1
  clear hHeld
  first | (with_reducible refine hK.out _ _ ?_ (fun hHeld => ?_)) | (go_wp2_with fail; with_reducible refine hK.out _ _ ?_ (fun hHeld => ?_))
  · exact ⟨cell_below hB1 x0, cell_below hB1 x1, cell_below hB1 x2, cell_below hB1 x3, cell_below hB1 q0, cell_below hB1 q1, cell_below hB1 q2, cell_below hB1 z0, cell_below hB1 z1, hB1⟩
  clear hK K
  (try simp only [Act.put, List.setIfInBounds_toArray, List.set_cons_zero, List.set_cons_succ])
  refine wpAnyH_take (i := 4) (oi := ({ dst := some 8, op := Op.assign (Operand.tmp 39), type := 28, pos := "law.go:131", after := #[{ on := 1, ground := Ground.data }, { on := 3, ground := Ground.chain }, { on := 0, ground := Ground.phase }, { on := 1, ground := Ground.phase }, { on := 2, ground := Ground.textOnly Departure.lateStores }, { on := 3, ground := Ground.textOnly Departure.lateStoresUnsure }], guard := none } : Oper)) (v := ?_) rfl (by kernel_rfl) (by kernel_rfl) (by kernel_rfl) (fun _ _ _ h => h) (Or.inl ⟨by rfl, ?_⟩) (by assumption) ?_
  rotate_left
  · intro w hSw; (try dsimp only at hSw); go_simp <;> with_reducible rfl
  (try simp only [Act.put, List.setIfInBounds_toArray, List.set_cons_zero, List.set_cons_succ])
  refine wpAnyH_take (i := 5) (oi := ({ dst := some 9, op := Op.assign (Operand.tmp 41), type := 28, pos := "law.go:131", after := #[{ on := 3, ground := Ground.data }, { on := 4, ground := Ground.chain }, { on := 0, ground := Ground.phase }, { on := 1, ground := Ground.phase }, { on := 2, ground := Ground.phase }, { on := 3, ground := Ground.phase }, { on := 4, ground := Ground.phase }], guard := none } : Oper)) (v := ?_) rfl (by kernel_rfl) (by kernel_rfl) (by kernel_rfl) (fun _ _ _ h => h) (Or.inl ⟨by rfl, ?_⟩) (by assumption) ?_
  rotate_left
  · intro w hSw; (try dsimp only at hSw); go_simp <;> with_reducible rfl
  (try simp only [Act.put, List.setIfInBounds_toArray, List.set_cons_zero, List.set_cons_succ])
  refine wpAnyH_done (by kernel_rfl) ?_ _
  have IB := hid hIb
  have IA := hid (intsIn_below hq1 hIa)
  have B4 := hid (below_step B3.out hB1)
  clear hHeld hIa hIb hq0 hq1 hB0 hB1 x0 x1 x2 x3 q0 q1 q2 z0 z1 hs1 hs2
  obtain ⟨wz, hwz⟩ : ∃ wz, y1 = wz := ⟨_, rfl⟩
  rw [hwz] at IA IB B4 ⊢
  clear hwz hsd
  obtain ⟨-, -, -, -, -, -, -, z0, z1⟩ := PK.out _ B4.out
  go_upto_region 7 with fail
  go_cut [10, 11] (fun vx vy wx => ∃ gx cx gy cy : Nat, vx = .slice (some ⟨gx, 0, none⟩) n1 cx ∧ vy = .slice (some ⟨gy, 0, none⟩) n1 cy ∧ gx ≠ gy ∧ Hid (wx.ownsRow wz.heap.size 3 1 (.slice (some ⟨gx, 0, none⟩) n1 cx) n1 (i64s V)) ∧ Hid (wx.ownsRow wz.heap.size 3 1 (.slice (some ⟨gy, 0, none⟩) n1 cy) n1 (i64s V)) ∧ Hid (Below wz.heap.size wz wx))
  case first =>
    have hsd := (Below.refl wz.heap.size wz).drew
    refine wp_region_held_drew (S := fun W' => (W'.cell? ⟨w.heap.size + 1 + 1, 0, none⟩ = some (.slice p1 n1 k1) ∧ W'.cell? ⟨w.heap.size + 1 + 1, 1, none⟩ = some (.slice p2 n2 k2))) (by kernel_rfl) ?_ (fun hHeld => ?_)
    · exact ⟨z0, z1⟩
    refine wpAnyH_take (i := 1) (oi := ({ dst := some 43, op := Op.indexAddr 41 (Operand.tmp 5) (Operand.const (Value.int IntKind.i64 0)), type := 0, pos := "law.go:132", after := #[], guard := none } : Oper)) (v := ?_) rfl (by kernel_rfl) (by kernel_rfl) (by kernel_rfl) (fun _ _ _ h => h) (Or.inl ⟨by rfl, ?_⟩) (by assumption) ?_
    rotate_left
    · intro w hSw; (try dsimp only at hSw); go_simp <;> with_reducible rfl
    (try simp only [Act.put, List.setIfInBounds_toArray, List.set_cons_zero, List.set_cons_succ])
    refine wpAnyH_take (i := 2) (oi := ({ dst := some 44, op := Op.load 28 (Operand.tmp 43), type := 28, pos := "law.go:132", after := #[{ on := 1, ground := Ground.data }], guard := none } : Oper)) (v := ?_) rfl (by kernel_rfl) (by kernel_rfl) (by kernel_rfl) (fun _ _ _ h => h) (Or.inl ⟨by rfl, ?_⟩) (by assumption) ?_
    rotate_left
    · intro w hSw; (try dsimp only at hSw); go_simp <;> with_reducible rfl
    (try simp only [Act.put, List.setIfInBounds_toArray, List.set_cons_zero, List.set_cons_succ])
    refine wpAnyH_take (i := 5) (oi := ({ dst := some 47, op := Op.indexAddr 41 (Operand.tmp 5) (Operand.const (Value.int IntKind.i64 0)), type := 0, pos := "law.go:132", after := #[], guard := none } : Oper)) (v := ?_) rfl (by kernel_rfl) (by kernel_rfl) (by kernel_rfl) (fun _ _ _ h => h) (Or.inl ⟨by rfl, ?_⟩) (by assumption) ?_
    rotate_left
    · intro w hSw; (try dsimp only at hSw); go_simp <;> with_reducible rfl
    (try simp only [Act.put, List.setIfInBounds_toArray, List.set_cons_zero, List.set_cons_succ])
    refine wpAnyH_take (i := 6) (oi := ({ dst := some 48, op := Op.load 28 (Operand.tmp 47), type := 28, pos := "law.go:132", after := #[{ on := 5, ground := Ground.data }], guard := none } : Oper)) (v := ?_) rfl (by kernel_rfl) (by kernel_rfl) (by kernel_rfl) (fun _ _ _ h => h) (Or.inl ⟨by rfl, ?_⟩) (by assumption) ?_
    rotate_left
    · intro w hSw; (try dsimp only at hSw); go_simp <;> with_reducible rfl
    (try simp only [Act.put, List.setIfInBounds_toArray, List.set_cons_zero, List.set_cons_succ])
    refine wpAnyH_ready (rs := [0, 4]) (by kernel_rfl) (by simp) ?_
    refine (AllReadyH.cons (o := ({ dst := some 42, op := Op.buildSlice 28 0 #[], type := 28, pos := "law.go:132", after := #[], guard := none } : Oper)) rfl (fun K hK => ?_) (AllReadyH.cons (o := ({ dst := some 46, op := Op.buildSlice 28 0 #[], type := 28, pos := "law.go:132", after := #[], guard := none } : Oper)) rfl (fun K hK => ?_) AllReadyH.nil))
    · skip
      go_simp
      clear hHeld
      first | (with_reducible refine hK.out _ _ ?_ (fun hHeld => ?_)) | (go_wp2_with fail; with_reducible refine hK.out _ _ ?_ (fun hHeld => ?_))
      · exact ⟨cell_alloc _ z0, cell_alloc _ z1⟩
      have OX : ((wz.alloc (.cells #[] 3)).drew).ownsRow wz.heap.size 3 1 (.slice (some ⟨wz.heap.size, 0, none⟩) 0 0) 0 [] := own_newB wz wz.heap.size (Nat.le_refl _) 3
      have BE : Below wz.heap.size wz ((wz.alloc (.cells #[] 3)).drew) := (below_a (Below.refl _ _) _).drew
      clear hK K
      (try simp only [Act.put, List.setIfInBounds_toArray, List.set_cons_zero, List.set_cons_succ])
      refine wpAnyH_ready (rs := [3, 4]) (by kernel_rfl) (by simp) ?_
      refine (AllReadyH.cons (o := ({ dst := some 45, op := Op.call { callee := Callee.builtin Builtin.append, args := #[Operand.tmp 42, Operand.tmp 44], argTypes := #[28, 28] }, type := 28, pos := "law.go:132", after := #[{ on := 0, ground := Ground.data }, { on := 2, ground := Ground.data }], guard := none } : Oper)) rfl (fun K hK => ?_) (AllReadyH.cons (o := ({ dst := some 46, op := Op.buildSlice 28 0 #[], type := 28, pos := "law.go:132", after := #[], guard := none } : Oper)) rfl (fun K hK => ?_) AllReadyH.nil))
      · skip
        refine step_append_lit (by rfl) (.tmp 42) (.tmp 44) 28 (by rfl) wz.heap.size 3 i0 (.int .i64 0) Try.underlying28 hi0 hz0 hz1 hz2 (by rfl) (wz.heap.size) (by rfl) OX (.slice p1 n1 k1) V (by rfl) (V0.out.below (below_step B4.out BE)) (by rw [HVn.out]; omega) BE.size ?_
        intro gx cx w6 hown hg6 hgx hlx
        rw [HVn.out] at hown ⊢
        clear OX
        have OX := hown
        have BE6 : Below wz.heap.size wz w6 := BE.grown hg6 BE.size (fun k e => by cases e)
        have hs6 := hg6.size
        clear BE hown hg6 hHeld
        have BE := BE6
        first | (with_reducible refine hK.out _ _ ?_ (fun hHeld => ?_)) | (go_wp2_with fail; with_reducible refine hK.out _ _ ?_ (fun hHeld => ?_))
        · exact ⟨cell_below BE z0, cell_below BE z1⟩
        clear hK K
        (try simp only [Act.put, List.setIfInBounds_toArray, List.set_cons_zero, List.set_cons_succ])
        refine wpAnyH_ready (rs := [4]) (by kernel_rfl) (by simp) ?_
        refine (AllReadyH.cons (o := ({ dst := some 46, op := Op.buildSlice 28 0 #[], type := 28, pos := "law.go:132", after := #[], guard := none } : Oper)) rfl (fun K hK => ?_) AllReadyH.nil)
        go_simp
        clear hHeld
        first | (with_reducible refine hK.out _ _ ?_ (fun hHeld => ?_)) | (go_wp2_with fail; with_reducible refine hK.out _ _ ?_ (fun hHeld => ?_))
        · exact ⟨cell_alloc _ (cell_below BE z0), cell_alloc _ (cell_below BE z1)⟩
        have OY := own_newB w6 wz.heap.size BE.size 3
        have OX2 := OX.alloc (.cells #[] 3)
        clear OX
        have OX := OX2
        have BE2 := below_a BE (.cells #[] 3)
        clear BE
        have BE := BE2
        clear hK K
        (try simp only [Act.put, List.setIfInBounds_toArray, List.set_cons_zero, List.set_cons_succ])
        refine wpAnyH_ready (rs := [7]) (by kernel_rfl) (by simp) ?_
        refine (AllReadyH.cons (o := ({ dst := some 49, op := Op.call { callee := Callee.builtin Builtin.append, args := #[Operand.tmp 46, Operand.tmp 48], argTypes := #[28, 28] }, type := 28, pos := "law.go:132", after := #[{ on := 4, ground := Ground.data }, { on := 6, ground := Ground.data }, { on := 3, ground := Ground.chain }], guard := none } : Oper)) rfl (fun K hK => ?_) AllReadyH.nil)
        refine step_append_lit (by rfl) (.tmp 46) (.tmp 48) 28 (by rfl) wz.heap.size 3 i0 (.int .i64 0) Try.underlying28 hi0 hz0 hz1 hz2 (by rfl) (w6.heap.size) (by rfl) OY (.slice p1 n1 k1) V (by rfl) (V0.out.below (below_step B4.out BE)) (by rw [HVn.out]; omega) BE.size ?_
        intro gy cy w8 hown hg8 hgy hly
        rw [HVn.out] at hown ⊢
        have OX8 := own_keep OX hg8
        have BE8 : Below wz.heap.size wz w8 := BE.grown hg8 BE.size (fun k e => by cases e)
        have hne : gx ≠ gy := by simp at hgx hgy hlx hly hs6; omega
        have HF := hid (And.intro OX8 (And.intro hown BE8))
        clear OX OY BE OX8 hg8 hHeld
        first | (with_reducible refine hK.out _ _ ?_ (fun hHeld => ?_)) | (go_wp2_with fail; with_reducible refine hK.out _ _ ?_ (fun hHeld => ?_))
        · exact ⟨cell_below BE8 z0, cell_below BE8 z1⟩
        clear BE8
        clear hK K
        (try simp only [Act.put, List.setIfInBounds_toArray, List.set_cons_zero, List.set_cons_succ])
        refine wpAnyH_take (i := 8) (oi := ({ dst := some 10, op := Op.assign (Operand.tmp 45), type := 28, pos := "law.go:132", after := #[{ on := 3, ground := Ground.data }, { on := 7, ground := Ground.chain }, { on := 0, ground := Ground.phase }, { on := 1, ground := Ground.phase }, { on := 2, ground := Ground.phase }, { on := 3, ground := Ground.phase }, { on := 4, ground := Ground.textOnly Departure.lateStores }, { on := 5, ground := Ground.textOnly Departure.lateStores }, { on := 6, ground := Ground.textOnly Departure.lateStores }, { on := 7, ground := Ground.textOnly Departure.lateStoresUnsure }], guard := none } : Oper)) (v := ?_) rfl (by kernel_rfl) (by kernel_rfl) (by kernel_rfl) (fun _ _ _ h => h) (Or.inl ⟨by rfl, ?_⟩) (by assumption) ?_
        rotate_left
        · intro w hSw; (try dsimp only at hSw); go_simp <;> with_reducible rfl
        (try simp only [Act.put, List.setIfInBounds_toArray, List.set_cons_zero, List.set_cons_succ])
        refine wpAnyH_take (i := 9) (oi := ({ dst := some 11, op := Op.assign (Operand.tmp 49), type := 28, pos := "law.go:132", after := #[{ on := 7, ground := Ground.data }, { on := 8, ground := Ground.chain }, { on := 0, ground := Ground.phase }, { on := 1, ground := Ground.phase }, { on := 2, ground := Ground.phase }, { on := 3, ground := Ground.phase }, { on := 4, ground := Ground.phase }, { on := 5, ground := Ground.phase }, { on := 6, ground := Ground.phase }, { on := 7, ground := Ground.phase }, { on := 8, ground := Ground.phase }], guard := none } : Oper)) (v := ?_) rfl (by kernel_rfl) (by kernel_rfl) (by kernel_rfl) (fun _ _ _ h => h) (Or.inl ⟨by rfl, ?_⟩) (by assumption) ?_
        rotate_left
        · intro w hSw; (try dsimp only at hSw); go_simp <;> with_reducible rfl
        (try simp only [Act.put, List.setIfInBounds_toArray, List.set_cons_zero, List.set_cons_succ])
        refine wpAnyH_done (by kernel_rfl) ?_ _
        clear hHeld
        go_wp2_with fail
        go_meet
        exact ⟨gx, cx, gy, cy, rfl, rfl, hne, hid HF.out.1, hid HF.out.2.1, hid HF.out.2.2⟩
      · skip
        go_simp
        clear hHeld
        first | (with_reducible refine hK.out _ _ ?_ (fun hHeld => ?_)) | (go_wp2_with fail; with_reducible refine hK.out _ _ ?_ (fun hHeld => ?_))
        · exact ⟨cell_alloc _ (cell_alloc _ z0), cell_alloc _ (cell_alloc _ z1)⟩
        have OY : (((wz.alloc (.cells #[] 3)).alloc (.cells #[] 3)).drew).ownsRow wz.heap.size 3 1 (.slice (some ⟨wz.heap.size + 1, 0, none⟩) 0 0) 0 [] := by
          have h := own_newB (wz.alloc (.cells #[] 3)) wz.heap.size (by simp) 3
          rw [World.size_alloc] at h
          exact h
        have OX2 : (((wz.alloc (.cells #[] 3)).alloc (.cells #[] 3)).drew).ownsRow wz.heap.size 3 1 (.slice (some ⟨wz.heap.size, 0, none⟩) 0 0) 0 [] := (own_newB wz wz.heap.size (Nat.le_refl _) 3).alloc (.cells #[] 3)
        have BE2 : Below wz.heap.size wz (((wz.alloc (.cells #[] 3)).alloc (.cells #[] 3)).drew) := (below_a (below_a (Below.refl _ _) _) _).drew
        clear BE OX
        have OX := OX2
        have BE := BE2
        clear BE2 OX2
        clear hK K
        (try simp only [Act.put, List.setIfInBounds_toArray, List.set_cons_zero, List.set_cons_succ])
        refine wpAnyH_ready (rs := [3]) (by kernel_rfl) (by simp) ?_
        refine (AllReadyH.cons (o := ({ dst := some 45, op := Op.call { callee := Callee.builtin Builtin.append, args := #[Operand.tmp 42, Operand.tmp 44], argTypes := #[28, 28] }, type := 28, pos := "law.go:132", after := #[{ on := 0, ground := Ground.data }, { on := 2, ground := Ground.data }], guard := none } : Oper)) rfl (fun K hK => ?_) AllReadyH.nil)
        refine step_append_lit (by rfl) (.tmp 42) (.tmp 44) 28 (by rfl) wz.heap.size 3 i0 (.int .i64 0) Try.underlying28 hi0 hz0 hz1 hz2 (by rfl) (wz.heap.size) (by rfl) OX (.slice p1 n1 k1) V (by rfl) (V0.out.below (below_step B4.out BE)) (by rw [HVn.out]; omega) BE.size ?_
        intro gx cx w6 hown hg6 hgx hlx
        rw [HVn.out] at hown ⊢
        clear OX
        have OX := hown
        have BE6 : Below wz.heap.size wz w6 := BE.grown hg6 BE.size (fun k e => by cases e)
        have hs6 := hg6.size
        have OY6 := own_keep OY hg6
        clear OY
        have OY := OY6
        clear BE hown hg6 hHeld
        have BE := BE6
        first | (with_reducible refine hK.out _ _ ?_ (fun hHeld => ?_)) | (go_wp2_with fail; with_reducible refine hK.out _ _ ?_ (fun hHeld => ?_))
        · exact ⟨cell_below BE z0, cell_below BE z1⟩
        clear hK K
        (try simp only [Act.put, List.setIfInBounds_toArray, List.set_cons_zero, List.set_cons_succ])
        refine wpAnyH_ready (rs := [7]) (by kernel_rfl) (by simp) ?_
        refine (AllReadyH.cons (o := ({ dst := some 49, op := Op.call { callee := Callee.builtin Builtin.append, args := #[Operand.tmp 46, Operand.tmp 48], argTypes := #[28, 28] }, type := 28, pos := "law.go:132", after := #[{ on := 4, ground := Ground.data }, { on := 6, ground := Ground.data }, { on := 3, ground := Ground.chain }], guard := none } : Oper)) rfl (fun K hK => ?_) AllReadyH.nil)
        refine step_append_lit (by rfl) (.tmp 46) (.tmp 48) 28 (by rfl) wz.heap.size 3 i0 (.int .i64 0) Try.underlying28 hi0 hz0 hz1 hz2 (by rfl) (wz.heap.size + 1) (by rfl) OY (.slice p1 n1 k1) V (by rfl) (V0.out.below (below_step B4.out BE)) (by rw [HVn.out]; omega) BE.size ?_
        intro gy cy w8 hown hg8 hgy hly
        rw [HVn.out] at hown ⊢
        have OX8 := own_keep OX hg8
        have BE8 : Below wz.heap.size wz w8 := BE.grown hg8 BE.size (fun k e => by cases e)
        have hne : gx ≠ gy := by simp at hgx hgy hlx hly hs6; omega
        have HF := hid (And.intro OX8 (And.intro hown BE8))
        clear OX OY BE OX8 hg8 hHeld
        first | (with_reducible refine hK.out _ _ ?_ (fun hHeld => ?_)) | (go_wp2_with fail; with_reducible refine hK.out _ _ ?_ (fun hHeld => ?_))
        · exact ⟨cell_below BE8 z0, cell_below BE8 z1⟩
        clear BE8
        clear hK K
        (try simp only [Act.put, List.setIfInBounds_toArray, List.set_cons_zero, List.set_cons_succ])
        refine wpAnyH_take (i := 8) (oi := ({ dst := some 10, op := Op.assign (Operand.tmp 45), type := 28, pos := "law.go:132", after := #[{ on := 3, ground := Ground.data }, { on := 7, ground := Ground.chain }, { on := 0, ground := Ground.phase }, { on := 1, ground := Ground.phase }, { on := 2, ground := Ground.phase }, { on := 3, ground := Ground.phase }, { on := 4, ground := Ground.textOnly Departure.lateStores }, { on := 5, ground := Ground.textOnly Departure.lateStores }, { on := 6, ground := Ground.textOnly Departure.lateStores }, { on := 7, ground := Ground.textOnly Departure.lateStoresUnsure }], guard := none } : Oper)) (v := ?_) rfl (by kernel_rfl) (by kernel_rfl) (by kernel_rfl) (fun _ _ _ h => h) (Or.inl ⟨by rfl, ?_⟩) (by assumption) ?_
        rotate_left
        · intro w hSw; (try dsimp only at hSw); go_simp <;> with_reducible rfl
        (try simp only [Act.put, List.setIfInBounds_toArray, List.set_cons_zero, List.set_cons_succ])
        refine wpAnyH_take (i := 9) (oi := ({ dst := some 11, op := Op.assign (Operand.tmp 49), type := 28, pos := "law.go:132", after := #[{ on := 7, ground := Ground.data }, { on := 8, ground := Ground.chain }, { on := 0, ground := Ground.phase }, { on := 1, ground := Ground.phase }, { on := 2, ground := Ground.phase }, { on := 3, ground := Ground.phase }, { on := 4, ground := Ground.phase }, { on := 5, ground := Ground.phase }, { on := 6, ground := Ground.phase }, { on := 7, ground := Ground.phase }, { on := 8, ground := Ground.phase }], guard := none } : Oper)) (v := ?_) rfl (by kernel_rfl) (by kernel_rfl) (by kernel_rfl) (fun _ _ _ h => h) (Or.inl ⟨by rfl, ?_⟩) (by assumption) ?_
        rotate_left
        · intro w hSw; (try dsimp only at hSw); go_simp <;> with_reducible rfl
        (try simp only [Act.put, List.setIfInBounds_toArray, List.set_cons_zero, List.set_cons_succ])
        refine wpAnyH_done (by kernel_rfl) ?_ _
        clear hHeld
        go_wp2_with fail
        go_meet
        exact ⟨gx, cx, gy, cy, rfl, rfl, hne, hid HF.out.1, hid HF.out.2.1, hid HF.out.2.2⟩
    · skip
      go_simp
      clear hHeld
      first | (with_reducible refine hK.out _ _ ?_ (fun hHeld => ?_)) | (go_wp2_with fail; with_reducible refine hK.out _ _ ?_ (fun hHeld => ?_))
      · exact ⟨cell_alloc _ z0, cell_alloc _ z1⟩
      have OY : ((wz.alloc (.cells #[] 3)).drew).ownsRow wz.heap.size 3 1 (.slice (some ⟨wz.heap.size, 0, none⟩) 0 0) 0 [] := own_newB wz wz.heap.size (Nat.le_refl _) 3
      have BE : Below wz.heap.size wz ((wz.alloc (.cells #[] 3)).drew) := (below_a (Below.refl _ _) _).drew
      clear hK K
      (try simp only [Act.put, List.setIfInBounds_toArray, List.set_cons_zero, List.set_cons_succ])
      refine wpAnyH_ready (rs := [0]) (by kernel_rfl) (by simp) ?_
      refine (AllReadyH.cons (o := ({ dst := some 42, op := Op.buildSlice 28 0 #[], type := 28, pos := "law.go:132", after := #[], guard := none } : Oper)) rfl (fun K hK => ?_) AllReadyH.nil)
      go_simp
      clear hHeld
      first | (with_reducible refine hK.out _ _ ?_ (fun hHeld => ?_)) | (go_wp2_with fail; with_reducible refine hK.out _ _ ?_ (fun hHeld => ?_))
      · exact ⟨cell_alloc _ (cell_alloc _ z0), cell_alloc _ (cell_alloc _ z1)⟩
      have OX : (((wz.alloc (.cells #[] 3)).alloc (.cells #[] 3)).drew).ownsRow wz.heap.size 3 1 (.slice (some ⟨wz.heap.size + 1, 0, none⟩) 0 0) 0 [] := by
        have h := own_newB (wz.alloc (.cells #[] 3)) wz.heap.size (by simp) 3
        rw [World.size_alloc] at h
        exact h
      have OY2 : (((wz.alloc (.cells #[] 3)).alloc (.cells #[] 3)).drew).ownsRow wz.heap.size 3 1 (.slice (some ⟨wz.heap.size, 0, none⟩) 0 0) 0 [] := (own_newB wz wz.heap.size (Nat.le_refl _) 3).alloc (.cells #[] 3)
      have BE2 : Below wz.heap.size wz (((wz.alloc (.cells #[] 3)).alloc (.cells #[] 3)).drew) := (below_a (below_a (Below.refl _ _) _) _).drew
      clear BE OY
      have OY := OY2
      have BE := BE2
      clear BE2 OY2
      clear hK K
      (try simp only [Act.put, List.setIfInBounds_toArray, List.set_cons_zero, List.set_cons_succ])
      refine wpAnyH_ready (rs := [3]) (by kernel_rfl) (by simp) ?_
      refine (AllReadyH.cons (o := ({ dst := some 45, op := Op.call { callee := Callee.builtin Builtin.append, args := #[Operand.tmp 42, Operand.tmp 44], argTypes := #[28, 28] }, type := 28, pos := "law.go:132", after := #[{ on := 0, ground := Ground.data }, { on := 2, ground := Ground.data }], guard := none } : Oper)) rfl (fun K hK => ?_) AllReadyH.nil)
      refine step_append_lit (by rfl) (.tmp 42) (.tmp 44) 28 (by rfl) wz.heap.size 3 i0 (.int .i64 0) Try.underlying28 hi0 hz0 hz1 hz2 (by rfl) (wz.heap.size + 1) (by rfl) OX (.slice p1 n1 k1) V (by rfl) (V0.out.below (below_step B4.out BE)) (by rw [HVn.out]; omega) BE.size ?_
      intro gx cx w6 hown hg6 hgx hlx
      rw [HVn.out] at hown ⊢
      clear OX
      have OX := hown
      have BE6 : Below wz.heap.size wz w6 := BE.grown hg6 BE.size (fun k e => by cases e)
      have hs6 := hg6.size
      have OY6 := own_keep OY hg6
      clear OY
      have OY := OY6
      clear BE hown hg6 hHeld
      have BE := BE6
      first | (with_reducible refine hK.out _ _ ?_ (fun hHeld => ?_)) | (go_wp2_with fail; with_reducible refine hK.out _ _ ?_ (fun hHeld => ?_))
      · exact ⟨cell_below BE z0, cell_below BE z1⟩
      clear hK K
      (try simp only [Act.put, List.setIfInBounds_toArray, List.set_cons_zero, List.set_cons_succ])
      refine wpAnyH_ready (rs := [7]) (by kernel_rfl) (by simp) ?_
      refine (AllReadyH.cons (o := ({ dst := some 49, op := Op.call { callee := Callee.builtin Builtin.append, args := #[Operand.tmp 46, Operand.tmp 48], argTypes := #[28, 28] }, type := 28, pos := "law.go:132", after := #[{ on := 4, ground := Ground.data }, { on := 6, ground := Ground.data }, { on := 3, ground := Ground.chain }], guard := none } : Oper)) rfl (fun K hK => ?_) AllReadyH.nil)
      refine step_append_lit (by rfl) (.tmp 46) (.tmp 48) 28 (by rfl) wz.heap.size 3 i0 (.int .i64 0) Try.underlying28 hi0 hz0 hz1 hz2 (by rfl) (wz.heap.size) (by rfl) OY (.slice p1 n1 k1) V (by rfl) (V0.out.below (below_step B4.out BE)) (by rw [HVn.out]; omega) BE.size ?_
      intro gy cy w8 hown hg8 hgy hly
      rw [HVn.out] at hown ⊢
      have OX8 := own_keep OX hg8
      have BE8 : Below wz.heap.size wz w8 := BE.grown hg8 BE.size (fun k e => by cases e)
      have hne : gx ≠ gy := by simp at hgx hgy hlx hly hs6; omega
      have HF := hid (And.intro OX8 (And.intro hown BE8))
      clear OX OY BE OX8 hg8 hHeld
      first | (with_reducible refine hK.out _ _ ?_ (fun hHeld => ?_)) | (go_wp2_with fail; with_reducible refine hK.out _ _ ?_ (fun hHeld => ?_))
      · exact ⟨cell_below BE8 z0, cell_below BE8 z1⟩
      clear BE8
      clear hK K
      (try simp only [Act.put, List.setIfInBounds_toArray, List.set_cons_zero, List.set_cons_succ])
      refine wpAnyH_take (i := 8) (oi := ({ dst := some 10, op := Op.assign (Operand.tmp 45), type := 28, pos := "law.go:132", after := #[{ on := 3, ground := Ground.data }, { on := 7, ground := Ground.chain }, { on := 0, ground := Ground.phase }, { on := 1, ground := Ground.phase }, { on := 2, ground := Ground.phase }, { on := 3, ground := Ground.phase }, { on := 4, ground := Ground.textOnly Departure.lateStores }, { on := 5, ground := Ground.textOnly Departure.lateStores }, { on := 6, ground := Ground.textOnly Departure.lateStores }, { on := 7, ground := Ground.textOnly Departure.lateStoresUnsure }], guard := none } : Oper)) (v := ?_) rfl (by kernel_rfl) (by kernel_rfl) (by kernel_rfl) (fun _ _ _ h => h) (Or.inl ⟨by rfl, ?_⟩) (by assumption) ?_
      rotate_left
      · intro w hSw; (try dsimp only at hSw); go_simp <;> with_reducible rfl
      (try simp only [Act.put, List.setIfInBounds_toArray, List.set_cons_zero, List.set_cons_succ])
      refine wpAnyH_take (i := 9) (oi := ({ dst := some 11, op := Op.assign (Operand.tmp 49), type := 28, pos := "law.go:132", after := #[{ on := 7, ground := Ground.data }, { on := 8, ground := Ground.chain }, { on := 0, ground := Ground.phase }, { on := 1, ground := Ground.phase }, { on := 2, ground := Ground.phase }, { on := 3, ground := Ground.phase }, { on := 4, ground := Ground.phase }, { on := 5, ground := Ground.phase }, { on := 6, ground := Ground.phase }, { on := 7, ground := Ground.phase }, { on := 8, ground := Ground.phase }], guard := none } : Oper)) (v := ?_) rfl (by kernel_rfl) (by kernel_rfl) (by kernel_rfl) (fun _ _ _ h => h) (Or.inl ⟨by rfl, ?_⟩) (by assumption) ?_
      rotate_left
      · intro w hSw; (try dsimp only at hSw); go_simp <;> with_reducible rfl
      (try simp only [Act.put, List.setIfInBounds_toArray, List.set_cons_zero, List.set_cons_succ])
      refine wpAnyH_done (by kernel_rfl) ?_ _
      clear hHeld
      go_wp2_with fail
      go_meet
      exact ⟨gx, cx, gy, cy, rfl, rfl, hne, hid HF.out.1, hid HF.out.2.1, hid HF.out.2.2⟩
  case rest =>
    obtain ⟨gx, cx, gy, cy, rfl, rfl, hne, OX, OY, BC⟩ := hcut
    obtain ⟨pa, ca, rfl, hA1, hA2, hAc⟩ := IA.out
    have HAc := hid hAc
    have HAl := hid (sortU_len (rdE t))
    have HLT := hid (sortU_lt (rdE t))
    clear hAc z0 z1
    obtain ⟨na, hna⟩ : ∃ na, (sortU (rdE t)).length = na := ⟨_, rfl⟩
    rw [hna] at IA hA1 HAc HAl ⊢
    have HNA := hid hna
    clear hna
    have hnv1 : n1 ≤ 20 := by omega
    have hnv2 : n2 ≤ 20 := by omega
    have z0 := (PK.out _ (below_step B4.out BC.out)).2.2.2.2.2.2.2.1
    have z1 := (PK.out _ (below_step B4.out BC.out)).2.2.2.2.2.2.2.2
    go_wp2_with fail
    clear z0 z1
    go_loopw [12] (fun vi wr => ∃ k : Nat, k ≤ 20 ∧ vi = .int .i64 (k : Int) ∧ Hid (wr.ownsRow wz.heap.size 3 1 (.slice (some ⟨gx, 0, none⟩) n1 cx) n1 (i64s (upd (sortU (rdE t)) V U k))) ∧ Hid (wr.ownsRow wz.heap.size 3 1 (.slice (some ⟨gy, 0, none⟩) n1 cy) n1 (i64s (upd (sortU (rdC d)) V U k))) ∧ Hid (Below wz.heap.size wz wr)) (fun vi _ => 21 - (intOf vi).toNat)
    case atStart => exact ⟨0, by omega, rfl, hid (by rw [upd_zero]; exact OX.out), hid (by rw [upd_zero]; exact OY.out), BC⟩
    case round =>
      obtain ⟨k, hk, rfl, OX2, OY2, BR⟩ := hrel
      obtain ⟨-, -, -, -, -, -, -, z0, z1⟩ := PK.out _ (below_step B4.out BR.out)
      by_cases hlt : k < n1 ∧ k < n2
      · obtain ⟨h1, h2⟩ := hlt
        obtain ⟨pu, cu', e1, hu1, hu2, -, hu3⟩ := U0.out
        simp only [Value.slice.injEq] at e1
        obtain ⟨rfl, -, rfl⟩ := e1
        obtain ⟨b, o', rfl, hcu⟩ := hu3 (by have := HUn.out; omega)
        have CU := hid (hcu k (by have := HUn.out; omega))
        have cu := cell_below (below_step B4.out BR.out) CU.out
        clear hu1 hu2 hu3 hcu
        go_wp2_with fail
        refine (has_any (sortU (rdE t)) _ k _ (intsIn_below BR.out IA.out) (by have := HT.out; have := sortU_len (rdE t); omega)).mono ?_
        rintro e w' ⟨rfl, rfl⟩
        by_cases hA : (k : Int) ∈ sortU (rdE t)
        · have hdA : decide ((k : Int) ∈ sortU (rdE t)) = true := by simpa using hA
          have HUA := hid (upd_in _ V U k hA)
          clear hA
          rw [hdA]
          clear hdA
          go_wp2_with fail
          have OXn := hid (show wr.ownsRow wz.heap.size 3 1 (.slice (some ⟨gx, 0, none⟩) n1 cx) n1 (i64s (upd (sortU (rdE t)) V U (k + 1))) by rw [HUA.out]; exact OX2.out)
          have OYm := OY2
          have BRn := BR
          refine (has_any (sortU (rdC d)) vb k _ (intsIn_below BRn.out IB.out) (by have := HD.out; have := sortU_len (rdC d); omega)).mono ?_
          rintro e w' ⟨rfl, rfl⟩
          by_cases hB : (k : Int) ∈ sortU (rdC d)
          · have hdB : decide ((k : Int) ∈ sortU (rdC d)) = true := by simpa using hB
            have HUB := hid (upd_in _ V U k hB)
            clear hB
            rw [hdB]
            clear hdB
            obtain ⟨wq, hwq⟩ : ∃ wq, wr = wq := ⟨_, rfl⟩
            rw [hwq] at OXn OYm BRn ⊢
            clear hwq
            clear z0 z1 cu
            obtain ⟨-, -, -, -, -, -, -, z0, z1⟩ := PK.out _ (below_step B4.out BRn.out)
            have cu := cell_below (below_step B4.out BRn.out) CU.out
            go_wp2_with fail
            have OYn := hid (show wq.ownsRow wz.heap.size 3 1 (.slice (some ⟨gy, 0, none⟩) n1 cy) n1 (i64s (upd (sortU (rdC d)) V U (k + 1))) by rw [HUB.out]; exact OYm.out)
            have OXf := OXn
            have BRf := BRn
            go_roundw
            case rel => exact ⟨k + 1, by omega, by go_num, OXf, OYn, BRf⟩
            case measure => simp [intOf]; omega
          · have hdB : decide ((k : Int) ∈ sortU (rdC d)) = false := by simpa using hB
            have HUB := hid (upd_out _ V U k hB)
            clear hB
            rw [hdB]
            clear hdB
            obtain ⟨wq, hwq⟩ : ∃ wq, wr = wq := ⟨_, rfl⟩
            rw [hwq] at OXn OYm BRn ⊢
            clear hwq
            clear z0 z1 cu
            obtain ⟨-, -, -, -, -, -, -, z0, z1⟩ := PK.out _ (below_step B4.out BRn.out)
            have cu := cell_below (below_step B4.out BRn.out) CU.out
            have hcx : wq.cell? ⟨gy, k, none⟩ = some (.int .i64 ((upd (sortU (rdC d)) V U k).getD k 0)) := by
              have h := OYm.out.cellAt k (by omega)
              rw [h]
              simp [i64s, List.getD, List.getElem?_eq_getElem (show k < (upd (sortU (rdC d)) V U k).length by rw [upd_len, HVn.out]; exact h1)]
            have hfx := OYm.out.frozenAt k
            go_wp2_with fail
            have hst := (OYm.out.stored k (.int .i64 (U.getD k 0))).1
            have hgr := (OYm.out.stored k (.int .i64 (U.getD k 0))).2
            have OYn := hid (show (wq.setCell ⟨gy, k, none⟩ (.int .i64 (U.getD k 0))).ownsRow wz.heap.size 3 1 (.slice (some ⟨gy, 0, none⟩) n1 cy) n1 (i64s (upd (sortU (rdC d)) V U (k + 1))) by rw [HUB.out]; unfold i64s; rw [List.map_set]; exact hst)
            have OXf := hid (own_grown OXn.out hgr (by simp; exact fun e => hne e.symm))
            have BRf := hid (BRn.out.setCell (p := ⟨gy, k, none⟩) (OYm.out.lt gy rfl).1 (.int .i64 (U.getD k 0)))
            clear hst hgr hcx hfx
            go_roundw
            case rel => exact ⟨k + 1, by omega, by go_num, OXf, OYn, BRf⟩
            case measure => simp [intOf]; omega
        · have hdA : decide ((k : Int) ∈ sortU (rdE t)) = false := by simpa using hA
          have HUA := hid (upd_out _ V U k hA)
          clear hA
          rw [hdA]
          clear hdA
          have hcx : wr.cell? ⟨gx, k, none⟩ = some (.int .i64 ((upd (sortU (rdE t)) V U k).getD k 0)) := by
            have h := OX2.out.cellAt k (by omega)
            rw [h]
            simp [i64s, List.getD, List.getElem?_eq_getElem (show k < (upd (sortU (rdE t)) V U k).length by rw [upd_len, HVn.out]; exact h1)]
          have hfx := OX2.out.frozenAt k
          go_wp2_with fail
          have hst := (OX2.out.stored k (.int .i64 (U.getD k 0))).1
          have hgr := (OX2.out.stored k (.int .i64 (U.getD k 0))).2
          have OXn := hid (show (wr.setCell ⟨gx, k, none⟩ (.int .i64 (U.getD k 0))).ownsRow wz.heap.size 3 1 (.slice (some ⟨gx, 0, none⟩) n1 cx) n1 (i64s (upd (sortU (rdE t)) V U (k + 1))) by rw [HUA.out]; unfold i64s; rw [List.map_set]; exact hst)
          have OYm := hid (own_grown OY2.out hgr (by simp; exact hne))
          have BRn := hid (BR.out.setCell (p := ⟨gx, k, none⟩) (OX2.out.lt gx rfl).1 (.int .i64 (U.getD k 0)))
          clear hst hgr hcx hfx
          refine (has_any (sortU (rdC d)) vb k _ (intsIn_below BRn.out IB.out) (by have := HD.out; have := sortU_len (rdC d); omega)).mono ?_
          rintro e w' ⟨rfl, rfl⟩
          by_cases hB : (k : Int) ∈ sortU (rdC d)
          · have hdB : decide ((k : Int) ∈ sortU (rdC d)) = true := by simpa using hB
            have HUB := hid (upd_in _ V U k hB)
            clear hB
            rw [hdB]
            clear hdB
            obtain ⟨wq, hwq⟩ : ∃ wq, (wr.setCell ⟨gx, k, none⟩ (.int .i64 (U.getD k 0))) = wq := ⟨_, rfl⟩
            rw [hwq] at OXn OYm BRn ⊢
            clear hwq
            clear z0 z1 cu
            obtain ⟨-, -, -, -, -, -, -, z0, z1⟩ := PK.out _ (below_step B4.out BRn.out)
            have cu := cell_below (below_step B4.out BRn.out) CU.out
            go_wp2_with fail
            have OYn := hid (show wq.ownsRow wz.heap.size 3 1 (.slice (some ⟨gy, 0, none⟩) n1 cy) n1 (i64s (upd (sortU (rdC d)) V U (k + 1))) by rw [HUB.out]; exact OYm.out)
            have OXf := OXn
            have BRf := BRn
            go_roundw
            case rel => exact ⟨k + 1, by omega, by go_num, OXf, OYn, BRf⟩
            case measure => simp [intOf]; omega
          · have hdB : decide ((k : Int) ∈ sortU (rdC d)) = false := by simpa using hB
            have HUB := hid (upd_out _ V U k hB)
            clear hB
            rw [hdB]
            clear hdB
            obtain ⟨wq, hwq⟩ : ∃ wq, (wr.setCell ⟨gx, k, none⟩ (.int .i64 (U.getD k 0))) = wq := ⟨_, rfl⟩
            rw [hwq] at OXn OYm BRn ⊢
            clear hwq
            clear z0 z1 cu
            obtain ⟨-, -, -, -, -, -, -, z0, z1⟩ := PK.out _ (below_step B4.out BRn.out)
            have cu := cell_below (below_step B4.out BRn.out) CU.out
            have hcx : wq.cell? ⟨gy, k, none⟩ = some (.int .i64 ((upd (sortU (rdC d)) V U k).getD k 0)) := by
              have h := OYm.out.cellAt k (by omega)
              rw [h]
              simp [i64s, List.getD, List.getElem?_eq_getElem (show k < (upd (sortU (rdC d)) V U k).length by rw [upd_len, HVn.out]; exact h1)]
            have hfx := OYm.out.frozenAt k
            go_wp2_with fail
            have hst := (OYm.out.stored k (.int .i64 (U.getD k 0))).1
            have hgr := (OYm.out.stored k (.int .i64 (U.getD k 0))).2
            have OYn := hid (show (wq.setCell ⟨gy, k, none⟩ (.int .i64 (U.getD k 0))).ownsRow wz.heap.size 3 1 (.slice (some ⟨gy, 0, none⟩) n1 cy) n1 (i64s (upd (sortU (rdC d)) V U (k + 1))) by rw [HUB.out]; unfold i64s; rw [List.map_set]; exact hst)
            have OXf := hid (own_grown OXn.out hgr (by simp; exact fun e => hne e.symm))
            have BRf := hid (BRn.out.setCell (p := ⟨gy, k, none⟩) (OYm.out.lt gy rfl).1 (.int .i64 (U.getD k 0)))
            clear hst hgr hcx hfx
            go_roundw
            case rel => exact ⟨k + 1, by omega, by go_num, OXf, OYn, BRf⟩
            case measure => simp [intOf]; omega
      · have HK := hid hlt
        clear hlt
        go_upto_region 9 with fail
        go_cut [61] (fun s wx => s = .bool false ∧ wx = wr)
        case first =>
          by_cases h1 : k < n1
          · have h2 : decide ((k : Int) < (n2 : Int)) = false := by have := HK.out; simp; omega
            have h3 : decide (k < n2) = false := by have := HK.out; simp; omega
            go_wp2_with fail
            go_meet
            exact ⟨rfl, rfl⟩
          · go_wp2_with fail
            go_meet
            exact ⟨rfl, rfl⟩
        case rest =>
          obtain ⟨rfl, rfl⟩ := hcut
          clear z0 z1
          have BW := hid (below_step B4.out BR.out)
          go_wp2_with fail
          go_loopw [13] (fun vi wr => ∃ j : Nat, 1 ≤ j ∧ j ≤ na + 1 ∧ vi = .int .i64 (j : Int) ∧ Hid (Below wc.heap.size wc wr)) (fun vi _ => na + 2 - (intOf vi).toNat)
          case atStart => exact ⟨1, by omega, by omega, rfl, hid (Below.refl _ _)⟩
          case round =>
            obtain ⟨j, hj1, hj2, rfl, BJ⟩ := hrel
            by_cases hlt : j < na
            · obtain ⟨b, o', rfl, c0⟩ := HAc.out j hlt
              obtain ⟨b', o2, e1, c1⟩ := HAc.out (j - 1) (by omega)
              simp only [Option.some.injEq, Addr.mk.injEq, and_true] at e1
              obtain ⟨rfl, rfl⟩ := e1
              have hlt2 := List.pairwise_iff_getElem.1 HLT.out (j - 1) j (by have := HNA.out; omega) (by have := HNA.out; omega) (by omega)
              have q0 := cell_below BJ.out (cell_below BR.out c0)
              have q1 := cell_below BJ.out (cell_below BR.out c1)
              have e0 : (sortU (rdE t)).getD j 0 = (sortU (rdE t))[j]'(by have := HNA.out; omega) := by rw [List.getD_eq_getElem?_getD, List.getElem?_eq_getElem (by have := HNA.out; omega)]; rfl
              have e1 : (sortU (rdE t)).getD (j - 1) 0 = (sortU (rdE t))[j - 1]'(by have := HNA.out; omega) := by rw [List.getD_eq_getElem?_getD, List.getElem?_eq_getElem (by have := HNA.out; omega)]; rfl
              rw [← e0, ← e1] at hlt2
              obtain ⟨u0, hu0⟩ : ∃ u, (sortU (rdE t)).getD (j - 1) 0 = u := ⟨_, rfl⟩
              obtain ⟨u1, hu1⟩ : ∃ u, (sortU (rdE t)).getD j 0 = u := ⟨_, rfl⟩
              rw [hu0, hu1] at hlt2
              rw [hu1] at q0
              rw [hu0] at q1
              have hge : decide (u1 ≤ u0) = false := by simp; omega
              obtain ⟨i, rfl⟩ : ∃ i, j = i + 1 := ⟨j - 1, by omega⟩
              rw [Nat.add_sub_cancel] at q1
              have hw1 : IntKind.i64.wrap ((i : Int) + 1 - 1) = (i : Int) := by rw [IntKind.wrap_i64]; omega
              have hbd1 : i < na := by omega
              clear e0 e1 hlt2 hu0 hu1 c0 c1
              go_upto_region 18 with fail
              go_region
              go_wp2_with fail
              go_roundw
              case rel => exact ⟨i + 1 + 1, by omega, by omega, by go_num, hid BJ.out.drew⟩
              case measure => simp [intOf]; omega
            · have hja : decide ((j : Int) < (na : Int)) = false := by simp; omega
              have hjb : decide (j < na) = false := by simp; omega
              have BW2 := hid (below_step BW.out BJ.out)
              clear hlt
              go_upto_region 20 with fail
              obtain ⟨x0, x1, x2, x3, q0, q1, q2, z0, z1⟩ := PK.out _ BW2.out
              have IX := hid (ints_of_row (own_below OX2.out BJ.out) (by rw [upd_len]; exact HVn.out))
              have IY := hid (ints_of_row (own_below OY2.out BJ.out) (by rw [upd_len]; exact HVn.out))
              have CE1 := hid (fun (W : World) (hW : Below wr.heap.size wr W) => eval_any (upd (sortU (rdE t)) V U k) [] t _ _ _ W (exIn_below (below_step BW2.out hW) _ _ T0.out) (intsIn_below hW IX.out) (ints_nil W none 0 (by omega)))
              have CE2 := hid (fun (W : World) (hW : Below wr.heap.size wr W) => eval_any V [] t _ _ _ W (exIn_below (below_step BW2.out hW) _ _ T0.out) ((V0.out.below (below_step BW2.out hW)).ints) (ints_nil W none 0 (by omega)))
              have CH1 := hid (fun (W : World) (hW : Below wr.heap.size wr W) => holds_any (upd (sortU (rdC d)) V U k) [] d _ _ _ W (cdIn_below (below_step BW2.out hW) _ _ D0.out) (intsIn_below hW IY.out) (ints_nil W none 0 (by omega)))
              have CH2 := hid (fun (W : World) (hW : Below wr.heap.size wr W) => holds_any V [] d _ _ _ W (cdIn_below (below_step BW2.out hW) _ _ D0.out) ((V0.out.below (below_step BW2.out hW)).ints) (ints_nil W none 0 (by omega)))
              rw [upd_eval] at CE1
              rw [upd_holds] at CH1
              obtain ⟨ev, hev⟩ : ∃ ev, evalE V [] t = ev := ⟨_, rfl⟩
              obtain ⟨hv, hhv⟩ : ∃ hv, holdsC V [] d = hv := ⟨_, rfl⟩
              rw [hev] at CE1 CE2
              rw [hhv] at CH1 CH2
              clear hev hhv
              have hsd := (Below.refl wr.heap.size wr).drew
              refine wp_region_held_drew (S := fun W' => (W'.cell? ⟨w.heap.size, 0, none⟩ = some (.int .i64 o) ∧ W'.cell? ⟨w.heap.size, 1, none⟩ = some (.int .i64 n) ∧ W'.cell? ⟨w.heap.size, 2, none⟩ = some (.int .i64 v) ∧ W'.cell? ⟨w.heap.size, 3, none⟩ = some (.slice a1 l1 c1) ∧ W'.cell? ⟨w.heap.size + 1, 0, none⟩ = some (.int .i64 co) ∧ W'.cell? ⟨w.heap.size + 1, 1, none⟩ = some (.slice b1 m1 d1) ∧ W'.cell? ⟨w.heap.size + 1, 2, none⟩ = some (.slice b2 m2 d2) ∧ W'.cell? ⟨w.heap.size + 1 + 1, 0, none⟩ = some (.slice p1 n1 k1) ∧ W'.cell? ⟨w.heap.size + 1 + 1, 1, none⟩ = some (.slice p2 n2 k2) ∧ Below wr.heap.size wr W')) (by kernel_rfl) ?_ (fun hHeld => ?_)
              · exact ⟨x0, x1, x2, x3, q0, q1, q2, z0, z1, hsd⟩
              refine wpAnyH_take (i := 0) (oi := ({ dst := some 104, op := Op.load 24 (Operand.tmp 3), type := 24, pos := "law.go:146", after := #[], guard := none } : Oper)) (v := ?_) rfl (by kernel_rfl) (by kernel_rfl) (by kernel_rfl) (fun _ _ _ h => h) (Or.inl ⟨by rfl, ?_⟩) (by assumption) ?_
              rotate_left
              · intro w hSw; (try dsimp only at hSw); go_simp <;> with_reducible rfl
              (try simp only [Act.put, List.setIfInBounds_toArray, List.set_cons_zero, List.set_cons_succ])
              refine wpAnyH_take (i := 1) (oi := ({ dst := some 105, op := Op.move (Operand.tmp 10), type := 28, pos := "law.go:146", after := #[], guard := none } : Oper)) (v := ?_) rfl (by kernel_rfl) (by kernel_rfl) (by kernel_rfl) (fun _ _ _ h => h) (Or.inl ⟨by rfl, ?_⟩) (by assumption) ?_
              rotate_left
              · intro w hSw; (try dsimp only at hSw); go_simp <;> with_reducible rfl
              (try simp only [Act.put, List.setIfInBounds_toArray, List.set_cons_zero, List.set_cons_succ])
              refine wpAnyH_take (i := 3) (oi := ({ dst := some 107, op := Op.load 24 (Operand.tmp 3), type := 24, pos := "law.go:146", after := #[], guard := none } : Oper)) (v := ?_) rfl (by kernel_rfl) (by kernel_rfl) (by kernel_rfl) (fun _ _ _ h => h) (Or.inl ⟨by rfl, ?_⟩) (by assumption) ?_
              rotate_left
              · intro w hSw; (try dsimp only at hSw); go_simp <;> with_reducible rfl
              (try simp only [Act.put, List.setIfInBounds_toArray, List.set_cons_zero, List.set_cons_succ])
              refine wpAnyH_take (i := 4) (oi := ({ dst := some 108, op := Op.indexAddr 41 (Operand.tmp 5) (Operand.const (Value.int IntKind.i64 0)), type := 0, pos := "law.go:146", after := #[], guard := none } : Oper)) (v := ?_) rfl (by kernel_rfl) (by kernel_rfl) (by kernel_rfl) (fun _ _ _ h => h) (Or.inl ⟨by rfl, ?_⟩) (by assumption) ?_
              rotate_left
              · intro w hSw; (try dsimp only at hSw); go_simp <;> with_reducible rfl
              (try simp only [Act.put, List.setIfInBounds_toArray, List.set_cons_zero, List.set_cons_succ])
              refine wpAnyH_take (i := 5) (oi := ({ dst := some 109, op := Op.load 28 (Operand.tmp 108), type := 28, pos := "law.go:146", after := #[{ on := 4, ground := Ground.data }], guard := none } : Oper)) (v := ?_) rfl (by kernel_rfl) (by kernel_rfl) (by kernel_rfl) (fun _ _ _ h => h) (Or.inl ⟨by rfl, ?_⟩) (by assumption) ?_
              rotate_left
              · intro w hSw; (try dsimp only at hSw); go_simp <;> with_reducible rfl
              (try simp only [Act.put, List.setIfInBounds_toArray, List.set_cons_zero, List.set_cons_succ])
              refine wpAnyH_ready (rs := [2]) (by kernel_rfl) (by simp) ?_
              refine AllReadyH.cons (o := ({ dst := some 106, op := Op.call { callee := Callee.value (Operand.func 12), args := #[Operand.tmp 104, Operand.tmp 105, Operand.const (Value.slice none 0 0)], argTypes := #[24, 28, 28] }, type := 3, pos := "law.go:146", after := #[{ on := 0, ground := Ground.data }, { on := 1, ground := Ground.data }], guard := none } : Oper)) rfl (fun K hK => ?_) ?_
              rotate_left
              · exact AllReadyH.nil
              go_simp
              go_at_call 12
              with_reducible refine (CE1.out _ hsd).mono ?_
              rintro e y0 ⟨rfl, hq0⟩
              have hB0 := below_step hsd hq0
              clear hHeld
              first | (with_reducible refine hK.out _ _ ?_ (fun hHeld => ?_)) | (go_wp2_with fail; with_reducible refine hK.out _ _ ?_ (fun hHeld => ?_))
              · exact ⟨cell_below hB0 x0, cell_below hB0 x1, cell_below hB0 x2, cell_below hB0 x3, cell_below hB0 q0, cell_below hB0 q1, cell_below hB0 q2, cell_below hB0 z0, cell_below hB0 z1, hB0⟩
              clear hK K
              (try simp only [Act.put, List.setIfInBounds_toArray, List.set_cons_zero, List.set_cons_succ])
              refine wpAnyH_ready (rs := [6]) (by kernel_rfl) (by simp) ?_
              refine AllReadyH.cons (o := ({ dst := some 110, op := Op.call { callee := Callee.value (Operand.func 12), args := #[Operand.tmp 107, Operand.tmp 109, Operand.const (Value.slice none 0 0)], argTypes := #[24, 28, 28] }, type := 3, pos := "law.go:146", after := #[{ on := 3, ground := Ground.data }, { on := 5, ground := Ground.data }, { on := 2, ground := Ground.chain }], guard := none } : Oper)) rfl (fun K hK => ?_) ?_
              rotate_left
              · exact AllReadyH.nil
              go_simp
              go_at_call 12
              with_reducible refine (CE2.out _ hB0).mono ?_
              rintro e y1 ⟨rfl, hq1⟩
              have hB1 := below_step hB0 hq1
              clear hHeld
              first | (with_reducible refine hK.out _ _ ?_ (fun hHeld => ?_)) | (go_wp2_with fail; with_reducible refine hK.out _ _ ?_ (fun hHeld => ?_))
              · exact ⟨cell_below hB1 x0, cell_below hB1 x1, cell_below hB1 x2, cell_below hB1 x3, cell_below hB1 q0, cell_below hB1 q1, cell_below hB1 q2, cell_below hB1 z0, cell_below hB1 z1, hB1⟩
              clear hK K
              (try simp only [Act.put, List.setIfInBounds_toArray, List.set_cons_zero, List.set_cons_succ])
              refine wpAnyH_take (i := 7) (oi := ({ dst := some 111, op := Op.binOp BinOp.eql 3 (Operand.tmp 106) (Operand.tmp 110) 3, type := 4, pos := "law.go:146", after := #[{ on := 2, ground := Ground.data }, { on := 6, ground := Ground.data }], guard := none } : Oper)) (v := ?_) rfl (by kernel_rfl) (by kernel_rfl) (by kernel_rfl) (fun _ _ _ h => h) (Or.inl ⟨by rfl, ?_⟩) (by assumption) ?_
              rotate_left
              · intro w hSw; (try dsimp only at hSw); go_simp <;> with_reducible rfl
              (try simp only [Act.put, List.setIfInBounds_toArray, List.set_cons_zero, List.set_cons_succ])
              refine wpAnyH_take (i := 8) (oi := ({ dst := some 112, op := Op.move (Operand.tmp 111), type := 4, pos := "law.go:146", after := #[{ on := 7, ground := Ground.data }, { on := 6, ground := Ground.chain }], guard := none } : Oper)) (v := ?_) rfl (by kernel_rfl) (by kernel_rfl) (by kernel_rfl) (fun _ _ _ h => h) (Or.inl ⟨by rfl, ?_⟩) (by assumption) ?_
              rotate_left
              · intro w hSw; (try dsimp only at hSw); go_simp <;> with_reducible rfl
              (try simp only [Act.put, List.setIfInBounds_toArray, List.set_cons_zero, List.set_cons_succ])
              refine wpAnyH_take (i := 9) (oi := ({ dst := some 113, op := Op.load 27 (Operand.tmp 4), type := 27, pos := "law.go:146", after := #[{ on := 8, ground := Ground.guard }], guard := some (8, true) } : Oper)) (v := ?_) rfl (by kernel_rfl) (by kernel_rfl) (by kernel_rfl) (fun _ _ _ h => h) (Or.inl ⟨by rfl, ?_⟩) (by assumption) ?_
              rotate_left
              · intro w hSw; (try dsimp only at hSw); go_simp <;> with_reducible rfl
              (try simp only [Act.put, List.setIfInBounds_toArray, List.set_cons_zero, List.set_cons_succ])
              refine wpAnyH_take (i := 10) (oi := ({ dst := some 114, op := Op.move (Operand.tmp 11), type := 28, pos := "law.go:146", after := #[{ on := 8, ground := Ground.guard }], guard := some (8, true) } : Oper)) (v := ?_) rfl (by kernel_rfl) (by kernel_rfl) (by kernel_rfl) (fun _ _ _ h => h) (Or.inl ⟨by rfl, ?_⟩) (by assumption) ?_
              rotate_left
              · intro w hSw; (try dsimp only at hSw); go_simp <;> with_reducible rfl
              (try simp only [Act.put, List.setIfInBounds_toArray, List.set_cons_zero, List.set_cons_succ])
              refine wpAnyH_take (i := 12) (oi := ({ dst := some 116, op := Op.load 27 (Operand.tmp 4), type := 27, pos := "law.go:146", after := #[{ on := 8, ground := Ground.guard }], guard := some (8, true) } : Oper)) (v := ?_) rfl (by kernel_rfl) (by kernel_rfl) (by kernel_rfl) (fun _ _ _ h => h) (Or.inl ⟨by rfl, ?_⟩) (by assumption) ?_
              rotate_left
              · intro w hSw; (try dsimp only at hSw); go_simp <;> with_reducible rfl
              (try simp only [Act.put, List.setIfInBounds_toArray, List.set_cons_zero, List.set_cons_succ])
              refine wpAnyH_take (i := 13) (oi := ({ dst := some 117, op := Op.indexAddr 41 (Operand.tmp 5) (Operand.const (Value.int IntKind.i64 0)), type := 0, pos := "law.go:146", after := #[{ on := 8, ground := Ground.guard }], guard := some (8, true) } : Oper)) (v := ?_) rfl (by kernel_rfl) (by kernel_rfl) (by kernel_rfl) (fun _ _ _ h => h) (Or.inl ⟨by rfl, ?_⟩) (by assumption) ?_
              rotate_left
              · intro w hSw; (try dsimp only at hSw); go_simp <;> with_reducible rfl
              (try simp only [Act.put, List.setIfInBounds_toArray, List.set_cons_zero, List.set_cons_succ])
              refine wpAnyH_take (i := 14) (oi := ({ dst := some 118, op := Op.load 28 (Operand.tmp 117), type := 28, pos := "law.go:146", after := #[{ on := 13, ground := Ground.data }, { on := 8, ground := Ground.guard }], guard := some (8, true) } : Oper)) (v := ?_) rfl (by kernel_rfl) (by kernel_rfl) (by kernel_rfl) (fun _ _ _ h => h) (Or.inl ⟨by rfl, ?_⟩) (by assumption) ?_
              rotate_left
              · intro w hSw; (try dsimp only at hSw); go_simp <;> with_reducible rfl
              (try simp only [Act.put, List.setIfInBounds_toArray, List.set_cons_zero, List.set_cons_succ])
              refine wpAnyH_ready (rs := [11]) (by kernel_rfl) (by simp) ?_
              refine AllReadyH.cons (o := ({ dst := some 115, op := Op.call { callee := Callee.value (Operand.func 14), args := #[Operand.tmp 113, Operand.tmp 114, Operand.const (Value.slice none 0 0)], argTypes := #[27, 28, 28] }, type := 4, pos := "law.go:146", after := #[{ on := 9, ground := Ground.data }, { on := 10, ground := Ground.data }, { on := 8, ground := Ground.chain }, { on := 8, ground := Ground.guard }], guard := some (8, true) } : Oper)) rfl (fun K hK => ?_) ?_
              rotate_left
              · exact AllReadyH.nil
              go_simp
              go_at_call 14
              with_reducible refine (CH1.out _ hB1).mono ?_
              rintro e y2 ⟨rfl, hq2⟩
              have hB2 := below_step hB1 hq2
              clear hHeld
              first | (with_reducible refine hK.out _ _ ?_ (fun hHeld => ?_)) | (go_wp2_with fail; with_reducible refine hK.out _ _ ?_ (fun hHeld => ?_))
              · exact ⟨cell_below hB2 x0, cell_below hB2 x1, cell_below hB2 x2, cell_below hB2 x3, cell_below hB2 q0, cell_below hB2 q1, cell_below hB2 q2, cell_below hB2 z0, cell_below hB2 z1, hB2⟩
              clear hK K
              (try simp only [Act.put, List.setIfInBounds_toArray, List.set_cons_zero, List.set_cons_succ])
              refine wpAnyH_ready (rs := [15]) (by kernel_rfl) (by simp) ?_
              refine AllReadyH.cons (o := ({ dst := some 119, op := Op.call { callee := Callee.value (Operand.func 14), args := #[Operand.tmp 116, Operand.tmp 118, Operand.const (Value.slice none 0 0)], argTypes := #[27, 28, 28] }, type := 4, pos := "law.go:146", after := #[{ on := 12, ground := Ground.data }, { on := 14, ground := Ground.data }, { on := 11, ground := Ground.chain }, { on := 8, ground := Ground.guard }], guard := some (8, true) } : Oper)) rfl (fun K hK => ?_) ?_
              rotate_left
              · exact AllReadyH.nil
              go_simp
              go_at_call 14
              with_reducible refine (CH2.out _ hB2).mono ?_
              rintro e y3 ⟨rfl, hq3⟩
              have hB3 := below_step hB2 hq3
              clear hHeld
              first | (with_reducible refine hK.out _ _ ?_ (fun hHeld => ?_)) | (go_wp2_with fail; with_reducible refine hK.out _ _ ?_ (fun hHeld => ?_))
              · exact ⟨cell_below hB3 x0, cell_below hB3 x1, cell_below hB3 x2, cell_below hB3 x3, cell_below hB3 q0, cell_below hB3 q1, cell_below hB3 q2, cell_below hB3 z0, cell_below hB3 z1, hB3⟩
              clear hK K
              (try simp only [Act.put, List.setIfInBounds_toArray, List.set_cons_zero, List.set_cons_succ])
              refine wpAnyH_take (i := 16) (oi := ({ dst := some 120, op := Op.binOp BinOp.eql 4 (Operand.tmp 115) (Operand.tmp 119) 4, type := 4, pos := "law.go:146", after := #[{ on := 11, ground := Ground.data }, { on := 15, ground := Ground.data }, { on := 8, ground := Ground.guard }], guard := some (8, true) } : Oper)) (v := ?_) rfl (by kernel_rfl) (by kernel_rfl) (by kernel_rfl) (fun _ _ _ h => h) (Or.inl ⟨by rfl, ?_⟩) (by assumption) ?_
              rotate_left
              · intro w hSw; (try dsimp only at hSw); go_simp <;> with_reducible rfl
              (try simp only [Act.put, List.setIfInBounds_toArray, List.set_cons_zero, List.set_cons_succ])
              refine wpAnyH_take (i := 17) (oi := ({ dst := some 121, op := Op.pick (Operand.tmp 112) (Operand.tmp 120) (Operand.const (Value.bool false)), type := 4, pos := "law.go:146", after := #[{ on := 8, ground := Ground.data }, { on := 16, ground := Ground.data }], guard := none } : Oper)) (v := ?_) rfl (by kernel_rfl) (by kernel_rfl) (by kernel_rfl) (fun _ _ _ h => h) (Or.inl ⟨by rfl, ?_⟩) (by assumption) ?_
              rotate_left
              · intro w hSw; (try dsimp only at hSw); go_simp <;> with_reducible rfl
              (try simp only [Act.put, List.setIfInBounds_toArray, List.set_cons_zero, List.set_cons_succ])
              refine wpAnyH_take (i := 18) (oi := ({ dst := some 122, op := Op.move (Operand.tmp 121), type := 4, pos := "law.go:146", after := #[{ on := 17, ground := Ground.data }, { on := 15, ground := Ground.chain }], guard := none } : Oper)) (v := ?_) rfl (by kernel_rfl) (by kernel_rfl) (by kernel_rfl) (fun _ _ _ h => h) (Or.inl ⟨by rfl, ?_⟩) (by assumption) ?_
              rotate_left
              · intro w hSw; (try dsimp only at hSw); go_simp <;> with_reducible rfl
              (try simp only [Act.put, List.setIfInBounds_toArray, List.set_cons_zero, List.set_cons_succ])
              refine wpAnyH_take (i := 19) (oi := ({ dst := some 123, op := Op.move (Operand.tmp 7), type := 4, pos := "law.go:146", after := #[{ on := 18, ground := Ground.guard }], guard := some (18, true) } : Oper)) (v := ?_) rfl (by kernel_rfl) (by kernel_rfl) (by kernel_rfl) (fun _ _ _ h => h) (Or.inl ⟨by rfl, ?_⟩) (by assumption) ?_
              rotate_left
              · intro w hSw; (try dsimp only at hSw); go_simp <;> with_reducible rfl
              (try simp only [Act.put, List.setIfInBounds_toArray, List.set_cons_zero, List.set_cons_succ])
              refine wpAnyH_take (i := 20) (oi := ({ dst := some 124, op := Op.pick (Operand.tmp 122) (Operand.tmp 123) (Operand.const (Value.bool false)), type := 4, pos := "law.go:146", after := #[{ on := 18, ground := Ground.data }, { on := 19, ground := Ground.data }], guard := none } : Oper)) (v := ?_) rfl (by kernel_rfl) (by kernel_rfl) (by kernel_rfl) (fun _ _ _ h => h) (Or.inl ⟨by rfl, ?_⟩) (by assumption) ?_
              rotate_left
              · intro w hSw; (try dsimp only at hSw); go_simp <;> with_reducible rfl
              (try simp only [Act.put, List.setIfInBounds_toArray, List.set_cons_zero, List.set_cons_succ])
              refine wpAnyH_take (i := 21) (oi := ({ dst := some 6, op := Op.assign (Operand.tmp 124), type := 4, pos := "law.go:146", after := #[{ on := 20, ground := Ground.data }, { on := 18, ground := Ground.chain }, { on := 0, ground := Ground.phase }, { on := 1, ground := Ground.phase }, { on := 2, ground := Ground.phase }, { on := 3, ground := Ground.phase }, { on := 4, ground := Ground.phase }, { on := 5, ground := Ground.phase }, { on := 6, ground := Ground.phase }, { on := 7, ground := Ground.phase }, { on := 8, ground := Ground.phase }, { on := 9, ground := Ground.phase }, { on := 10, ground := Ground.phase }, { on := 11, ground := Ground.phase }, { on := 12, ground := Ground.phase }, { on := 13, ground := Ground.phase }, { on := 14, ground := Ground.phase }, { on := 15, ground := Ground.phase }, { on := 16, ground := Ground.phase }, { on := 17, ground := Ground.phase }, { on := 18, ground := Ground.phase }, { on := 19, ground := Ground.phase }, { on := 20, ground := Ground.phase }], guard := none } : Oper)) (v := ?_) rfl (by kernel_rfl) (by kernel_rfl) (by kernel_rfl) (fun _ _ _ h => h) (Or.inl ⟨by rfl, ?_⟩) (by assumption) ?_
              rotate_left
              · intro w hSw; (try dsimp only at hSw); go_simp <;> with_reducible rfl
              (try simp only [Act.put, List.setIfInBounds_toArray, List.set_cons_zero, List.set_cons_succ])
              refine wpAnyH_done (by kernel_rfl) ?_ _
              have HE := hid (below_step (below_step B0.out BW2.out) hB3)
              clear hHeld
              go_wp2_with fail
              go_ret
              exact ⟨rfl, HE.out⟩


theorem own : ownKnob Try.prog.godebug = none := by kernel_rfl
theorem reads_all (t : Ex) (d : Cd) (V U : List Int) (x y z0 z1 : Value) (w : World) (ht1 : exT t ≤ 1048576) (hd1 : cdT d ≤ 1048576) (ht : exIn w t x) (hd : cdIn w d y) (hV : IntsBig w z0 V) (hU : IntsBig w z1 U) :
    Calls Try.prog 4 #[x, y, .agg #[z0, z1]] w fun e w' => e = .returned (.bool true) ∧ Below w.heap.size w w' := by
  obtain ⟨o, n, v, l⟩ := t
  obtain ⟨co, la, lc⟩ := d
  have ht2 := ht
  have hd2 := hd
  have hV2 := hV
  have hU2 := hU
  rw [exIn] at ht
  rw [cdIn] at hd
  obtain ⟨oa, cap, rfl, -⟩ := ht
  obtain ⟨ob, oc, cb, cc, rfl, -⟩ := hd
  obtain ⟨p1, c1, rfl, -⟩ := hV
  obtain ⟨p2, c2, rfl, -⟩ := hU
  exact reads_walk _ _ V U _ _ _ _ _ _ _ _ _ _ _ _ _ p1 p2 _ _ _ _ w ht1 hd1 ht2 hd2 hV2 hU2 rfl rfl
theorem open_intsb {H : Type} {enc : TypeId × Value → H} {w : World} {n : Nat} {v : Value} {x : DataW H × List MemPlace} (hn : DataW.trod enc Try.prog w 0 (fun _ => true) true n 28 [v] = some x) : ∃ l : List Int, IntsBig w v l := by
  have c1 : Try.prog.cellsOf 3 = 1 := by kernel_rfl
  rcases open_ints Try.underlying28 Try.underlying3 c1 hn with ⟨hcs, hx⟩ | ⟨ad, len, cap, zs, hcs, -, hl, hm, hz, hx, hcell, hwz⟩
  · simp only [List.cons.injEq, and_true] at hcs
    subst hcs
    exact ⟨[], none, 0, rfl, Nat.le_refl _, by omega, fun _ => rfl, fun h0 => absurd rfl h0⟩
  · simp only [List.cons.injEq, and_true] at hcs
    subst hcs
    simp at hz
    have hlen : (zs.take len).length = len := by rw [List.length_take, Nat.min_eq_left (by omega)]
    have hm' : cap ≤ 9223372036854775807 := by unfold maxLen at hm; omega
    refine ⟨zs.take len, some ad, cap, by rw [hlen], by rw [hlen]; omega, hm', (fun h => by cases h), fun h0 => ?_⟩
    rw [hlen] at h0
    have h00 := hcell 0 (by omega)
    have hadd : ad.add 0 = ad := by simp [Addr.add]
    rw [hadd] at h00
    obtain ⟨b, o, rfl⟩ := addr_plain h00
    refine ⟨b, o, rfl, fun i hi => ?_⟩
    rw [hlen] at hi
    have h1 := hcell i (by omega)
    have e1 : (⟨b, o, none⟩ : Addr).add i = ⟨b, o + i, none⟩ := by first | (simp [Addr.add]; done) | (simp [Addr.add]; omega)
    rw [e1] at h1
    rw [h1]
    congr 2
    simp only [List.getD_eq_getElem?_getD, List.getElem?_take, if_pos hi]
set_option maxRecDepth 100000 in
theorem open_two_ints {H : Type} {enc : TypeId × Value → H} {W : World} {v : Value} {d : DataW H} {p : List MemPlace} (h : DataW.Trod enc Try.prog W 0 (fun _ => true) true 41 v d p) :
    ∃ (z0 z1 : Value) (V U : List Int), v = .agg #[z0, z1] ∧ IntsBig W z0 V ∧ IntsBig W z1 U := by
  obtain ⟨fuel, hf⟩ := h
  obtain ⟨xs, m, -, -, hl, hn, hel⟩ := DataW.trod_array Try.underlying41 hf
  have c3 : Try.prog.cellsOf 28 = 1 := by kernel_rfl
  have c22 : Try.prog.cellsOf 41 = 2 := by kernel_rfl
  have hl2 : v.cells.toList.length = 2 := hl.trans c22
  have e0 : DataW.trod enc Try.prog W 0 (fun _ => true) true m 28 ((v.cells.toList.drop (0 * 1)).take 1) = xs[0]? := by have h := hel 0 (by decide); rw [c3] at h; exact h
  have e1 : DataW.trod enc Try.prog W 0 (fun _ => true) true m 28 ((v.cells.toList.drop (1 * 1)).take 1) = xs[1]? := by have h := hel 1 (by decide); rw [c3] at h; exact h
  clear hl hel hf
  have key : ∀ cs : List Value, cs.length = 2 → (DataW.trod enc Try.prog W 0 (fun _ => true) true m 28 ((cs.drop (0 * 1)).take 1) = xs[0]?) → (DataW.trod enc Try.prog W 0 (fun _ => true) true m 28 ((cs.drop (1 * 1)).take 1) = xs[1]?) →
      ∃ (z0 z1 : Value) (V U : List Int), cs = [z0, z1] ∧ IntsBig W z0 V ∧ IntsBig W z1 U := by
    intro cs hcs k0 k1
    match cs, hcs with
    | [x0, x1], _ =>
      rw [List.getElem?_eq_getElem (show 0 < xs.length by omega)] at k0
      rw [List.getElem?_eq_getElem (show 1 < xs.length by omega)] at k1
      obtain ⟨V, hV⟩ := open_intsb (show DataW.trod enc Try.prog W 0 (fun _ => true) true m 28 [x0] = some _ from k0)
      obtain ⟨U, hU⟩ := open_intsb (show DataW.trod enc Try.prog W 0 (fun _ => true) true m 28 [x1] = some _ from k1)
      exact ⟨x0, x1, V, U, rfl, hV, hU⟩
  cases v with
  | agg cs =>
    obtain ⟨z0, z1, V, U, hcs, ha, hb⟩ := key cs.toList hl2 e0 e1
    exact ⟨z0, z1, V, U, by rw [show cs = #[z0, z1] from Array.ext' hcs], ha, hb⟩
  | _ => exact absurd hl2 (by simp [Value.cells])

theorem numReads_contract (H : Type) (enc : TypeId × Value → H) (W : World) (base : Nat) (args : Array Value) (ds gs : List (DataW H)) (before : List MemPlace)
    (hval : ∀ (j : Nat) t v, Try.f4.params[j]? = some t → args[j]? = some v → Value.okWide Try.prog W .any base t v)
    (hW : DataW.Whole enc Try.prog Try.f4.params.toList Rows.numReadsSpec.vars false W args.toList ds gs before) (hk : Rows.uptoSmall H (ds ++ gs) = true) :
    Calls Try.prog 4 args W fun e W' => ∃ v, e = .returned v ∧ Rows.numReadsSpec.post enc Try.prog Try.f4 false true false false W args v W' := by
  have hW' := hW
  obtain ⟨p, q, hA0, hV, rfl, hfz, hnd⟩ := hW
  have hA : DataW.TrodAll enc Try.prog W 0 (fun _ => true) true Try.f4.params.toList args.toList ds p := hA0
  rw [Try.params4] at hA hval
  obtain ⟨v0, vs0, d0, ds0, p0, q0, hargs, rfl, rfl, h0, r0⟩ := trodAll_cons hA
  obtain ⟨v1, vs1, d1, ds1, p1, q1, rfl, rfl, rfl, h1, r1⟩ := trodAll_cons r0
  obtain ⟨v2, vs2, d2, ds2, p2, q2, rfl, rfl, rfl, h2, r2⟩ := trodAll_cons r1
  obtain ⟨rfl, rfl, rfl⟩ := trodAll_nil r2
  obtain rfl : args = #[v0, v1, v2] := by cases args; simp_all
  obtain ⟨rfl, rfl⟩ := trodVars_none hV
  have hbulk : Rows.uptoBulkAll ([d0, d1, d2] ++ []) ≤ 1048576 := of_decide_eq_true hk
  simp only [List.append_nil, Rows.uptoBulkAll] at hbulk
  obtain ⟨t0, in0, sz0⟩ := open_ex (hval 0 _ v0 rfl rfl) h0
  obtain ⟨t1, in1, sz1⟩ := open_cd (hval 1 _ v1 rfl rfl) h1
  obtain ⟨z2, y2, V2, U2, rfl, inV2, inU2⟩ := open_two_ints h2
  refine (reads_all t0 t1 V2 U2 v0 v1 z2 y2 W (by omega) (by omega) in0 in1 inV2 inU2).mono fun e W' ⟨he, hg⟩ => ?_
  subst he
  exact ⟨_, rfl, post_true (T := 4) (by kernel_rfl) (by kernel_rfl) rfl rfl (by kernel_rfl) hW' hg rfl⟩

set_option maxRecDepth 100000 in
theorem numReads_lifted (os : Os) (started : os.Started) (H : Type) (enc : TypeId × Value → H) (F : Stop.Interp) :
    ReturnsInHanded {} Try.checked os 4 .any ((Rows.OpenSpec.upto Rows.numReadsSpec).pre6 enc Try.prog Try.f4 Rows.numReadsUptoRow.domain false) (((Rows.OpenSpec.upto Rows.numReadsSpec).at F).post enc Try.prog Try.f4 false true false false) := by
  refine returnsInHanded_of_cond (C := Try.checked) (s := Rows.OpenSpec.upto Rows.numReadsSpec) (k := Rows.uptoSmall) rfl own started (by kernel_rfl) Try.func4
    (OpenSpec.witness (enc := enc) (C := Try.checked) (s := Rows.OpenSpec.upto Rows.numReadsSpec) (k := Rows.uptoSmall) rfl false ⟨#[], #[.agg #[.int .i64 0, .int .i64 0, .int .i64 0, .slice none 0 0], .agg #[.int .i64 0, .slice none 0 0, .slice none 0 0], .agg #[.slice none 0 0, .slice none 0 0]], []⟩ 8 (by kernel_rfl) (by kernel_rfl) (by kernel_rfl)
      (x := ([.agg [.lit (.int .i64 0), .lit (.int .i64 0), .lit (.int .i64 0), .nil], .agg [.lit (.int .i64 0), .nil, .nil], .agg [.nil, .nil]], [], [])) (by kernel_rfl) rfl (by kernel_rfl)) ?_
  intro W base args ds gs before hval hW _ hk _
  exact numReads_contract H enc W base args ds gs before hval hW hk

theorem numReads_holds : Rows.NumReadsUptoSaid :=
  OpenClaim.holds_of_cond 4 Try.f4 rfl rfl rfl rfl rfl rfl rfl ⟨rfl, rfl, rfl, rfl, rfl⟩ rfl rfl rfl rfl rfl (by kernel_rfl) Try.func4 (by kernel_rfl)
    (of_decide_eq_true (by kernel_rfl)) (by unfold Func.isWrapper; rw [if_neg (of_decide_eq_false (by kernel_rfl))]; exact ⟨rfl, rfl⟩)
    (fun os started H enc _ F => numReads_lifted os started H enc F)
end Go.Proofs.Ytcjambgbbmffiaa

/-
  The law NumMatchesReference of package num holds: values, conditions, what they read, and depths are as in the reference implementation.
  Condition: the arguments hold together at most 1048576 values.
-/
import Derived.Test.YtcjambgbbmffiaaNo
import Derived.Test.YtcjambgbbmffiaaExa
import Derived.JoinedCond
import Derived.Test.YtcjambgbbmffiaaOpen
import Derived.Laws.IdiomArrays
namespace Go.Proofs.Ytcjambgbbmffiaa
open Go.ChangeShapes Go.WideShapes Go.ChangeAt Go.RowKit
set_option linter.unusedVariables false

theorem RReadsOk.use {t : Ex} (h : RReadsOk t) (hl : (rdE t).length ≤ 1100000) (x : Value) (w : World) (hx : exIn w t x) : Calls Try.prog 22 #[x] w fun e w' => ∃ v', e = .returned v' ∧ intsIn w' (sortU (rdE t)) v' ∧ Below w.heap.size w w' := h hl x w hx
theorem RReadsCOk.use {t : Cd} (h : RReadsCOk t) (hl : (rdC t).length ≤ 1100000) (x : Value) (w : World) (hx : cdIn w t x) : Calls Try.prog 24 #[x] w fun e w' => ∃ v', e = .returned v' ∧ intsIn w' (sortU (rdC t)) v' ∧ Below w.heap.size w w' := h hl x w hx
theorem wrap_b (v : Int) (w : World) : Calls Try.prog 10 #[.int .i64 v] w fun e w' => e = .returned (.int .i64 (wrap32 v)) ∧ Below w.heap.size w w' :=
  (wrap_any v w).mono fun e w' ⟨h, hw⟩ => ⟨h, hw ▸ Below.refl _ _⟩
theorem rwrap_b (v : Int) (w : World) : Calls Try.prog 11 #[.int .i64 v] w fun e w' => e = .returned (.int .i64 (wrap32 v)) ∧ Below w.heap.size w w' :=
  (rwrap_any v w).mono fun e w' ⟨h, hw⟩ => ⟨h, hw ▸ Below.refl _ _⟩
set_option maxRecDepth 100000 in
set_option maxHeartbeats 16000000 in
theorem match_walk (t : Ex) (d : Cd) (V L U : List Int) (o n v : Int) (a1 : Option Addr) (l1 c1 : Nat) (co : Int) (b1 b2 : Option Addr) (m1 d1 m2 d2 : Nat) (p1 p2 p3 : Option Addr) (n1 k1 n2 k2 n3 k3 : Nat) (w : World) (ht1 : exT t ≤ 1048576) (hd1 : cdT d ≤ 1048576)
    (ht : exIn w t (.agg #[.int .i64 o, .int .i64 n, .int .i64 v, .slice a1 l1 c1])) (hd : cdIn w d (.agg #[.int .i64 co, .slice b1 m1 d1, .slice b2 m2 d2])) (hV : intsIn w V (.slice p1 n1 k1)) (hL : intsIn w L (.slice p2 n2 k2)) (hU : intsIn w U (.slice p3 n3 k3)) (hn1 : n1 ≤ 1048576) (hn2 : n2 ≤ 1048576) (hn3 : n3 ≤ 1048576) (hUn : U.length = n3) :
    Calls Try.prog 3 #[.agg #[.int .i64 o, .int .i64 n, .int .i64 v, .slice a1 l1 c1], .agg #[.int .i64 co, .slice b1 m1 d1, .slice b2 m2 d2], .agg #[.slice p1 n1 k1, .slice p2 n2 k2, .slice p3 n3 k3]] w fun e w' => e = .returned (.bool true) ∧ Below w.heap.size w w' := by
  obtain ⟨w0, hw0⟩ : ∃ w0, ((w.alloc (.cells #[.int .i64 o, .int .i64 n, .int .i64 v, .slice a1 l1 c1] 24)).alloc (.cells #[.int .i64 co, .slice b1 m1 d1, .slice b2 m2 d2] 27)).alloc (.cells #[.slice p1 n1 k1, .slice p2 n2 k2, .slice p3 n3 k3] 29) = w0 := ⟨_, rfl⟩
  have hb0 : Below w.heap.size w w0 := by rw [← hw0]; exact below_a (below_a (below_a (Below.refl _ _) _) _) _
  have PK := hid (fun (W : World) (hW : Below w0.heap.size w0 W) => show W.cell? ⟨w.heap.size, 0, none⟩ = some (.int .i64 o) ∧ W.cell? ⟨w.heap.size, 1, none⟩ = some (.int .i64 n) ∧ W.cell? ⟨w.heap.size, 2, none⟩ = some (.int .i64 v) ∧ W.cell? ⟨w.heap.size, 3, none⟩ = some (.slice a1 l1 c1) ∧ W.cell? ⟨w.heap.size + 1, 0, none⟩ = some (.int .i64 co) ∧ W.cell? ⟨w.heap.size + 1, 1, none⟩ = some (.slice b1 m1 d1) ∧ W.cell? ⟨w.heap.size + 1, 2, none⟩ = some (.slice b2 m2 d2) ∧ W.cell? ⟨w.heap.size + 1 + 1, 0, none⟩ = some (.slice p1 n1 k1) ∧ W.cell? ⟨w.heap.size + 1 + 1, 1, none⟩ = some (.slice p2 n2 k2) ∧ W.cell? ⟨w.heap.size + 1 + 1, 2, none⟩ = some (.slice p3 n3 k3) from by
    refine ⟨cell_below hW ?_, cell_below hW ?_, cell_below hW ?_, cell_below hW ?_, cell_below hW ?_, cell_below hW ?_, cell_below hW ?_, cell_below hW ?_, cell_below hW ?_, cell_below hW ?_⟩ <;> (rw [← hw0]; simp [go_sem]))
  have T0 := hid (exIn_below hb0 _ _ ht)
  have D0 := hid (cdIn_below hb0 _ _ hd)
  have V0 := hid (intsIn_below hb0 hV)
  have L0 := hid (intsIn_below hb0 hL)
  have U0 := hid (intsIn_below hb0 hU)
  have B0 := hid hb0
  have HT := hid (Nat.le_trans (rdE_len t) ht1)
  have HD := hid (Nat.le_trans (rdC_len d) hd1)
  have HUn := hid hUn
  have Hw := hid hw0
  clear hb0 ht hd hV hL hU hUn ht1 hd1 hw0
  go_enter Try.func3, Try.ntmps3
  go_wp2_with fail
  rw [Hw.out]
  refine (examples_any _).mono ?_
  rintro e w1 ⟨rfl, hb⟩
  have B1 := hid hb; clear hb
  obtain ⟨x0, x1, x2, x3, q0, q1, q2, z0, z1, z2⟩ := PK.out _ B1.out
  go_wp2_with fail
  refine (size_any t _ _ (exIn_below B1.out _ _ T0.out)).mono ?_
  rintro e w2 ⟨s1, rfl, hb⟩
  have B2 := hid (below_step B1.out hb); clear hb
  clear x0 x1 x2 x3 q0 q1 q2 z0 z1 z2
  by_cases hs1 : 400 < s1
  · go_wp2
    go_ret
    exact ⟨rfl, below_step B0.out B2.out⟩
  obtain ⟨x0, x1, x2, x3, q0, q1, q2, z0, z1, z2⟩ := PK.out _ B2.out
  go_wp2_with fail
  refine (sizec_any d _ _ (cdIn_below B2.out _ _ D0.out)).mono ?_
  rintro e w3 ⟨s2, rfl, hb⟩
  have B3 := hid (below_step B2.out hb); clear hb
  clear x0 x1 x2 x3 q0 q1 q2 z0 z1 z2
  by_cases hs2 : 400 < s2
  · go_wp2
    go_ret
    exact ⟨rfl, below_step B0.out B3.out⟩
  obtain ⟨x0, x1, x2, x3, q0, q1, q2, z0, z1, z2⟩ := PK.out _ B3.out
  by_cases hsum : (200 : Int) < (n1 : Int) + (n2 : Int) + (n3 : Int)
  · go_wp2
    go_ret
    exact ⟨rfl, below_step B0.out B3.out⟩
  have hn3b : n3 ≤ 200 := by omega
  go_wp2_with fail
  clear x0 x1 x2 x3 q0 q1 q2 z0 z1 z2
  go_loopw [8] (fun vi wr => ∃ k : Nat, k ≤ 200 ∧ vi = .int .i64 (k : Int) ∧ Hid (Below w3.heap.size w3 wr)) (fun vi _ => 201 - (intOf vi).toNat)
  case atStart => exact ⟨0, by omega, rfl, hid (Below.refl _ _)⟩
  case round =>
    obtain ⟨k, hk, rfl, BR⟩ := hrel
    have BW := hid (below_step B3.out BR.out)
    by_cases hlt : k + 2 < n3
    · obtain ⟨x0, x1, x2, x3, q0, q1, q2, z0, z1, z2⟩ := PK.out _ BW.out
      obtain ⟨pu, cu, e1, hu1, hu2, hu3⟩ := U0.out
      simp only [Value.slice.injEq] at e1
      obtain ⟨rfl, -, rfl⟩ := e1
      obtain ⟨b, o', rfl, g0⟩ := hu3 k (by have := HUn.out; omega)
      obtain ⟨b', o2, e1, g1⟩ := hu3 (k + 1) (by have := HUn.out; omega)
      simp only [Option.some.injEq, Addr.mk.injEq, and_true] at e1
      obtain ⟨rfl, rfl⟩ := e1
      obtain ⟨b', o2, e1, g2⟩ := hu3 (k + 2) (by have := HUn.out; omega)
      simp only [Option.some.injEq, Addr.mk.injEq, and_true] at e1
      obtain ⟨rfl, rfl⟩ := e1
      obtain ⟨u0, hu0⟩ : ∃ u, U.getD k 0 = u := ⟨_, rfl⟩
      obtain ⟨u1, hu1'⟩ : ∃ u, U.getD (k + 1) 0 = u := ⟨_, rfl⟩
      obtain ⟨u2, hu2'⟩ : ∃ u, U.getD (k + 2) 0 = u := ⟨_, rfl⟩
      rw [hu0] at g0
      rw [hu1'] at g1
      rw [hu2'] at g2
      have g0 := cell_below BW.out g0
      have g1 := cell_below BW.out g1
      have g2 := cell_below BW.out g2
      have hw1 : IntKind.i64.wrap ((k : Int) + 1) = (k : Int) + 1 := by rw [IntKind.wrap_i64]; omega
      have hw2 : IntKind.i64.wrap ((k : Int) + 2) = (k : Int) + 2 := by rw [IntKind.wrap_i64]; omega
      have hp1 : (0 : Int) ≤ (k : Int) + 1 := by omega
      have hp2 : (0 : Int) ≤ (k : Int) + 2 := by omega
      have hn1 : ((k : Int) + 1).toNat = k + 1 := by omega
      have hn2 : ((k : Int) + 2).toNat = k + 2 := by omega
      have hb1 : k < n3 := by omega
      have hb2 : k + 1 < n3 := by omega
      have hb1i : (k : Int) < (n3 : Int) := by omega
      have hb2i : (k : Int) + 1 < (n3 : Int) := by omega
      have hb3i : (k : Int) + 2 < (n3 : Int) := by omega
      clear hu0 hu1' hu2' hu1 hu2 hu3
      go_upto_region 9 with fail
      have hsd := (Below.refl wr.heap.size wr).drew
      refine wp_region_held_drew (S := fun W' => (W'.cell? ⟨w.heap.size, 0, none⟩ = some (.int .i64 o) ∧ W'.cell? ⟨w.heap.size, 1, none⟩ = some (.int .i64 n) ∧ W'.cell? ⟨w.heap.size, 2, none⟩ = some (.int .i64 v) ∧ W'.cell? ⟨w.heap.size, 3, none⟩ = some (.slice a1 l1 c1) ∧ W'.cell? ⟨w.heap.size + 1, 0, none⟩ = some (.int .i64 co) ∧ W'.cell? ⟨w.heap.size + 1, 1, none⟩ = some (.slice b1 m1 d1) ∧ W'.cell? ⟨w.heap.size + 1, 2, none⟩ = some (.slice b2 m2 d2) ∧ W'.cell? ⟨w.heap.size + 1 + 1, 0, none⟩ = some (.slice p1 n1 k1) ∧ W'.cell? ⟨w.heap.size + 1 + 1, 1, none⟩ = some (.slice p2 n2 k2) ∧ W'.cell? ⟨w.heap.size + 1 + 1, 2, none⟩ = some (.slice (some ⟨b, o', none⟩) n3 k3) ∧ W'.cell? ⟨b, o' + k, none⟩ = some (.int .i64 u0) ∧ W'.cell? ⟨b, o' + (k + 1), none⟩ = some (.int .i64 u1) ∧ W'.cell? ⟨b, o' + (k + 2), none⟩ = some (.int .i64 u2) ∧ Below wr.heap.size wr W')) (by kernel_rfl) ?_ (fun hHeld => ?_)
      · exact ⟨x0, x1, x2, x3, q0, q1, q2, z0, z1, z2, g0, g1, g2, hsd⟩
      refine wpAnyH_take (i := 0) (oi := ({ dst := some 43, op := Op.indexAddr 29 (Operand.tmp 5) (Operand.const (Value.int IntKind.i64 2)), type := 0, pos := "law.go:29", after := #[], guard := none } : Oper)) (v := ?_) rfl (by kernel_rfl) (by kernel_rfl) (by kernel_rfl) (fun _ _ _ h => h) (Or.inl ⟨by rfl, ?_⟩) (by assumption) ?_
      rotate_left
      · intro w hSw; (try dsimp only at hSw); go_simp <;> with_reducible rfl
      (try simp only [Act.put, List.setIfInBounds_toArray, List.set_cons_zero, List.set_cons_succ])
      refine wpAnyH_take (i := 1) (oi := ({ dst := some 44, op := Op.load 28 (Operand.tmp 43), type := 28, pos := "law.go:29", after := #[{ on := 0, ground := Ground.data }], guard := none } : Oper)) (v := ?_) rfl (by kernel_rfl) (by kernel_rfl) (by kernel_rfl) (fun _ _ _ h => h) (Or.inl ⟨by rfl, ?_⟩) (by assumption) ?_
      rotate_left
      · intro w hSw; (try dsimp only at hSw); go_simp <;> with_reducible rfl
      (try simp only [Act.put, List.setIfInBounds_toArray, List.set_cons_zero, List.set_cons_succ])
      refine wpAnyH_take (i := 2) (oi := ({ dst := some 45, op := Op.move (Operand.tmp 8), type := 3, pos := "law.go:29", after := #[], guard := none } : Oper)) (v := ?_) rfl (by kernel_rfl) (by kernel_rfl) (by kernel_rfl) (fun _ _ _ h => h) (Or.inl ⟨by rfl, ?_⟩) (by assumption) ?_
      rotate_left
      · intro w hSw; (try dsimp only at hSw); go_simp <;> with_reducible rfl
      (try simp only [Act.put, List.setIfInBounds_toArray, List.set_cons_zero, List.set_cons_succ])
      refine wpAnyH_take (i := 3) (oi := ({ dst := some 46, op := Op.indexAddr 28 (Operand.tmp 44) (Operand.tmp 45), type := 0, pos := "law.go:29", after := #[{ on := 1, ground := Ground.data }, { on := 2, ground := Ground.data }], guard := none } : Oper)) (v := ?_) rfl (by kernel_rfl) (by kernel_rfl) (by kernel_rfl) (fun _ _ _ h => h) (Or.inl ⟨by rfl, ?_⟩) (by assumption) ?_
      rotate_left
      · intro w hSw; (try dsimp only at hSw); go_simp <;> with_reducible rfl
      (try simp only [Act.put, List.setIfInBounds_toArray, List.set_cons_zero, List.set_cons_succ])
      refine wpAnyH_take (i := 4) (oi := ({ dst := some 47, op := Op.load 3 (Operand.tmp 46), type := 3, pos := "law.go:29", after := #[{ on := 3, ground := Ground.data }], guard := none } : Oper)) (v := ?_) rfl (by kernel_rfl) (by kernel_rfl) (by kernel_rfl) (fun _ _ _ h => h) (Or.inl ⟨by rfl, ?_⟩) (by assumption) ?_
      rotate_left
      · intro w hSw; (try dsimp only at hSw); go_simp <;> with_reducible rfl
      (try simp only [Act.put, List.setIfInBounds_toArray, List.set_cons_zero, List.set_cons_succ])
      refine wpAnyH_take (i := 5) (oi := ({ dst := some 48, op := Op.indexAddr 29 (Operand.tmp 5) (Operand.const (Value.int IntKind.i64 2)), type := 0, pos := "law.go:29", after := #[], guard := none } : Oper)) (v := ?_) rfl (by kernel_rfl) (by kernel_rfl) (by kernel_rfl) (fun _ _ _ h => h) (Or.inl ⟨by rfl, ?_⟩) (by assumption) ?_
      rotate_left
      · intro w hSw; (try dsimp only at hSw); go_simp <;> with_reducible rfl
      (try simp only [Act.put, List.setIfInBounds_toArray, List.set_cons_zero, List.set_cons_succ])
      refine wpAnyH_take (i := 6) (oi := ({ dst := some 49, op := Op.load 28 (Operand.tmp 48), type := 28, pos := "law.go:29", after := #[{ on := 5, ground := Ground.data }], guard := none } : Oper)) (v := ?_) rfl (by kernel_rfl) (by kernel_rfl) (by kernel_rfl) (fun _ _ _ h => h) (Or.inl ⟨by rfl, ?_⟩) (by assumption) ?_
      rotate_left
      · intro w hSw; (try dsimp only at hSw); go_simp <;> with_reducible rfl
      (try simp only [Act.put, List.setIfInBounds_toArray, List.set_cons_zero, List.set_cons_succ])
      refine wpAnyH_take (i := 7) (oi := ({ dst := some 50, op := Op.move (Operand.tmp 8), type := 3, pos := "law.go:29", after := #[], guard := none } : Oper)) (v := ?_) rfl (by kernel_rfl) (by kernel_rfl) (by kernel_rfl) (fun _ _ _ h => h) (Or.inl ⟨by rfl, ?_⟩) (by assumption) ?_
      rotate_left
      · intro w hSw; (try dsimp only at hSw); go_simp <;> with_reducible rfl
      (try simp only [Act.put, List.setIfInBounds_toArray, List.set_cons_zero, List.set_cons_succ])
      refine wpAnyH_take (i := 8) (oi := ({ dst := some 51, op := Op.binOp BinOp.add 3 (Operand.tmp 50) (Operand.const (Value.int IntKind.i64 1)) 3, type := 3, pos := "law.go:29", after := #[{ on := 7, ground := Ground.data }], guard := none } : Oper)) (v := ?_) rfl (by kernel_rfl) (by kernel_rfl) (by kernel_rfl) (fun _ _ _ h => h) (Or.inl ⟨by rfl, ?_⟩) (by assumption) ?_
      rotate_left
      · intro w hSw; (try dsimp only at hSw); go_simp <;> with_reducible rfl
      (try simp only [Act.put, List.setIfInBounds_toArray, List.set_cons_zero, List.set_cons_succ])
      refine wpAnyH_take (i := 9) (oi := ({ dst := some 52, op := Op.indexAddr 28 (Operand.tmp 49) (Operand.tmp 51), type := 0, pos := "law.go:29", after := #[{ on := 6, ground := Ground.data }, { on := 8, ground := Ground.data }], guard := none } : Oper)) (v := ?_) rfl (by kernel_rfl) (by kernel_rfl) (by kernel_rfl) (fun _ _ _ h => h) (Or.inl ⟨by rfl, ?_⟩) (by assumption) ?_
      rotate_left
      · intro w hSw; (try dsimp only at hSw); go_simp <;> with_reducible rfl
      (try simp only [Act.put, List.setIfInBounds_toArray, List.set_cons_zero, List.set_cons_succ])
      refine wpAnyH_take (i := 10) (oi := ({ dst := some 53, op := Op.load 3 (Operand.tmp 52), type := 3, pos := "law.go:29", after := #[{ on := 9, ground := Ground.data }], guard := none } : Oper)) (v := ?_) rfl (by kernel_rfl) (by kernel_rfl) (by kernel_rfl) (fun _ _ _ h => h) (Or.inl ⟨by rfl, ?_⟩) (by assumption) ?_
      rotate_left
      · intro w hSw; (try dsimp only at hSw); go_simp <;> with_reducible rfl
      (try simp only [Act.put, List.setIfInBounds_toArray, List.set_cons_zero, List.set_cons_succ])
      refine wpAnyH_take (i := 11) (oi := ({ dst := some 54, op := Op.indexAddr 29 (Operand.tmp 5) (Operand.const (Value.int IntKind.i64 2)), type := 0, pos := "law.go:29", after := #[], guard := none } : Oper)) (v := ?_) rfl (by kernel_rfl) (by kernel_rfl) (by kernel_rfl) (fun _ _ _ h => h) (Or.inl ⟨by rfl, ?_⟩) (by assumption) ?_
      rotate_left
      · intro w hSw; (try dsimp only at hSw); go_simp <;> with_reducible rfl
      (try simp only [Act.put, List.setIfInBounds_toArray, List.set_cons_zero, List.set_cons_succ])
      refine wpAnyH_take (i := 12) (oi := ({ dst := some 55, op := Op.load 28 (Operand.tmp 54), type := 28, pos := "law.go:29", after := #[{ on := 11, ground := Ground.data }], guard := none } : Oper)) (v := ?_) rfl (by kernel_rfl) (by kernel_rfl) (by kernel_rfl) (fun _ _ _ h => h) (Or.inl ⟨by rfl, ?_⟩) (by assumption) ?_
      rotate_left
      · intro w hSw; (try dsimp only at hSw); go_simp <;> with_reducible rfl
      (try simp only [Act.put, List.setIfInBounds_toArray, List.set_cons_zero, List.set_cons_succ])
      refine wpAnyH_take (i := 13) (oi := ({ dst := some 56, op := Op.move (Operand.tmp 8), type := 3, pos := "law.go:29", after := #[], guard := none } : Oper)) (v := ?_) rfl (by kernel_rfl) (by kernel_rfl) (by kernel_rfl) (fun _ _ _ h => h) (Or.inl ⟨by rfl, ?_⟩) (by assumption) ?_
      rotate_left
      · intro w hSw; (try dsimp only at hSw); go_simp <;> with_reducible rfl
      (try simp only [Act.put, List.setIfInBounds_toArray, List.set_cons_zero, List.set_cons_succ])
      refine wpAnyH_take (i := 14) (oi := ({ dst := some 57, op := Op.binOp BinOp.add 3 (Operand.tmp 56) (Operand.const (Value.int IntKind.i64 2)) 3, type := 3, pos := "law.go:29", after := #[{ on := 13, ground := Ground.data }], guard := none } : Oper)) (v := ?_) rfl (by kernel_rfl) (by kernel_rfl) (by kernel_rfl) (fun _ _ _ h => h) (Or.inl ⟨by rfl, ?_⟩) (by assumption) ?_
      rotate_left
      · intro w hSw; (try dsimp only at hSw); go_simp <;> with_reducible rfl
      (try simp only [Act.put, List.setIfInBounds_toArray, List.set_cons_zero, List.set_cons_succ])
      refine wpAnyH_take (i := 15) (oi := ({ dst := some 58, op := Op.indexAddr 28 (Operand.tmp 55) (Operand.tmp 57), type := 0, pos := "law.go:29", after := #[{ on := 12, ground := Ground.data }, { on := 14, ground := Ground.data }], guard := none } : Oper)) (v := ?_) rfl (by kernel_rfl) (by kernel_rfl) (by kernel_rfl) (fun _ _ _ h => h) (Or.inl ⟨by rfl, ?_⟩) (by assumption) ?_
      rotate_left
      · intro w hSw; (try dsimp only at hSw); go_simp <;> with_reducible rfl
      (try simp only [Act.put, List.setIfInBounds_toArray, List.set_cons_zero, List.set_cons_succ])
      refine wpAnyH_take (i := 16) (oi := ({ dst := some 59, op := Op.load 3 (Operand.tmp 58), type := 3, pos := "law.go:29", after := #[{ on := 15, ground := Ground.data }], guard := none } : Oper)) (v := ?_) rfl (by kernel_rfl) (by kernel_rfl) (by kernel_rfl) (fun _ _ _ h => h) (Or.inl ⟨by rfl, ?_⟩) (by assumption) ?_
      rotate_left
      · intro w hSw; (try dsimp only at hSw); go_simp <;> with_reducible rfl
      (try simp only [Act.put, List.setIfInBounds_toArray, List.set_cons_zero, List.set_cons_succ])
      refine wpAnyH_take (i := 18) (oi := ({ dst := some 61, op := Op.indexAddr 29 (Operand.tmp 5) (Operand.const (Value.int IntKind.i64 2)), type := 0, pos := "law.go:29", after := #[], guard := none } : Oper)) (v := ?_) rfl (by kernel_rfl) (by kernel_rfl) (by kernel_rfl) (fun _ _ _ h => h) (Or.inl ⟨by rfl, ?_⟩) (by assumption) ?_
      rotate_left
      · intro w hSw; (try dsimp only at hSw); go_simp <;> with_reducible rfl
      (try simp only [Act.put, List.setIfInBounds_toArray, List.set_cons_zero, List.set_cons_succ])
      refine wpAnyH_take (i := 19) (oi := ({ dst := some 62, op := Op.load 28 (Operand.tmp 61), type := 28, pos := "law.go:29", after := #[{ on := 18, ground := Ground.data }], guard := none } : Oper)) (v := ?_) rfl (by kernel_rfl) (by kernel_rfl) (by kernel_rfl) (fun _ _ _ h => h) (Or.inl ⟨by rfl, ?_⟩) (by assumption) ?_
      rotate_left
      · intro w hSw; (try dsimp only at hSw); go_simp <;> with_reducible rfl
      (try simp only [Act.put, List.setIfInBounds_toArray, List.set_cons_zero, List.set_cons_succ])
      refine wpAnyH_take (i := 20) (oi := ({ dst := some 63, op := Op.move (Operand.tmp 8), type := 3, pos := "law.go:29", after := #[], guard := none } : Oper)) (v := ?_) rfl (by kernel_rfl) (by kernel_rfl) (by kernel_rfl) (fun _ _ _ h => h) (Or.inl ⟨by rfl, ?_⟩) (by assumption) ?_
      rotate_left
      · intro w hSw; (try dsimp only at hSw); go_simp <;> with_reducible rfl
      (try simp only [Act.put, List.setIfInBounds_toArray, List.set_cons_zero, List.set_cons_succ])
      refine wpAnyH_take (i := 21) (oi := ({ dst := some 64, op := Op.indexAddr 28 (Operand.tmp 62) (Operand.tmp 63), type := 0, pos := "law.go:29", after := #[{ on := 19, ground := Ground.data }, { on := 20, ground := Ground.data }], guard := none } : Oper)) (v := ?_) rfl (by kernel_rfl) (by kernel_rfl) (by kernel_rfl) (fun _ _ _ h => h) (Or.inl ⟨by rfl, ?_⟩) (by assumption) ?_
      rotate_left
      · intro w hSw; (try dsimp only at hSw); go_simp <;> with_reducible rfl
      (try simp only [Act.put, List.setIfInBounds_toArray, List.set_cons_zero, List.set_cons_succ])
      refine wpAnyH_take (i := 22) (oi := ({ dst := some 65, op := Op.load 3 (Operand.tmp 64), type := 3, pos := "law.go:29", after := #[{ on := 21, ground := Ground.data }], guard := none } : Oper)) (v := ?_) rfl (by kernel_rfl) (by kernel_rfl) (by kernel_rfl) (fun _ _ _ h => h) (Or.inl ⟨by rfl, ?_⟩) (by assumption) ?_
      rotate_left
      · intro w hSw; (try dsimp only at hSw); go_simp <;> with_reducible rfl
      (try simp only [Act.put, List.setIfInBounds_toArray, List.set_cons_zero, List.set_cons_succ])
      refine wpAnyH_take (i := 23) (oi := ({ dst := some 66, op := Op.indexAddr 29 (Operand.tmp 5) (Operand.const (Value.int IntKind.i64 2)), type := 0, pos := "law.go:29", after := #[], guard := none } : Oper)) (v := ?_) rfl (by kernel_rfl) (by kernel_rfl) (by kernel_rfl) (fun _ _ _ h => h) (Or.inl ⟨by rfl, ?_⟩) (by assumption) ?_
      rotate_left
      · intro w hSw; (try dsimp only at hSw); go_simp <;> with_reducible rfl
      (try simp only [Act.put, List.setIfInBounds_toArray, List.set_cons_zero, List.set_cons_succ])
      refine wpAnyH_take (i := 24) (oi := ({ dst := some 67, op := Op.load 28 (Operand.tmp 66), type := 28, pos := "law.go:29", after := #[{ on := 23, ground := Ground.data }], guard := none } : Oper)) (v := ?_) rfl (by kernel_rfl) (by kernel_rfl) (by kernel_rfl) (fun _ _ _ h => h) (Or.inl ⟨by rfl, ?_⟩) (by assumption) ?_
      rotate_left
      · intro w hSw; (try dsimp only at hSw); go_simp <;> with_reducible rfl
      (try simp only [Act.put, List.setIfInBounds_toArray, List.set_cons_zero, List.set_cons_succ])
      refine wpAnyH_take (i := 25) (oi := ({ dst := some 68, op := Op.move (Operand.tmp 8), type := 3, pos := "law.go:29", after := #[], guard := none } : Oper)) (v := ?_) rfl (by kernel_rfl) (by kernel_rfl) (by kernel_rfl) (fun _ _ _ h => h) (Or.inl ⟨by rfl, ?_⟩) (by assumption) ?_
      rotate_left
      · intro w hSw; (try dsimp only at hSw); go_simp <;> with_reducible rfl
      (try simp only [Act.put, List.setIfInBounds_toArray, List.set_cons_zero, List.set_cons_succ])
      refine wpAnyH_take (i := 26) (oi := ({ dst := some 69, op := Op.binOp BinOp.add 3 (Operand.tmp 68) (Operand.const (Value.int IntKind.i64 1)) 3, type := 3, pos := "law.go:29", after := #[{ on := 25, ground := Ground.data }], guard := none } : Oper)) (v := ?_) rfl (by kernel_rfl) (by kernel_rfl) (by kernel_rfl) (fun _ _ _ h => h) (Or.inl ⟨by rfl, ?_⟩) (by assumption) ?_
      rotate_left
      · intro w hSw; (try dsimp only at hSw); go_simp <;> with_reducible rfl
      (try simp only [Act.put, List.setIfInBounds_toArray, List.set_cons_zero, List.set_cons_succ])
      refine wpAnyH_take (i := 27) (oi := ({ dst := some 70, op := Op.indexAddr 28 (Operand.tmp 67) (Operand.tmp 69), type := 0, pos := "law.go:29", after := #[{ on := 24, ground := Ground.data }, { on := 26, ground := Ground.data }], guard := none } : Oper)) (v := ?_) rfl (by kernel_rfl) (by kernel_rfl) (by kernel_rfl) (fun _ _ _ h => h) (Or.inl ⟨by rfl, ?_⟩) (by assumption) ?_
      rotate_left
      · intro w hSw; (try dsimp only at hSw); go_simp <;> with_reducible rfl
      (try simp only [Act.put, List.setIfInBounds_toArray, List.set_cons_zero, List.set_cons_succ])
      refine wpAnyH_take (i := 28) (oi := ({ dst := some 71, op := Op.load 3 (Operand.tmp 70), type := 3, pos := "law.go:29", after := #[{ on := 27, ground := Ground.data }], guard := none } : Oper)) (v := ?_) rfl (by kernel_rfl) (by kernel_rfl) (by kernel_rfl) (fun _ _ _ h => h) (Or.inl ⟨by rfl, ?_⟩) (by assumption) ?_
      rotate_left
      · intro w hSw; (try dsimp only at hSw); go_simp <;> with_reducible rfl
      (try simp only [Act.put, List.setIfInBounds_toArray, List.set_cons_zero, List.set_cons_succ])
      refine wpAnyH_take (i := 29) (oi := ({ dst := some 72, op := Op.indexAddr 29 (Operand.tmp 5) (Operand.const (Value.int IntKind.i64 2)), type := 0, pos := "law.go:29", after := #[], guard := none } : Oper)) (v := ?_) rfl (by kernel_rfl) (by kernel_rfl) (by kernel_rfl) (fun _ _ _ h => h) (Or.inl ⟨by rfl, ?_⟩) (by assumption) ?_
      rotate_left
      · intro w hSw; (try dsimp only at hSw); go_simp <;> with_reducible rfl
      (try simp only [Act.put, List.setIfInBounds_toArray, List.set_cons_zero, List.set_cons_succ])
      refine wpAnyH_take (i := 30) (oi := ({ dst := some 73, op := Op.load 28 (Operand.tmp 72), type := 28, pos := "law.go:29", after := #[{ on := 29, ground := Ground.data }], guard := none } : Oper)) (v := ?_) rfl (by kernel_rfl) (by kernel_rfl) (by kernel_rfl) (fun _ _ _ h => h) (Or.inl ⟨by rfl, ?_⟩) (by assumption) ?_
      rotate_left
      · intro w hSw; (try dsimp only at hSw); go_simp <;> with_reducible rfl
      (try simp only [Act.put, List.setIfInBounds_toArray, List.set_cons_zero, List.set_cons_succ])
      refine wpAnyH_take (i := 31) (oi := ({ dst := some 74, op := Op.move (Operand.tmp 8), type := 3, pos := "law.go:29", after := #[], guard := none } : Oper)) (v := ?_) rfl (by kernel_rfl) (by kernel_rfl) (by kernel_rfl) (fun _ _ _ h => h) (Or.inl ⟨by rfl, ?_⟩) (by assumption) ?_
      rotate_left
      · intro w hSw; (try dsimp only at hSw); go_simp <;> with_reducible rfl
      (try simp only [Act.put, List.setIfInBounds_toArray, List.set_cons_zero, List.set_cons_succ])
      refine wpAnyH_take (i := 32) (oi := ({ dst := some 75, op := Op.binOp BinOp.add 3 (Operand.tmp 74) (Operand.const (Value.int IntKind.i64 2)) 3, type := 3, pos := "law.go:29", after := #[{ on := 31, ground := Ground.data }], guard := none } : Oper)) (v := ?_) rfl (by kernel_rfl) (by kernel_rfl) (by kernel_rfl) (fun _ _ _ h => h) (Or.inl ⟨by rfl, ?_⟩) (by assumption) ?_
      rotate_left
      · intro w hSw; (try dsimp only at hSw); go_simp <;> with_reducible rfl
      (try simp only [Act.put, List.setIfInBounds_toArray, List.set_cons_zero, List.set_cons_succ])
      refine wpAnyH_take (i := 33) (oi := ({ dst := some 76, op := Op.indexAddr 28 (Operand.tmp 73) (Operand.tmp 75), type := 0, pos := "law.go:29", after := #[{ on := 30, ground := Ground.data }, { on := 32, ground := Ground.data }], guard := none } : Oper)) (v := ?_) rfl (by kernel_rfl) (by kernel_rfl) (by kernel_rfl) (fun _ _ _ h => h) (Or.inl ⟨by rfl, ?_⟩) (by assumption) ?_
      rotate_left
      · intro w hSw; (try dsimp only at hSw); go_simp <;> with_reducible rfl
      (try simp only [Act.put, List.setIfInBounds_toArray, List.set_cons_zero, List.set_cons_succ])
      refine wpAnyH_take (i := 34) (oi := ({ dst := some 77, op := Op.load 3 (Operand.tmp 76), type := 3, pos := "law.go:29", after := #[{ on := 33, ground := Ground.data }], guard := none } : Oper)) (v := ?_) rfl (by kernel_rfl) (by kernel_rfl) (by kernel_rfl) (fun _ _ _ h => h) (Or.inl ⟨by rfl, ?_⟩) (by assumption) ?_
      rotate_left
      · intro w hSw; (try dsimp only at hSw); go_simp <;> with_reducible rfl
      (try simp only [Act.put, List.setIfInBounds_toArray, List.set_cons_zero, List.set_cons_succ])
      refine wpAnyH_ready (rs := [17]) (by kernel_rfl) (by simp) ?_
      refine AllReadyH.cons (o := ({ dst := some 60, op := Op.call { callee := Callee.value (Operand.func 8), args := #[Operand.tmp 47, Operand.tmp 53, Operand.tmp 59], argTypes := #[3, 3, 3] }, type := 3, pos := "law.go:29", after := #[{ on := 4, ground := Ground.data }, { on := 10, ground := Ground.data }, { on := 16, ground := Ground.data }], guard := none } : Oper)) rfl (fun K hK => ?_) ?_
      rotate_left
      · exact AllReadyH.nil
      go_simp
      go_at_call 8
      with_reducible refine (op_any _ _ _ _).mono ?_
      rintro e y0 ⟨rfl, hq0⟩
      have hB0 := below_step hsd hq0
      clear hHeld
      first | (with_reducible refine hK.out _ _ ?_ (fun hHeld => ?_)) | (go_wp2_with fail; with_reducible refine hK.out _ _ ?_ (fun hHeld => ?_))
      · exact ⟨cell_below hB0 x0, cell_below hB0 x1, cell_below hB0 x2, cell_below hB0 x3, cell_below hB0 q0, cell_below hB0 q1, cell_below hB0 q2, cell_below hB0 z0, cell_below hB0 z1, cell_below hB0 z2, cell_below hB0 g0, cell_below hB0 g1, cell_below hB0 g2, hB0⟩
      clear hK K
      (try simp only [Act.put, List.setIfInBounds_toArray, List.set_cons_zero, List.set_cons_succ])
      refine wpAnyH_ready (rs := [35]) (by kernel_rfl) (by simp) ?_
      refine AllReadyH.cons (o := ({ dst := some 78, op := Op.call { callee := Callee.value (Operand.func 9), args := #[Operand.tmp 65, Operand.tmp 71, Operand.tmp 77], argTypes := #[3, 3, 3] }, type := 3, pos := "law.go:29", after := #[{ on := 22, ground := Ground.data }, { on := 28, ground := Ground.data }, { on := 34, ground := Ground.data }, { on := 17, ground := Ground.chain }], guard := none } : Oper)) rfl (fun K hK => ?_) ?_
      rotate_left
      · exact AllReadyH.nil
      go_simp
      go_at_call 9
      with_reducible refine (rop_b _ _ _ _).mono ?_
      rintro e y1 ⟨rfl, hq1⟩
      have hB1 := below_step hB0 hq1
      clear hHeld
      first | (with_reducible refine hK.out _ _ ?_ (fun hHeld => ?_)) | (go_wp2_with fail; with_reducible refine hK.out _ _ ?_ (fun hHeld => ?_))
      · exact ⟨cell_below hB1 x0, cell_below hB1 x1, cell_below hB1 x2, cell_below hB1 x3, cell_below hB1 q0, cell_below hB1 q1, cell_below hB1 q2, cell_below hB1 z0, cell_below hB1 z1, cell_below hB1 z2, cell_below hB1 g0, cell_below hB1 g1, cell_below hB1 g2, hB1⟩
      clear hK K
      (try simp only [Act.put, List.setIfInBounds_toArray, List.set_cons_zero, List.set_cons_succ])
      refine wpAnyH_take (i := 36) (oi := ({ dst := some 79, op := Op.binOp BinOp.neq 3 (Operand.tmp 60) (Operand.tmp 78) 3, type := 4, pos := "law.go:29", after := #[{ on := 17, ground := Ground.data }, { on := 35, ground := Ground.data }], guard := none } : Oper)) (v := ?_) rfl (by kernel_rfl) (by kernel_rfl) (by kernel_rfl) (fun _ _ _ h => h) (Or.inl ⟨by rfl, ?_⟩) (by assumption) ?_
      rotate_left
      · intro w hSw; (try dsimp only at hSw); go_simp <;> with_reducible rfl
      (try simp only [Act.put, List.setIfInBounds_toArray, List.set_cons_zero, List.set_cons_succ])
      refine wpAnyH_take (i := 37) (oi := ({ dst := some 80, op := Op.move (Operand.tmp 79), type := 4, pos := "law.go:29", after := #[{ on := 36, ground := Ground.data }, { on := 35, ground := Ground.chain }], guard := none } : Oper)) (v := ?_) rfl (by kernel_rfl) (by kernel_rfl) (by kernel_rfl) (fun _ _ _ h => h) (Or.inl ⟨by rfl, ?_⟩) (by assumption) ?_
      rotate_left
      · intro w hSw; (try dsimp only at hSw); go_simp <;> with_reducible rfl
      (try simp only [Act.put, List.setIfInBounds_toArray, List.set_cons_zero, List.set_cons_succ])
      refine wpAnyH_take (i := 38) (oi := ({ dst := some 81, op := Op.indexAddr 29 (Operand.tmp 5) (Operand.const (Value.int IntKind.i64 2)), type := 0, pos := "law.go:29", after := #[{ on := 37, ground := Ground.guard }], guard := some (37, false) } : Oper)) (v := ?_) rfl (by kernel_rfl) (by kernel_rfl) (by kernel_rfl) (fun _ _ _ h => h) (Or.inl ⟨by rfl, ?_⟩) (by assumption) ?_
      rotate_left
      · intro w hSw; (try dsimp only at hSw); go_simp <;> with_reducible rfl
      (try simp only [Act.put, List.setIfInBounds_toArray, List.set_cons_zero, List.set_cons_succ])
      refine wpAnyH_take (i := 39) (oi := ({ dst := some 82, op := Op.load 28 (Operand.tmp 81), type := 28, pos := "law.go:29", after := #[{ on := 38, ground := Ground.data }, { on := 37, ground := Ground.guard }], guard := some (37, false) } : Oper)) (v := ?_) rfl (by kernel_rfl) (by kernel_rfl) (by kernel_rfl) (fun _ _ _ h => h) (Or.inl ⟨by rfl, ?_⟩) (by assumption) ?_
      rotate_left
      · intro w hSw; (try dsimp only at hSw); go_simp <;> with_reducible rfl
      (try simp only [Act.put, List.setIfInBounds_toArray, List.set_cons_zero, List.set_cons_succ])
      refine wpAnyH_take (i := 40) (oi := ({ dst := some 83, op := Op.move (Operand.tmp 8), type := 3, pos := "law.go:29", after := #[{ on := 37, ground := Ground.guard }], guard := some (37, false) } : Oper)) (v := ?_) rfl (by kernel_rfl) (by kernel_rfl) (by kernel_rfl) (fun _ _ _ h => h) (Or.inl ⟨by rfl, ?_⟩) (by assumption) ?_
      rotate_left
      · intro w hSw; (try dsimp only at hSw); go_simp <;> with_reducible rfl
      (try simp only [Act.put, List.setIfInBounds_toArray, List.set_cons_zero, List.set_cons_succ])
      refine wpAnyH_take (i := 41) (oi := ({ dst := some 84, op := Op.indexAddr 28 (Operand.tmp 82) (Operand.tmp 83), type := 0, pos := "law.go:29", after := #[{ on := 39, ground := Ground.data }, { on := 40, ground := Ground.data }, { on := 37, ground := Ground.guard }], guard := some (37, false) } : Oper)) (v := ?_) rfl (by kernel_rfl) (by kernel_rfl) (by kernel_rfl) (fun _ _ _ h => h) (Or.inl ⟨by rfl, ?_⟩) (by assumption) ?_
      rotate_left
      · intro w hSw; (try dsimp only at hSw); go_simp <;> with_reducible rfl
      (try simp only [Act.put, List.setIfInBounds_toArray, List.set_cons_zero, List.set_cons_succ])
      refine wpAnyH_take (i := 42) (oi := ({ dst := some 85, op := Op.load 3 (Operand.tmp 84), type := 3, pos := "law.go:29", after := #[{ on := 41, ground := Ground.data }, { on := 37, ground := Ground.guard }], guard := some (37, false) } : Oper)) (v := ?_) rfl (by kernel_rfl) (by kernel_rfl) (by kernel_rfl) (fun _ _ _ h => h) (Or.inl ⟨by rfl, ?_⟩) (by assumption) ?_
      rotate_left
      · intro w hSw; (try dsimp only at hSw); go_simp <;> with_reducible rfl
      (try simp only [Act.put, List.setIfInBounds_toArray, List.set_cons_zero, List.set_cons_succ])
      refine wpAnyH_take (i := 44) (oi := ({ dst := some 87, op := Op.indexAddr 29 (Operand.tmp 5) (Operand.const (Value.int IntKind.i64 2)), type := 0, pos := "law.go:29", after := #[{ on := 37, ground := Ground.guard }], guard := some (37, false) } : Oper)) (v := ?_) rfl (by kernel_rfl) (by kernel_rfl) (by kernel_rfl) (fun _ _ _ h => h) (Or.inl ⟨by rfl, ?_⟩) (by assumption) ?_
      rotate_left
      · intro w hSw; (try dsimp only at hSw); go_simp <;> with_reducible rfl
      (try simp only [Act.put, List.setIfInBounds_toArray, List.set_cons_zero, List.set_cons_succ])
      refine wpAnyH_take (i := 45) (oi := ({ dst := some 88, op := Op.load 28 (Operand.tmp 87), type := 28, pos := "law.go:29", after := #[{ on := 44, ground := Ground.data }, { on := 37, ground := Ground.guard }], guard := some (37, false) } : Oper)) (v := ?_) rfl (by kernel_rfl) (by kernel_rfl) (by kernel_rfl) (fun _ _ _ h => h) (Or.inl ⟨by rfl, ?_⟩) (by assumption) ?_
      rotate_left
      · intro w hSw; (try dsimp only at hSw); go_simp <;> with_reducible rfl
      (try simp only [Act.put, List.setIfInBounds_toArray, List.set_cons_zero, List.set_cons_succ])
      refine wpAnyH_take (i := 46) (oi := ({ dst := some 89, op := Op.move (Operand.tmp 8), type := 3, pos := "law.go:29", after := #[{ on := 37, ground := Ground.guard }], guard := some (37, false) } : Oper)) (v := ?_) rfl (by kernel_rfl) (by kernel_rfl) (by kernel_rfl) (fun _ _ _ h => h) (Or.inl ⟨by rfl, ?_⟩) (by assumption) ?_
      rotate_left
      · intro w hSw; (try dsimp only at hSw); go_simp <;> with_reducible rfl
      (try simp only [Act.put, List.setIfInBounds_toArray, List.set_cons_zero, List.set_cons_succ])
      refine wpAnyH_take (i := 47) (oi := ({ dst := some 90, op := Op.indexAddr 28 (Operand.tmp 88) (Operand.tmp 89), type := 0, pos := "law.go:29", after := #[{ on := 45, ground := Ground.data }, { on := 46, ground := Ground.data }, { on := 37, ground := Ground.guard }], guard := some (37, false) } : Oper)) (v := ?_) rfl (by kernel_rfl) (by kernel_rfl) (by kernel_rfl) (fun _ _ _ h => h) (Or.inl ⟨by rfl, ?_⟩) (by assumption) ?_
      rotate_left
      · intro w hSw; (try dsimp only at hSw); go_simp <;> with_reducible rfl
      (try simp only [Act.put, List.setIfInBounds_toArray, List.set_cons_zero, List.set_cons_succ])
      refine wpAnyH_take (i := 48) (oi := ({ dst := some 91, op := Op.load 3 (Operand.tmp 90), type := 3, pos := "law.go:29", after := #[{ on := 47, ground := Ground.data }, { on := 37, ground := Ground.guard }], guard := some (37, false) } : Oper)) (v := ?_) rfl (by kernel_rfl) (by kernel_rfl) (by kernel_rfl) (fun _ _ _ h => h) (Or.inl ⟨by rfl, ?_⟩) (by assumption) ?_
      rotate_left
      · intro w hSw; (try dsimp only at hSw); go_simp <;> with_reducible rfl
      (try simp only [Act.put, List.setIfInBounds_toArray, List.set_cons_zero, List.set_cons_succ])
      refine wpAnyH_ready (rs := [43]) (by kernel_rfl) (by simp) ?_
      refine AllReadyH.cons (o := ({ dst := some 86, op := Op.call { callee := Callee.value (Operand.func 10), args := #[Operand.tmp 85], argTypes := #[3] }, type := 3, pos := "law.go:29", after := #[{ on := 42, ground := Ground.data }, { on := 37, ground := Ground.chain }, { on := 37, ground := Ground.guard }], guard := some (37, false) } : Oper)) rfl (fun K hK => ?_) ?_
      rotate_left
      · exact AllReadyH.nil
      go_simp
      go_at_call 10
      with_reducible refine (wrap_b _ _).mono ?_
      rintro e y2 ⟨rfl, hq2⟩
      have hB2 := below_step hB1 hq2
      clear hHeld
      first | (with_reducible refine hK.out _ _ ?_ (fun hHeld => ?_)) | (go_wp2_with fail; with_reducible refine hK.out _ _ ?_ (fun hHeld => ?_))
      · exact ⟨cell_below hB2 x0, cell_below hB2 x1, cell_below hB2 x2, cell_below hB2 x3, cell_below hB2 q0, cell_below hB2 q1, cell_below hB2 q2, cell_below hB2 z0, cell_below hB2 z1, cell_below hB2 z2, cell_below hB2 g0, cell_below hB2 g1, cell_below hB2 g2, hB2⟩
      clear hK K
      (try simp only [Act.put, List.setIfInBounds_toArray, List.set_cons_zero, List.set_cons_succ])
      refine wpAnyH_ready (rs := [49]) (by kernel_rfl) (by simp) ?_
      refine AllReadyH.cons (o := ({ dst := some 92, op := Op.call { callee := Callee.value (Operand.func 11), args := #[Operand.tmp 91], argTypes := #[3] }, type := 3, pos := "law.go:29", after := #[{ on := 48, ground := Ground.data }, { on := 43, ground := Ground.chain }, { on := 37, ground := Ground.guard }], guard := some (37, false) } : Oper)) rfl (fun K hK => ?_) ?_
      rotate_left
      · exact AllReadyH.nil
      go_simp
      go_at_call 11
      with_reducible refine (rwrap_b _ _).mono ?_
      rintro e y3 ⟨rfl, hq3⟩
      have hB3 := below_step hB2 hq3
      clear hHeld
      first | (with_reducible refine hK.out _ _ ?_ (fun hHeld => ?_)) | (go_wp2_with fail; with_reducible refine hK.out _ _ ?_ (fun hHeld => ?_))
      · exact ⟨cell_below hB3 x0, cell_below hB3 x1, cell_below hB3 x2, cell_below hB3 x3, cell_below hB3 q0, cell_below hB3 q1, cell_below hB3 q2, cell_below hB3 z0, cell_below hB3 z1, cell_below hB3 z2, cell_below hB3 g0, cell_below hB3 g1, cell_below hB3 g2, hB3⟩
      clear hK K
      (try simp only [Act.put, List.setIfInBounds_toArray, List.set_cons_zero, List.set_cons_succ])
      refine wpAnyH_take (i := 50) (oi := ({ dst := some 93, op := Op.binOp BinOp.neq 3 (Operand.tmp 86) (Operand.tmp 92) 3, type := 4, pos := "law.go:29", after := #[{ on := 43, ground := Ground.data }, { on := 49, ground := Ground.data }, { on := 37, ground := Ground.guard }], guard := some (37, false) } : Oper)) (v := ?_) rfl (by kernel_rfl) (by kernel_rfl) (by kernel_rfl) (fun _ _ _ h => h) (Or.inl ⟨by rfl, ?_⟩) (by assumption) ?_
      rotate_left
      · intro w hSw; (try dsimp only at hSw); go_simp <;> with_reducible rfl
      (try simp only [Act.put, List.setIfInBounds_toArray, List.set_cons_zero, List.set_cons_succ])
      refine wpAnyH_take (i := 51) (oi := ({ dst := some 94, op := Op.pick (Operand.tmp 80) (Operand.const (Value.bool true)) (Operand.tmp 93), type := 4, pos := "law.go:29", after := #[{ on := 37, ground := Ground.data }, { on := 50, ground := Ground.data }], guard := none } : Oper)) (v := ?_) rfl (by kernel_rfl) (by kernel_rfl) (by kernel_rfl) (fun _ _ _ h => h) (Or.inl ⟨by rfl, ?_⟩) (by assumption) ?_
      rotate_left
      · intro w hSw; (try dsimp only at hSw); go_simp <;> with_reducible rfl
      (try simp only [Act.put, List.setIfInBounds_toArray, List.set_cons_zero, List.set_cons_succ])
      refine wpAnyH_done (by kernel_rfl) ?_ _
      have BN := hid (below_step BR.out hB3)
      clear hHeld
      go_wp2_with fail
      go_roundw
      case rel => exact ⟨k + 1, by omega, by go_num, BN⟩
      case measure => simp [intOf]; omega
    · have hlti : decide ((k : Int) + 2 < (n3 : Int)) = false := by simp; omega
      obtain ⟨x0, x1, x2, x3, q0, q1, q2, z0, z1, z2⟩ := PK.out _ BW.out
      clear hlt
      obtain ⟨ev, hev⟩ : ∃ z, evalE V L t = z := ⟨_, rfl⟩
      obtain ⟨hv, hhv⟩ : ∃ z, holdsC V L d = z := ⟨_, rfl⟩
      obtain ⟨de, hde⟩ : ∃ z, depthE t = z := ⟨_, rfl⟩
      obtain ⟨dc, hdc⟩ : ∃ z, depthC d = z := ⟨_, rfl⟩
      have CE := hid (fun (W : World) (hW : Below wr.heap.size wr W) => eval_any V L t _ _ _ W (exIn_below (below_step BW.out hW) _ _ T0.out) (intsIn_below (below_step BW.out hW) V0.out) (intsIn_below (below_step BW.out hW) L0.out))
      have CER := hid (fun (W : World) (hW : Below wr.heap.size wr W) => reval_any V L t _ _ _ W (exIn_below (below_step BW.out hW) _ _ T0.out) (intsIn_below (below_step BW.out hW) V0.out) (intsIn_below (below_step BW.out hW) L0.out))
      have CH := hid (fun (W : World) (hW : Below wr.heap.size wr W) => holds_any V L d _ _ _ W (cdIn_below (below_step BW.out hW) _ _ D0.out) (intsIn_below (below_step BW.out hW) V0.out) (intsIn_below (below_step BW.out hW) L0.out))
      have CHR := hid (fun (W : World) (hW : Below wr.heap.size wr W) => rholds_any V L d _ _ _ W (cdIn_below (below_step BW.out hW) _ _ D0.out) (intsIn_below (below_step BW.out hW) V0.out) (intsIn_below (below_step BW.out hW) L0.out))
      have CD := hid (fun (W : World) (hW : Below wr.heap.size wr W) => depth_any t _ W (exIn_below (below_step BW.out hW) _ _ T0.out))
      have CDR := hid (fun (W : World) (hW : Below wr.heap.size wr W) => rdepth_any t _ W (exIn_below (below_step BW.out hW) _ _ T0.out))
      have CC := hid (fun (W : World) (hW : Below wr.heap.size wr W) => depthC_any d _ W (cdIn_below (below_step BW.out hW) _ _ D0.out))
      have CCR := hid (fun (W : World) (hW : Below wr.heap.size wr W) => rdepthC_any d _ W (cdIn_below (below_step BW.out hW) _ _ D0.out))
      rw [hev] at CE CER
      rw [hhv] at CH CHR
      rw [hde] at CD CDR
      rw [hdc] at CC CCR
      clear hev hhv hde hdc
      go_upto_region 11 with fail
      have hsd := (Below.refl wr.heap.size wr).drew
      refine wp_region_held_drew (S := fun W' => (W'.cell? ⟨w.heap.size, 0, none⟩ = some (.int .i64 o) ∧ W'.cell? ⟨w.heap.size, 1, none⟩ = some (.int .i64 n) ∧ W'.cell? ⟨w.heap.size, 2, none⟩ = some (.int .i64 v) ∧ W'.cell? ⟨w.heap.size, 3, none⟩ = some (.slice a1 l1 c1) ∧ W'.cell? ⟨w.heap.size + 1, 0, none⟩ = some (.int .i64 co) ∧ W'.cell? ⟨w.heap.size + 1, 1, none⟩ = some (.slice b1 m1 d1) ∧ W'.cell? ⟨w.heap.size + 1, 2, none⟩ = some (.slice b2 m2 d2) ∧ W'.cell? ⟨w.heap.size + 1 + 1, 0, none⟩ = some (.slice p1 n1 k1) ∧ W'.cell? ⟨w.heap.size + 1 + 1, 1, none⟩ = some (.slice p2 n2 k2) ∧ W'.cell? ⟨w.heap.size + 1 + 1, 2, none⟩ = some (.slice p3 n3 k3) ∧ Below wr.heap.size wr W')) (by kernel_rfl) ?_ (fun hHeld => ?_)
      · exact ⟨x0, x1, x2, x3, q0, q1, q2, z0, z1, z2, hsd⟩
      refine wpAnyH_take (i := 0) (oi := ({ dst := some 95, op := Op.load 24 (Operand.tmp 3), type := 24, pos := "law.go:33", after := #[], guard := none } : Oper)) (v := ?_) rfl (by kernel_rfl) (by kernel_rfl) (by kernel_rfl) (fun _ _ _ h => h) (Or.inl ⟨by rfl, ?_⟩) (by assumption) ?_
      rotate_left
      · intro w hSw; (try dsimp only at hSw); go_simp <;> with_reducible rfl
      (try simp only [Act.put, List.setIfInBounds_toArray, List.set_cons_zero, List.set_cons_succ])
      refine wpAnyH_take (i := 1) (oi := ({ dst := some 96, op := Op.indexAddr 29 (Operand.tmp 5) (Operand.const (Value.int IntKind.i64 0)), type := 0, pos := "law.go:33", after := #[], guard := none } : Oper)) (v := ?_) rfl (by kernel_rfl) (by kernel_rfl) (by kernel_rfl) (fun _ _ _ h => h) (Or.inl ⟨by rfl, ?_⟩) (by assumption) ?_
      rotate_left
      · intro w hSw; (try dsimp only at hSw); go_simp <;> with_reducible rfl
      (try simp only [Act.put, List.setIfInBounds_toArray, List.set_cons_zero, List.set_cons_succ])
      refine wpAnyH_take (i := 2) (oi := ({ dst := some 97, op := Op.load 28 (Operand.tmp 96), type := 28, pos := "law.go:33", after := #[{ on := 1, ground := Ground.data }], guard := none } : Oper)) (v := ?_) rfl (by kernel_rfl) (by kernel_rfl) (by kernel_rfl) (fun _ _ _ h => h) (Or.inl ⟨by rfl, ?_⟩) (by assumption) ?_
      rotate_left
      · intro w hSw; (try dsimp only at hSw); go_simp <;> with_reducible rfl
      (try simp only [Act.put, List.setIfInBounds_toArray, List.set_cons_zero, List.set_cons_succ])
      refine wpAnyH_take (i := 3) (oi := ({ dst := some 98, op := Op.indexAddr 29 (Operand.tmp 5) (Operand.const (Value.int IntKind.i64 1)), type := 0, pos := "law.go:33", after := #[], guard := none } : Oper)) (v := ?_) rfl (by kernel_rfl) (by kernel_rfl) (by kernel_rfl) (fun _ _ _ h => h) (Or.inl ⟨by rfl, ?_⟩) (by assumption) ?_
      rotate_left
      · intro w hSw; (try dsimp only at hSw); go_simp <;> with_reducible rfl
      (try simp only [Act.put, List.setIfInBounds_toArray, List.set_cons_zero, List.set_cons_succ])
      refine wpAnyH_take (i := 4) (oi := ({ dst := some 99, op := Op.load 28 (Operand.tmp 98), type := 28, pos := "law.go:33", after := #[{ on := 3, ground := Ground.data }], guard := none } : Oper)) (v := ?_) rfl (by kernel_rfl) (by kernel_rfl) (by kernel_rfl) (fun _ _ _ h => h) (Or.inl ⟨by rfl, ?_⟩) (by assumption) ?_
      rotate_left
      · intro w hSw; (try dsimp only at hSw); go_simp <;> with_reducible rfl
      (try simp only [Act.put, List.setIfInBounds_toArray, List.set_cons_zero, List.set_cons_succ])
      refine wpAnyH_take (i := 6) (oi := ({ dst := some 101, op := Op.load 24 (Operand.tmp 3), type := 24, pos := "law.go:33", after := #[], guard := none } : Oper)) (v := ?_) rfl (by kernel_rfl) (by kernel_rfl) (by kernel_rfl) (fun _ _ _ h => h) (Or.inl ⟨by rfl, ?_⟩) (by assumption) ?_
      rotate_left
      · intro w hSw; (try dsimp only at hSw); go_simp <;> with_reducible rfl
      (try simp only [Act.put, List.setIfInBounds_toArray, List.set_cons_zero, List.set_cons_succ])
      refine wpAnyH_take (i := 7) (oi := ({ dst := some 102, op := Op.indexAddr 29 (Operand.tmp 5) (Operand.const (Value.int IntKind.i64 0)), type := 0, pos := "law.go:33", after := #[], guard := none } : Oper)) (v := ?_) rfl (by kernel_rfl) (by kernel_rfl) (by kernel_rfl) (fun _ _ _ h => h) (Or.inl ⟨by rfl, ?_⟩) (by assumption) ?_
      rotate_left
      · intro w hSw; (try dsimp only at hSw); go_simp <;> with_reducible rfl
      (try simp only [Act.put, List.setIfInBounds_toArray, List.set_cons_zero, List.set_cons_succ])
      refine wpAnyH_take (i := 8) (oi := ({ dst := some 103, op := Op.load 28 (Operand.tmp 102), type := 28, pos := "law.go:33", after := #[{ on := 7, ground := Ground.data }], guard := none } : Oper)) (v := ?_) rfl (by kernel_rfl) (by kernel_rfl) (by kernel_rfl) (fun _ _ _ h => h) (Or.inl ⟨by rfl, ?_⟩) (by assumption) ?_
      rotate_left
      · intro w hSw; (try dsimp only at hSw); go_simp <;> with_reducible rfl
      (try simp only [Act.put, List.setIfInBounds_toArray, List.set_cons_zero, List.set_cons_succ])
      refine wpAnyH_take (i := 9) (oi := ({ dst := some 104, op := Op.indexAddr 29 (Operand.tmp 5) (Operand.const (Value.int IntKind.i64 1)), type := 0, pos := "law.go:33", after := #[], guard := none } : Oper)) (v := ?_) rfl (by kernel_rfl) (by kernel_rfl) (by kernel_rfl) (fun _ _ _ h => h) (Or.inl ⟨by rfl, ?_⟩) (by assumption) ?_
      rotate_left
      · intro w hSw; (try dsimp only at hSw); go_simp <;> with_reducible rfl
      (try simp only [Act.put, List.setIfInBounds_toArray, List.set_cons_zero, List.set_cons_succ])
      refine wpAnyH_take (i := 10) (oi := ({ dst := some 105, op := Op.load 28 (Operand.tmp 104), type := 28, pos := "law.go:33", after := #[{ on := 9, ground := Ground.data }], guard := none } : Oper)) (v := ?_) rfl (by kernel_rfl) (by kernel_rfl) (by kernel_rfl) (fun _ _ _ h => h) (Or.inl ⟨by rfl, ?_⟩) (by assumption) ?_
      rotate_left
      · intro w hSw; (try dsimp only at hSw); go_simp <;> with_reducible rfl
      (try simp only [Act.put, List.setIfInBounds_toArray, List.set_cons_zero, List.set_cons_succ])
      refine wpAnyH_ready (rs := [5]) (by kernel_rfl) (by simp) ?_
      refine AllReadyH.cons (o := ({ dst := some 100, op := Op.call { callee := Callee.value (Operand.func 12), args := #[Operand.tmp 95, Operand.tmp 97, Operand.tmp 99], argTypes := #[24, 28, 28] }, type := 3, pos := "law.go:33", after := #[{ on := 0, ground := Ground.data }, { on := 2, ground := Ground.data }, { on := 4, ground := Ground.data }], guard := none } : Oper)) rfl (fun K hK => ?_) ?_
      rotate_left
      · exact AllReadyH.nil
      go_simp
      go_at_call 12
      with_reducible refine (CE.out _ hsd).mono ?_
      rintro e y0 ⟨rfl, hq0⟩
      have hB0 := below_step hsd hq0
      clear hHeld
      first | (with_reducible refine hK.out _ _ ?_ (fun hHeld => ?_)) | (go_wp2_with fail; with_reducible refine hK.out _ _ ?_ (fun hHeld => ?_))
      · exact ⟨cell_below hB0 x0, cell_below hB0 x1, cell_below hB0 x2, cell_below hB0 x3, cell_below hB0 q0, cell_below hB0 q1, cell_below hB0 q2, cell_below hB0 z0, cell_below hB0 z1, cell_below hB0 z2, hB0⟩
      clear hK K
      (try simp only [Act.put, List.setIfInBounds_toArray, List.set_cons_zero, List.set_cons_succ])
      refine wpAnyH_ready (rs := [11]) (by kernel_rfl) (by simp) ?_
      refine AllReadyH.cons (o := ({ dst := some 106, op := Op.call { callee := Callee.value (Operand.func 13), args := #[Operand.tmp 101, Operand.tmp 103, Operand.tmp 105], argTypes := #[24, 28, 28] }, type := 3, pos := "law.go:33", after := #[{ on := 6, ground := Ground.data }, { on := 8, ground := Ground.data }, { on := 10, ground := Ground.data }, { on := 5, ground := Ground.chain }], guard := none } : Oper)) rfl (fun K hK => ?_) ?_
      rotate_left
      · exact AllReadyH.nil
      go_simp
      go_at_call 13
      with_reducible refine (CER.out _ hB0).mono ?_
      rintro e y1 ⟨rfl, hq1⟩
      have hB1 := below_step hB0 hq1
      clear hHeld
      first | (with_reducible refine hK.out _ _ ?_ (fun hHeld => ?_)) | (go_wp2_with fail; with_reducible refine hK.out _ _ ?_ (fun hHeld => ?_))
      · exact ⟨cell_below hB1 x0, cell_below hB1 x1, cell_below hB1 x2, cell_below hB1 x3, cell_below hB1 q0, cell_below hB1 q1, cell_below hB1 q2, cell_below hB1 z0, cell_below hB1 z1, cell_below hB1 z2, hB1⟩
      clear hK K
      (try simp only [Act.put, List.setIfInBounds_toArray, List.set_cons_zero, List.set_cons_succ])
      refine wpAnyH_take (i := 12) (oi := ({ dst := some 107, op := Op.binOp BinOp.neq 3 (Operand.tmp 100) (Operand.tmp 106) 3, type := 4, pos := "law.go:33", after := #[{ on := 5, ground := Ground.data }, { on := 11, ground := Ground.data }], guard := none } : Oper)) (v := ?_) rfl (by kernel_rfl) (by kernel_rfl) (by kernel_rfl) (fun _ _ _ h => h) (Or.inl ⟨by rfl, ?_⟩) (by assumption) ?_
      rotate_left
      · intro w hSw; (try dsimp only at hSw); go_simp <;> with_reducible rfl
      (try simp only [Act.put, List.setIfInBounds_toArray, List.set_cons_zero, List.set_cons_succ])
      refine wpAnyH_take (i := 13) (oi := ({ dst := some 108, op := Op.move (Operand.tmp 107), type := 4, pos := "law.go:33", after := #[{ on := 12, ground := Ground.data }, { on := 11, ground := Ground.chain }], guard := none } : Oper)) (v := ?_) rfl (by kernel_rfl) (by kernel_rfl) (by kernel_rfl) (fun _ _ _ h => h) (Or.inl ⟨by rfl, ?_⟩) (by assumption) ?_
      rotate_left
      · intro w hSw; (try dsimp only at hSw); go_simp <;> with_reducible rfl
      (try simp only [Act.put, List.setIfInBounds_toArray, List.set_cons_zero, List.set_cons_succ])
      refine wpAnyH_take (i := 14) (oi := ({ dst := some 109, op := Op.load 27 (Operand.tmp 4), type := 27, pos := "law.go:33", after := #[{ on := 13, ground := Ground.guard }], guard := some (13, false) } : Oper)) (v := ?_) rfl (by kernel_rfl) (by kernel_rfl) (by kernel_rfl) (fun _ _ _ h => h) (Or.inl ⟨by rfl, ?_⟩) (by assumption) ?_
      rotate_left
      · intro w hSw; (try dsimp only at hSw); go_simp <;> with_reducible rfl
      (try simp only [Act.put, List.setIfInBounds_toArray, List.set_cons_zero, List.set_cons_succ])
      refine wpAnyH_take (i := 15) (oi := ({ dst := some 110, op := Op.indexAddr 29 (Operand.tmp 5) (Operand.const (Value.int IntKind.i64 0)), type := 0, pos := "law.go:33", after := #[{ on := 13, ground := Ground.guard }], guard := some (13, false) } : Oper)) (v := ?_) rfl (by kernel_rfl) (by kernel_rfl) (by kernel_rfl) (fun _ _ _ h => h) (Or.inl ⟨by rfl, ?_⟩) (by assumption) ?_
      rotate_left
      · intro w hSw; (try dsimp only at hSw); go_simp <;> with_reducible rfl
      (try simp only [Act.put, List.setIfInBounds_toArray, List.set_cons_zero, List.set_cons_succ])
      refine wpAnyH_take (i := 16) (oi := ({ dst := some 111, op := Op.load 28 (Operand.tmp 110), type := 28, pos := "law.go:33", after := #[{ on := 15, ground := Ground.data }, { on := 13, ground := Ground.guard }], guard := some (13, false) } : Oper)) (v := ?_) rfl (by kernel_rfl) (by kernel_rfl) (by kernel_rfl) (fun _ _ _ h => h) (Or.inl ⟨by rfl, ?_⟩) (by assumption) ?_
      rotate_left
      · intro w hSw; (try dsimp only at hSw); go_simp <;> with_reducible rfl
      (try simp only [Act.put, List.setIfInBounds_toArray, List.set_cons_zero, List.set_cons_succ])
      refine wpAnyH_take (i := 17) (oi := ({ dst := some 112, op := Op.indexAddr 29 (Operand.tmp 5) (Operand.const (Value.int IntKind.i64 1)), type := 0, pos := "law.go:33", after := #[{ on := 13, ground := Ground.guard }], guard := some (13, false) } : Oper)) (v := ?_) rfl (by kernel_rfl) (by kernel_rfl) (by kernel_rfl) (fun _ _ _ h => h) (Or.inl ⟨by rfl, ?_⟩) (by assumption) ?_
      rotate_left
      · intro w hSw; (try dsimp only at hSw); go_simp <;> with_reducible rfl
      (try simp only [Act.put, List.setIfInBounds_toArray, List.set_cons_zero, List.set_cons_succ])
      refine wpAnyH_take (i := 18) (oi := ({ dst := some 113, op := Op.load 28 (Operand.tmp 112), type := 28, pos := "law.go:33", after := #[{ on := 17, ground := Ground.data }, { on := 13, ground := Ground.guard }], guard := some (13, false) } : Oper)) (v := ?_) rfl (by kernel_rfl) (by kernel_rfl) (by kernel_rfl) (fun _ _ _ h => h) (Or.inl ⟨by rfl, ?_⟩) (by assumption) ?_
      rotate_left
      · intro w hSw; (try dsimp only at hSw); go_simp <;> with_reducible rfl
      (try simp only [Act.put, List.setIfInBounds_toArray, List.set_cons_zero, List.set_cons_succ])
      refine wpAnyH_take (i := 20) (oi := ({ dst := some 115, op := Op.load 27 (Operand.tmp 4), type := 27, pos := "law.go:33", after := #[{ on := 13, ground := Ground.guard }], guard := some (13, false) } : Oper)) (v := ?_) rfl (by kernel_rfl) (by kernel_rfl) (by kernel_rfl) (fun _ _ _ h => h) (Or.inl ⟨by rfl, ?_⟩) (by assumption) ?_
      rotate_left
      · intro w hSw; (try dsimp only at hSw); go_simp <;> with_reducible rfl
      (try simp only [Act.put, List.setIfInBounds_toArray, List.set_cons_zero, List.set_cons_succ])
      refine wpAnyH_take (i := 21) (oi := ({ dst := some 116, op := Op.indexAddr 29 (Operand.tmp 5) (Operand.const (Value.int IntKind.i64 0)), type := 0, pos := "law.go:33", after := #[{ on := 13, ground := Ground.guard }], guard := some (13, false) } : Oper)) (v := ?_) rfl (by kernel_rfl) (by kernel_rfl) (by kernel_rfl) (fun _ _ _ h => h) (Or.inl ⟨by rfl, ?_⟩) (by assumption) ?_
      rotate_left
      · intro w hSw; (try dsimp only at hSw); go_simp <;> with_reducible rfl
      (try simp only [Act.put, List.setIfInBounds_toArray, List.set_cons_zero, List.set_cons_succ])
      refine wpAnyH_take (i := 22) (oi := ({ dst := some 117, op := Op.load 28 (Operand.tmp 116), type := 28, pos := "law.go:33", after := #[{ on := 21, ground := Ground.data }, { on := 13, ground := Ground.guard }], guard := some (13, false) } : Oper)) (v := ?_) rfl (by kernel_rfl) (by kernel_rfl) (by kernel_rfl) (fun _ _ _ h => h) (Or.inl ⟨by rfl, ?_⟩) (by assumption) ?_
      rotate_left
      · intro w hSw; (try dsimp only at hSw); go_simp <;> with_reducible rfl
      (try simp only [Act.put, List.setIfInBounds_toArray, List.set_cons_zero, List.set_cons_succ])
      refine wpAnyH_take (i := 23) (oi := ({ dst := some 118, op := Op.indexAddr 29 (Operand.tmp 5) (Operand.const (Value.int IntKind.i64 1)), type := 0, pos := "law.go:33", after := #[{ on := 13, ground := Ground.guard }], guard := some (13, false) } : Oper)) (v := ?_) rfl (by kernel_rfl) (by kernel_rfl) (by kernel_rfl) (fun _ _ _ h => h) (Or.inl ⟨by rfl, ?_⟩) (by assumption) ?_
      rotate_left
      · intro w hSw; (try dsimp only at hSw); go_simp <;> with_reducible rfl
      (try simp only [Act.put, List.setIfInBounds_toArray, List.set_cons_zero, List.set_cons_succ])
      refine wpAnyH_take (i := 24) (oi := ({ dst := some 119, op := Op.load 28 (Operand.tmp 118), type := 28, pos := "law.go:33", after := #[{ on := 23, ground := Ground.data }, { on := 13, ground := Ground.guard }], guard := some (13, false) } : Oper)) (v := ?_) rfl (by kernel_rfl) (by kernel_rfl) (by kernel_rfl) (fun _ _ _ h => h) (Or.inl ⟨by rfl, ?_⟩) (by assumption) ?_
      rotate_left
      · intro w hSw; (try dsimp only at hSw); go_simp <;> with_reducible rfl
      (try simp only [Act.put, List.setIfInBounds_toArray, List.set_cons_zero, List.set_cons_succ])
      refine wpAnyH_ready (rs := [19]) (by kernel_rfl) (by simp) ?_
      refine AllReadyH.cons (o := ({ dst := some 114, op := Op.call { callee := Callee.value (Operand.func 14), args := #[Operand.tmp 109, Operand.tmp 111, Operand.tmp 113], argTypes := #[27, 28, 28] }, type := 4, pos := "law.go:33", after := #[{ on := 14, ground := Ground.data }, { on := 16, ground := Ground.data }, { on := 18, ground := Ground.data }, { on := 13, ground := Ground.chain }, { on := 13, ground := Ground.guard }], guard := some (13, false) } : Oper)) rfl (fun K hK => ?_) ?_
      rotate_left
      · exact AllReadyH.nil
      go_simp
      go_at_call 14
      with_reducible refine (CH.out _ hB1).mono ?_
      rintro e y2 ⟨rfl, hq2⟩
      have hB2 := below_step hB1 hq2
      clear hHeld
      first | (with_reducible refine hK.out _ _ ?_ (fun hHeld => ?_)) | (go_wp2_with fail; with_reducible refine hK.out _ _ ?_ (fun hHeld => ?_))
      · exact ⟨cell_below hB2 x0, cell_below hB2 x1, cell_below hB2 x2, cell_below hB2 x3, cell_below hB2 q0, cell_below hB2 q1, cell_below hB2 q2, cell_below hB2 z0, cell_below hB2 z1, cell_below hB2 z2, hB2⟩
      clear hK K
      (try simp only [Act.put, List.setIfInBounds_toArray, List.set_cons_zero, List.set_cons_succ])
      refine wpAnyH_ready (rs := [25]) (by kernel_rfl) (by simp) ?_
      refine AllReadyH.cons (o := ({ dst := some 120, op := Op.call { callee := Callee.value (Operand.func 15), args := #[Operand.tmp 115, Operand.tmp 117, Operand.tmp 119], argTypes := #[27, 28, 28] }, type := 4, pos := "law.go:33", after := #[{ on := 20, ground := Ground.data }, { on := 22, ground := Ground.data }, { on := 24, ground := Ground.data }, { on := 19, ground := Ground.chain }, { on := 13, ground := Ground.guard }], guard := some (13, false) } : Oper)) rfl (fun K hK => ?_) ?_
      rotate_left
      · exact AllReadyH.nil
      go_simp
      go_at_call 15
      with_reducible refine (CHR.out _ hB2).mono ?_
      rintro e y3 ⟨rfl, hq3⟩
      have hB3 := below_step hB2 hq3
      clear hHeld
      first | (with_reducible refine hK.out _ _ ?_ (fun hHeld => ?_)) | (go_wp2_with fail; with_reducible refine hK.out _ _ ?_ (fun hHeld => ?_))
      · exact ⟨cell_below hB3 x0, cell_below hB3 x1, cell_below hB3 x2, cell_below hB3 x3, cell_below hB3 q0, cell_below hB3 q1, cell_below hB3 q2, cell_below hB3 z0, cell_below hB3 z1, cell_below hB3 z2, hB3⟩
      clear hK K
      (try simp only [Act.put, List.setIfInBounds_toArray, List.set_cons_zero, List.set_cons_succ])
      refine wpAnyH_take (i := 26) (oi := ({ dst := some 121, op := Op.binOp BinOp.neq 4 (Operand.tmp 114) (Operand.tmp 120) 4, type := 4, pos := "law.go:33", after := #[{ on := 19, ground := Ground.data }, { on := 25, ground := Ground.data }, { on := 13, ground := Ground.guard }], guard := some (13, false) } : Oper)) (v := ?_) rfl (by kernel_rfl) (by kernel_rfl) (by kernel_rfl) (fun _ _ _ h => h) (Or.inl ⟨by rfl, ?_⟩) (by assumption) ?_
      rotate_left
      · intro w hSw; (try dsimp only at hSw); go_simp <;> with_reducible rfl
      (try simp only [Act.put, List.setIfInBounds_toArray, List.set_cons_zero, List.set_cons_succ])
      refine wpAnyH_take (i := 27) (oi := ({ dst := some 122, op := Op.pick (Operand.tmp 108) (Operand.const (Value.bool true)) (Operand.tmp 121), type := 4, pos := "law.go:33", after := #[{ on := 13, ground := Ground.data }, { on := 26, ground := Ground.data }], guard := none } : Oper)) (v := ?_) rfl (by kernel_rfl) (by kernel_rfl) (by kernel_rfl) (fun _ _ _ h => h) (Or.inl ⟨by rfl, ?_⟩) (by assumption) ?_
      rotate_left
      · intro w hSw; (try dsimp only at hSw); go_simp <;> with_reducible rfl
      (try simp only [Act.put, List.setIfInBounds_toArray, List.set_cons_zero, List.set_cons_succ])
      refine wpAnyH_take (i := 28) (oi := ({ dst := some 123, op := Op.move (Operand.tmp 122), type := 4, pos := "law.go:33", after := #[{ on := 27, ground := Ground.data }, { on := 25, ground := Ground.chain }], guard := none } : Oper)) (v := ?_) rfl (by kernel_rfl) (by kernel_rfl) (by kernel_rfl) (fun _ _ _ h => h) (Or.inl ⟨by rfl, ?_⟩) (by assumption) ?_
      rotate_left
      · intro w hSw; (try dsimp only at hSw); go_simp <;> with_reducible rfl
      (try simp only [Act.put, List.setIfInBounds_toArray, List.set_cons_zero, List.set_cons_succ])
      refine wpAnyH_take (i := 29) (oi := ({ dst := some 124, op := Op.load 24 (Operand.tmp 3), type := 24, pos := "law.go:33", after := #[{ on := 28, ground := Ground.guard }], guard := some (28, false) } : Oper)) (v := ?_) rfl (by kernel_rfl) (by kernel_rfl) (by kernel_rfl) (fun _ _ _ h => h) (Or.inl ⟨by rfl, ?_⟩) (by assumption) ?_
      rotate_left
      · intro w hSw; (try dsimp only at hSw); go_simp <;> with_reducible rfl
      (try simp only [Act.put, List.setIfInBounds_toArray, List.set_cons_zero, List.set_cons_succ])
      refine wpAnyH_take (i := 31) (oi := ({ dst := some 126, op := Op.load 24 (Operand.tmp 3), type := 24, pos := "law.go:33", after := #[{ on := 28, ground := Ground.guard }], guard := some (28, false) } : Oper)) (v := ?_) rfl (by kernel_rfl) (by kernel_rfl) (by kernel_rfl) (fun _ _ _ h => h) (Or.inl ⟨by rfl, ?_⟩) (by assumption) ?_
      rotate_left
      · intro w hSw; (try dsimp only at hSw); go_simp <;> with_reducible rfl
      (try simp only [Act.put, List.setIfInBounds_toArray, List.set_cons_zero, List.set_cons_succ])
      refine wpAnyH_ready (rs := [30]) (by kernel_rfl) (by simp) ?_
      refine AllReadyH.cons (o := ({ dst := some 125, op := Op.call { callee := Callee.value (Operand.func 16), args := #[Operand.tmp 124], argTypes := #[24] }, type := 3, pos := "law.go:33", after := #[{ on := 29, ground := Ground.data }, { on := 28, ground := Ground.chain }, { on := 28, ground := Ground.guard }], guard := some (28, false) } : Oper)) rfl (fun K hK => ?_) ?_
      rotate_left
      · exact AllReadyH.nil
      go_simp
      go_at_call 16
      with_reducible refine (CD.out _ hB3).mono ?_
      rintro e y4 ⟨rfl, hq4⟩
      have hB4 := below_step hB3 hq4
      clear hHeld
      first | (with_reducible refine hK.out _ _ ?_ (fun hHeld => ?_)) | (go_wp2_with fail; with_reducible refine hK.out _ _ ?_ (fun hHeld => ?_))
      · exact ⟨cell_below hB4 x0, cell_below hB4 x1, cell_below hB4 x2, cell_below hB4 x3, cell_below hB4 q0, cell_below hB4 q1, cell_below hB4 q2, cell_below hB4 z0, cell_below hB4 z1, cell_below hB4 z2, hB4⟩
      clear hK K
      (try simp only [Act.put, List.setIfInBounds_toArray, List.set_cons_zero, List.set_cons_succ])
      refine wpAnyH_ready (rs := [32]) (by kernel_rfl) (by simp) ?_
      refine AllReadyH.cons (o := ({ dst := some 127, op := Op.call { callee := Callee.value (Operand.func 17), args := #[Operand.tmp 126], argTypes := #[24] }, type := 3, pos := "law.go:33", after := #[{ on := 31, ground := Ground.data }, { on := 30, ground := Ground.chain }, { on := 28, ground := Ground.guard }], guard := some (28, false) } : Oper)) rfl (fun K hK => ?_) ?_
      rotate_left
      · exact AllReadyH.nil
      go_simp
      go_at_call 17
      with_reducible refine (CDR.out _ hB4).mono ?_
      rintro e y5 ⟨rfl, hq5⟩
      have hB5 := below_step hB4 hq5
      clear hHeld
      first | (with_reducible refine hK.out _ _ ?_ (fun hHeld => ?_)) | (go_wp2_with fail; with_reducible refine hK.out _ _ ?_ (fun hHeld => ?_))
      · exact ⟨cell_below hB5 x0, cell_below hB5 x1, cell_below hB5 x2, cell_below hB5 x3, cell_below hB5 q0, cell_below hB5 q1, cell_below hB5 q2, cell_below hB5 z0, cell_below hB5 z1, cell_below hB5 z2, hB5⟩
      clear hK K
      (try simp only [Act.put, List.setIfInBounds_toArray, List.set_cons_zero, List.set_cons_succ])
      refine wpAnyH_take (i := 33) (oi := ({ dst := some 128, op := Op.binOp BinOp.neq 3 (Operand.tmp 125) (Operand.tmp 127) 3, type := 4, pos := "law.go:33", after := #[{ on := 30, ground := Ground.data }, { on := 32, ground := Ground.data }, { on := 28, ground := Ground.guard }], guard := some (28, false) } : Oper)) (v := ?_) rfl (by kernel_rfl) (by kernel_rfl) (by kernel_rfl) (fun _ _ _ h => h) (Or.inl ⟨by rfl, ?_⟩) (by assumption) ?_
      rotate_left
      · intro w hSw; (try dsimp only at hSw); go_simp <;> with_reducible rfl
      (try simp only [Act.put, List.setIfInBounds_toArray, List.set_cons_zero, List.set_cons_succ])
      refine wpAnyH_take (i := 34) (oi := ({ dst := some 129, op := Op.pick (Operand.tmp 123) (Operand.const (Value.bool true)) (Operand.tmp 128), type := 4, pos := "law.go:33", after := #[{ on := 28, ground := Ground.data }, { on := 33, ground := Ground.data }], guard := none } : Oper)) (v := ?_) rfl (by kernel_rfl) (by kernel_rfl) (by kernel_rfl) (fun _ _ _ h => h) (Or.inl ⟨by rfl, ?_⟩) (by assumption) ?_
      rotate_left
      · intro w hSw; (try dsimp only at hSw); go_simp <;> with_reducible rfl
      (try simp only [Act.put, List.setIfInBounds_toArray, List.set_cons_zero, List.set_cons_succ])
      refine wpAnyH_take (i := 35) (oi := ({ dst := some 130, op := Op.move (Operand.tmp 129), type := 4, pos := "law.go:33", after := #[{ on := 34, ground := Ground.data }, { on := 32, ground := Ground.chain }], guard := none } : Oper)) (v := ?_) rfl (by kernel_rfl) (by kernel_rfl) (by kernel_rfl) (fun _ _ _ h => h) (Or.inl ⟨by rfl, ?_⟩) (by assumption) ?_
      rotate_left
      · intro w hSw; (try dsimp only at hSw); go_simp <;> with_reducible rfl
      (try simp only [Act.put, List.setIfInBounds_toArray, List.set_cons_zero, List.set_cons_succ])
      refine wpAnyH_take (i := 36) (oi := ({ dst := some 131, op := Op.load 27 (Operand.tmp 4), type := 27, pos := "law.go:33", after := #[{ on := 35, ground := Ground.guard }], guard := some (35, false) } : Oper)) (v := ?_) rfl (by kernel_rfl) (by kernel_rfl) (by kernel_rfl) (fun _ _ _ h => h) (Or.inl ⟨by rfl, ?_⟩) (by assumption) ?_
      rotate_left
      · intro w hSw; (try dsimp only at hSw); go_simp <;> with_reducible rfl
      (try simp only [Act.put, List.setIfInBounds_toArray, List.set_cons_zero, List.set_cons_succ])
      refine wpAnyH_take (i := 38) (oi := ({ dst := some 133, op := Op.load 27 (Operand.tmp 4), type := 27, pos := "law.go:33", after := #[{ on := 35, ground := Ground.guard }], guard := some (35, false) } : Oper)) (v := ?_) rfl (by kernel_rfl) (by kernel_rfl) (by kernel_rfl) (fun _ _ _ h => h) (Or.inl ⟨by rfl, ?_⟩) (by assumption) ?_
      rotate_left
      · intro w hSw; (try dsimp only at hSw); go_simp <;> with_reducible rfl
      (try simp only [Act.put, List.setIfInBounds_toArray, List.set_cons_zero, List.set_cons_succ])
      refine wpAnyH_ready (rs := [37]) (by kernel_rfl) (by simp) ?_
      refine AllReadyH.cons (o := ({ dst := some 132, op := Op.call { callee := Callee.value (Operand.func 18), args := #[Operand.tmp 131], argTypes := #[27] }, type := 3, pos := "law.go:33", after := #[{ on := 36, ground := Ground.data }, { on := 35, ground := Ground.chain }, { on := 35, ground := Ground.guard }], guard := some (35, false) } : Oper)) rfl (fun K hK => ?_) ?_
      rotate_left
      · exact AllReadyH.nil
      go_simp
      go_at_call 18
      with_reducible refine (CC.out _ hB5).mono ?_
      rintro e y6 ⟨rfl, hq6⟩
      have hB6 := below_step hB5 hq6
      clear hHeld
      first | (with_reducible refine hK.out _ _ ?_ (fun hHeld => ?_)) | (go_wp2_with fail; with_reducible refine hK.out _ _ ?_ (fun hHeld => ?_))
      · exact ⟨cell_below hB6 x0, cell_below hB6 x1, cell_below hB6 x2, cell_below hB6 x3, cell_below hB6 q0, cell_below hB6 q1, cell_below hB6 q2, cell_below hB6 z0, cell_below hB6 z1, cell_below hB6 z2, hB6⟩
      clear hK K
      (try simp only [Act.put, List.setIfInBounds_toArray, List.set_cons_zero, List.set_cons_succ])
      refine wpAnyH_ready (rs := [39]) (by kernel_rfl) (by simp) ?_
      refine AllReadyH.cons (o := ({ dst := some 134, op := Op.call { callee := Callee.value (Operand.func 19), args := #[Operand.tmp 133], argTypes := #[27] }, type := 3, pos := "law.go:33", after := #[{ on := 38, ground := Ground.data }, { on := 37, ground := Ground.chain }, { on := 35, ground := Ground.guard }], guard := some (35, false) } : Oper)) rfl (fun K hK => ?_) ?_
      rotate_left
      · exact AllReadyH.nil
      go_simp
      go_at_call 19
      with_reducible refine (CCR.out _ hB6).mono ?_
      rintro e y7 ⟨rfl, hq7⟩
      have hB7 := below_step hB6 hq7
      clear hHeld
      first | (with_reducible refine hK.out _ _ ?_ (fun hHeld => ?_)) | (go_wp2_with fail; with_reducible refine hK.out _ _ ?_ (fun hHeld => ?_))
      · exact ⟨cell_below hB7 x0, cell_below hB7 x1, cell_below hB7 x2, cell_below hB7 x3, cell_below hB7 q0, cell_below hB7 q1, cell_below hB7 q2, cell_below hB7 z0, cell_below hB7 z1, cell_below hB7 z2, hB7⟩
      clear hK K
      (try simp only [Act.put, List.setIfInBounds_toArray, List.set_cons_zero, List.set_cons_succ])
      refine wpAnyH_take (i := 40) (oi := ({ dst := some 135, op := Op.binOp BinOp.neq 3 (Operand.tmp 132) (Operand.tmp 134) 3, type := 4, pos := "law.go:33", after := #[{ on := 37, ground := Ground.data }, { on := 39, ground := Ground.data }, { on := 35, ground := Ground.guard }], guard := some (35, false) } : Oper)) (v := ?_) rfl (by kernel_rfl) (by kernel_rfl) (by kernel_rfl) (fun _ _ _ h => h) (Or.inl ⟨by rfl, ?_⟩) (by assumption) ?_
      rotate_left
      · intro w hSw; (try dsimp only at hSw); go_simp <;> with_reducible rfl
      (try simp only [Act.put, List.setIfInBounds_toArray, List.set_cons_zero, List.set_cons_succ])
      refine wpAnyH_take (i := 41) (oi := ({ dst := some 136, op := Op.pick (Operand.tmp 130) (Operand.const (Value.bool true)) (Operand.tmp 135), type := 4, pos := "law.go:33", after := #[{ on := 35, ground := Ground.data }, { on := 40, ground := Ground.data }], guard := none } : Oper)) (v := ?_) rfl (by kernel_rfl) (by kernel_rfl) (by kernel_rfl) (fun _ _ _ h => h) (Or.inl ⟨by rfl, ?_⟩) (by assumption) ?_
      rotate_left
      · intro w hSw; (try dsimp only at hSw); go_simp <;> with_reducible rfl
      (try simp only [Act.put, List.setIfInBounds_toArray, List.set_cons_zero, List.set_cons_succ])
      refine wpAnyH_done (by kernel_rfl) ?_ _
      have BX := hid (below_step BW.out hB7)
      clear hHeld CE CER CH CHR CD CDR CC CCR x0 x1 x2 x3 q0 q1 q2 z0 z1 z2
      obtain ⟨wx, hwx⟩ : ∃ wx, y7 = wx := ⟨_, rfl⟩
      rw [hwx] at BX ⊢
      clear hwx hsd hB0 hB1 hB2 hB3 hB4 hB5 hB6 hB7 hq0 hq1 hq2 hq3 hq4 hq5 hq6 hq7
      obtain ⟨x0, x1, x2, x3, q0, q1, q2, z0, z1, z2⟩ := PK.out _ BX.out
      go_upto_region 13 with fail
      have hsd := (Below.refl wx.heap.size wx).drew
      refine wp_region_held_drew (S := fun W' => (W'.cell? ⟨w.heap.size, 0, none⟩ = some (.int .i64 o) ∧ W'.cell? ⟨w.heap.size, 1, none⟩ = some (.int .i64 n) ∧ W'.cell? ⟨w.heap.size, 2, none⟩ = some (.int .i64 v) ∧ W'.cell? ⟨w.heap.size, 3, none⟩ = some (.slice a1 l1 c1) ∧ W'.cell? ⟨w.heap.size + 1, 0, none⟩ = some (.int .i64 co) ∧ W'.cell? ⟨w.heap.size + 1, 1, none⟩ = some (.slice b1 m1 d1) ∧ W'.cell? ⟨w.heap.size + 1, 2, none⟩ = some (.slice b2 m2 d2) ∧ W'.cell? ⟨w.heap.size + 1 + 1, 0, none⟩ = some (.slice p1 n1 k1) ∧ W'.cell? ⟨w.heap.size + 1 + 1, 1, none⟩ = some (.slice p2 n2 k2) ∧ W'.cell? ⟨w.heap.size + 1 + 1, 2, none⟩ = some (.slice p3 n3 k3) ∧ Below wx.heap.size wx W')) (by kernel_rfl) ?_ (fun hHeld => ?_)
      · exact ⟨x0, x1, x2, x3, q0, q1, q2, z0, z1, z2, hsd⟩
      refine wpAnyH_take (i := 0) (oi := ({ dst := some 137, op := Op.load 24 (Operand.tmp 3), type := 24, pos := "law.go:36", after := #[], guard := none } : Oper)) (v := ?_) rfl (by kernel_rfl) (by kernel_rfl) (by kernel_rfl) (fun _ _ _ h => h) (Or.inl ⟨by rfl, ?_⟩) (by assumption) ?_
      rotate_left
      · intro w hSw; (try dsimp only at hSw); go_simp <;> with_reducible rfl
      (try simp only [Act.put, List.setIfInBounds_toArray, List.set_cons_zero, List.set_cons_succ])
      refine wpAnyH_take (i := 2) (oi := ({ dst := some 139, op := Op.load 24 (Operand.tmp 3), type := 24, pos := "law.go:36", after := #[], guard := none } : Oper)) (v := ?_) rfl (by kernel_rfl) (by kernel_rfl) (by kernel_rfl) (fun _ _ _ h => h) (Or.inl ⟨by rfl, ?_⟩) (by assumption) ?_
      rotate_left
      · intro w hSw; (try dsimp only at hSw); go_simp <;> with_reducible rfl
      (try simp only [Act.put, List.setIfInBounds_toArray, List.set_cons_zero, List.set_cons_succ])
      refine wpAnyH_ready (rs := [1]) (by kernel_rfl) (by simp) ?_
      refine AllReadyH.cons (o := ({ dst := some 138, op := Op.call { callee := Callee.value (Operand.func 21), args := #[Operand.tmp 137], argTypes := #[24] }, type := 28, pos := "law.go:36", after := #[{ on := 0, ground := Ground.data }], guard := none } : Oper)) rfl (fun K hK => ?_) ?_
      rotate_left
      · exact AllReadyH.nil
      go_simp
      go_at_call 21
      with_reducible refine (reads_any t _ _ (exIn_below (below_step BX.out hsd) _ _ T0.out) (by have := HT.out; omega)).mono ?_
      rintro e y0 ⟨vr1, rfl, hI1, hq0⟩
      have hB0 := below_step hsd hq0
      clear hHeld
      first | (with_reducible refine hK.out _ _ ?_ (fun hHeld => ?_)) | (go_wp2_with fail; with_reducible refine hK.out _ _ ?_ (fun hHeld => ?_))
      · exact ⟨cell_below hB0 x0, cell_below hB0 x1, cell_below hB0 x2, cell_below hB0 x3, cell_below hB0 q0, cell_below hB0 q1, cell_below hB0 q2, cell_below hB0 z0, cell_below hB0 z1, cell_below hB0 z2, hB0⟩
      clear hK K
      (try simp only [Act.put, List.setIfInBounds_toArray, List.set_cons_zero, List.set_cons_succ])
      refine wpAnyH_ready (rs := [3]) (by kernel_rfl) (by simp) ?_
      refine AllReadyH.cons (o := ({ dst := some 140, op := Op.call { callee := Callee.value (Operand.func 22), args := #[Operand.tmp 139], argTypes := #[24] }, type := 28, pos := "law.go:36", after := #[{ on := 2, ground := Ground.data }, { on := 1, ground := Ground.chain }], guard := none } : Oper)) rfl (fun K hK => ?_) ?_
      rotate_left
      · exact AllReadyH.nil
      go_simp
      go_at_call 22
      with_reducible refine ((RReadsOk.use (rreads_any t)) (by have := HT.out; omega) _ _ (exIn_below (below_step BX.out hB0) _ _ T0.out)).mono ?_
      rintro e y1 ⟨vr2, rfl, hI2, hq1⟩
      have hB1 := below_step hB0 hq1
      clear hHeld
      first | (with_reducible refine hK.out _ _ ?_ (fun hHeld => ?_)) | (go_wp2_with fail; with_reducible refine hK.out _ _ ?_ (fun hHeld => ?_))
      · exact ⟨cell_below hB1 x0, cell_below hB1 x1, cell_below hB1 x2, cell_below hB1 x3, cell_below hB1 q0, cell_below hB1 q1, cell_below hB1 q2, cell_below hB1 z0, cell_below hB1 z1, cell_below hB1 z2, hB1⟩
      clear hK K
      (try simp only [Act.put, List.setIfInBounds_toArray, List.set_cons_zero, List.set_cons_succ])
      refine wpAnyH_ready (rs := [4]) (by kernel_rfl) (by simp) ?_
      refine AllReadyH.cons (o := ({ dst := some 141, op := Op.call { callee := Callee.value (Operand.func 20), args := #[Operand.tmp 138, Operand.tmp 140], argTypes := #[28, 28] }, type := 4, pos := "law.go:36", after := #[{ on := 1, ground := Ground.data }, { on := 3, ground := Ground.data }, { on := 3, ground := Ground.chain }], guard := none } : Oper)) rfl (fun K hK => ?_) ?_
      rotate_left
      · exact AllReadyH.nil
      go_simp
      go_at_call 20
      with_reducible refine (rsame_any (sortU (rdE t)) _ _ _ (intsIn_below hq1 hI1) hI2 (by have := HT.out; have := sortU_len (rdE t); omega)).mono ?_
      rintro e y2 ⟨rfl, hq2⟩
      have hB2 := below_step hB1 hq2
      clear hHeld
      first | (with_reducible refine hK.out _ _ ?_ (fun hHeld => ?_)) | (go_wp2_with fail; with_reducible refine hK.out _ _ ?_ (fun hHeld => ?_))
      · exact ⟨cell_below hB2 x0, cell_below hB2 x1, cell_below hB2 x2, cell_below hB2 x3, cell_below hB2 q0, cell_below hB2 q1, cell_below hB2 q2, cell_below hB2 z0, cell_below hB2 z1, cell_below hB2 z2, hB2⟩
      clear hK K
      (try simp only [Act.put, List.setIfInBounds_toArray, List.set_cons_zero, List.set_cons_succ])
      refine wpAnyH_take (i := 5) (oi := ({ dst := some 142, op := Op.move (Operand.tmp 141), type := 4, pos := "law.go:36", after := #[{ on := 4, ground := Ground.data }, { on := 4, ground := Ground.chain }], guard := none } : Oper)) (v := ?_) rfl (by kernel_rfl) (by kernel_rfl) (by kernel_rfl) (fun _ _ _ h => h) (Or.inl ⟨by rfl, ?_⟩) (by assumption) ?_
      rotate_left
      · intro w hSw; (try dsimp only at hSw); go_simp <;> with_reducible rfl
      (try simp only [Act.put, List.setIfInBounds_toArray, List.set_cons_zero, List.set_cons_succ])
      refine wpAnyH_take (i := 6) (oi := ({ dst := some 143, op := Op.load 27 (Operand.tmp 4), type := 27, pos := "law.go:36", after := #[{ on := 5, ground := Ground.guard }], guard := some (5, true) } : Oper)) (v := ?_) rfl (by kernel_rfl) (by kernel_rfl) (by kernel_rfl) (fun _ _ _ h => h) (Or.inl ⟨by rfl, ?_⟩) (by assumption) ?_
      rotate_left
      · intro w hSw; (try dsimp only at hSw); go_simp <;> with_reducible rfl
      (try simp only [Act.put, List.setIfInBounds_toArray, List.set_cons_zero, List.set_cons_succ])
      refine wpAnyH_take (i := 8) (oi := ({ dst := some 145, op := Op.load 27 (Operand.tmp 4), type := 27, pos := "law.go:36", after := #[{ on := 5, ground := Ground.guard }], guard := some (5, true) } : Oper)) (v := ?_) rfl (by kernel_rfl) (by kernel_rfl) (by kernel_rfl) (fun _ _ _ h => h) (Or.inl ⟨by rfl, ?_⟩) (by assumption) ?_
      rotate_left
      · intro w hSw; (try dsimp only at hSw); go_simp <;> with_reducible rfl
      (try simp only [Act.put, List.setIfInBounds_toArray, List.set_cons_zero, List.set_cons_succ])
      refine wpAnyH_ready (rs := [7]) (by kernel_rfl) (by simp) ?_
      refine AllReadyH.cons (o := ({ dst := some 144, op := Op.call { callee := Callee.value (Operand.func 23), args := #[Operand.tmp 143], argTypes := #[27] }, type := 28, pos := "law.go:36", after := #[{ on := 6, ground := Ground.data }, { on := 5, ground := Ground.chain }, { on := 5, ground := Ground.guard }], guard := some (5, true) } : Oper)) rfl (fun K hK => ?_) ?_
      rotate_left
      · exact AllReadyH.nil
      go_simp
      go_at_call 23
      with_reducible refine (readsC_any d _ _ (cdIn_below (below_step BX.out hB2) _ _ D0.out) (by have := HD.out; omega)).mono ?_
      rintro e y3 ⟨vr3, rfl, hI3, hq3⟩
      have hB3 := below_step hB2 hq3
      clear hHeld
      first | (with_reducible refine hK.out _ _ ?_ (fun hHeld => ?_)) | (go_wp2_with fail; with_reducible refine hK.out _ _ ?_ (fun hHeld => ?_))
      · exact ⟨cell_below hB3 x0, cell_below hB3 x1, cell_below hB3 x2, cell_below hB3 x3, cell_below hB3 q0, cell_below hB3 q1, cell_below hB3 q2, cell_below hB3 z0, cell_below hB3 z1, cell_below hB3 z2, hB3⟩
      clear hK K
      (try simp only [Act.put, List.setIfInBounds_toArray, List.set_cons_zero, List.set_cons_succ])
      refine wpAnyH_ready (rs := [9]) (by kernel_rfl) (by simp) ?_
      refine AllReadyH.cons (o := ({ dst := some 146, op := Op.call { callee := Callee.value (Operand.func 24), args := #[Operand.tmp 145], argTypes := #[27] }, type := 28, pos := "law.go:36", after := #[{ on := 8, ground := Ground.data }, { on := 7, ground := Ground.chain }, { on := 5, ground := Ground.guard }], guard := some (5, true) } : Oper)) rfl (fun K hK => ?_) ?_
      rotate_left
      · exact AllReadyH.nil
      go_simp
      go_at_call 24
      with_reducible refine ((RReadsCOk.use (rreadsC_any d)) (by have := HD.out; omega) _ _ (cdIn_below (below_step BX.out hB3) _ _ D0.out)).mono ?_
      rintro e y4 ⟨vr4, rfl, hI4, hq4⟩
      have hB4 := below_step hB3 hq4
      clear hHeld
      first | (with_reducible refine hK.out _ _ ?_ (fun hHeld => ?_)) | (go_wp2_with fail; with_reducible refine hK.out _ _ ?_ (fun hHeld => ?_))
      · exact ⟨cell_below hB4 x0, cell_below hB4 x1, cell_below hB4 x2, cell_below hB4 x3, cell_below hB4 q0, cell_below hB4 q1, cell_below hB4 q2, cell_below hB4 z0, cell_below hB4 z1, cell_below hB4 z2, hB4⟩
      clear hK K
      (try simp only [Act.put, List.setIfInBounds_toArray, List.set_cons_zero, List.set_cons_succ])
      refine wpAnyH_ready (rs := [10]) (by kernel_rfl) (by simp) ?_
      refine AllReadyH.cons (o := ({ dst := some 147, op := Op.call { callee := Callee.value (Operand.func 20), args := #[Operand.tmp 144, Operand.tmp 146], argTypes := #[28, 28] }, type := 4, pos := "law.go:36", after := #[{ on := 7, ground := Ground.data }, { on := 9, ground := Ground.data }, { on := 9, ground := Ground.chain }, { on := 5, ground := Ground.guard }], guard := some (5, true) } : Oper)) rfl (fun K hK => ?_) ?_
      rotate_left
      · exact AllReadyH.nil
      go_simp
      go_at_call 20
      with_reducible refine (rsame_any (sortU (rdC d)) _ _ _ (intsIn_below hq4 hI3) hI4 (by have := HD.out; have := sortU_len (rdC d); omega)).mono ?_
      rintro e y5 ⟨rfl, hq5⟩
      have hB5 := below_step hB4 hq5
      clear hHeld
      first | (with_reducible refine hK.out _ _ ?_ (fun hHeld => ?_)) | (go_wp2_with fail; with_reducible refine hK.out _ _ ?_ (fun hHeld => ?_))
      · exact ⟨cell_below hB5 x0, cell_below hB5 x1, cell_below hB5 x2, cell_below hB5 x3, cell_below hB5 q0, cell_below hB5 q1, cell_below hB5 q2, cell_below hB5 z0, cell_below hB5 z1, cell_below hB5 z2, hB5⟩
      clear hK K
      (try simp only [Act.put, List.setIfInBounds_toArray, List.set_cons_zero, List.set_cons_succ])
      refine wpAnyH_take (i := 11) (oi := ({ dst := some 148, op := Op.pick (Operand.tmp 142) (Operand.tmp 147) (Operand.const (Value.bool false)), type := 4, pos := "law.go:36", after := #[{ on := 5, ground := Ground.data }, { on := 10, ground := Ground.data }], guard := none } : Oper)) (v := ?_) rfl (by kernel_rfl) (by kernel_rfl) (by kernel_rfl) (fun _ _ _ h => h) (Or.inl ⟨by rfl, ?_⟩) (by assumption) ?_
      rotate_left
      · intro w hSw; (try dsimp only at hSw); go_simp <;> with_reducible rfl
      (try simp only [Act.put, List.setIfInBounds_toArray, List.set_cons_zero, List.set_cons_succ])
      refine wpAnyH_take (i := 12) (oi := ({ dst := some 149, op := Op.move (Operand.tmp 148), type := 4, pos := "law.go:36", after := #[{ on := 11, ground := Ground.data }, { on := 10, ground := Ground.chain }], guard := none } : Oper)) (v := ?_) rfl (by kernel_rfl) (by kernel_rfl) (by kernel_rfl) (fun _ _ _ h => h) (Or.inl ⟨by rfl, ?_⟩) (by assumption) ?_
      rotate_left
      · intro w hSw; (try dsimp only at hSw); go_simp <;> with_reducible rfl
      (try simp only [Act.put, List.setIfInBounds_toArray, List.set_cons_zero, List.set_cons_succ])
      refine wpAnyH_take (i := 13) (oi := ({ dst := some 150, op := Op.move (Operand.tmp 7), type := 4, pos := "law.go:36", after := #[{ on := 12, ground := Ground.guard }], guard := some (12, true) } : Oper)) (v := ?_) rfl (by kernel_rfl) (by kernel_rfl) (by kernel_rfl) (fun _ _ _ h => h) (Or.inl ⟨by rfl, ?_⟩) (by assumption) ?_
      rotate_left
      · intro w hSw; (try dsimp only at hSw); go_simp <;> with_reducible rfl
      (try simp only [Act.put, List.setIfInBounds_toArray, List.set_cons_zero, List.set_cons_succ])
      refine wpAnyH_take (i := 14) (oi := ({ dst := some 151, op := Op.pick (Operand.tmp 149) (Operand.tmp 150) (Operand.const (Value.bool false)), type := 4, pos := "law.go:36", after := #[{ on := 12, ground := Ground.data }, { on := 13, ground := Ground.data }], guard := none } : Oper)) (v := ?_) rfl (by kernel_rfl) (by kernel_rfl) (by kernel_rfl) (fun _ _ _ h => h) (Or.inl ⟨by rfl, ?_⟩) (by assumption) ?_
      rotate_left
      · intro w hSw; (try dsimp only at hSw); go_simp <;> with_reducible rfl
      (try simp only [Act.put, List.setIfInBounds_toArray, List.set_cons_zero, List.set_cons_succ])
      refine wpAnyH_take (i := 15) (oi := ({ dst := some 6, op := Op.assign (Operand.tmp 151), type := 4, pos := "law.go:36", after := #[{ on := 14, ground := Ground.data }, { on := 12, ground := Ground.chain }, { on := 0, ground := Ground.phase }, { on := 1, ground := Ground.phase }, { on := 2, ground := Ground.phase }, { on := 3, ground := Ground.phase }, { on := 4, ground := Ground.phase }, { on := 5, ground := Ground.phase }, { on := 6, ground := Ground.phase }, { on := 7, ground := Ground.phase }, { on := 8, ground := Ground.phase }, { on := 9, ground := Ground.phase }, { on := 10, ground := Ground.phase }, { on := 11, ground := Ground.phase }, { on := 12, ground := Ground.phase }, { on := 13, ground := Ground.phase }, { on := 14, ground := Ground.phase }], guard := none } : Oper)) (v := ?_) rfl (by kernel_rfl) (by kernel_rfl) (by kernel_rfl) (fun _ _ _ h => h) (Or.inl ⟨by rfl, ?_⟩) (by assumption) ?_
      rotate_left
      · intro w hSw; (try dsimp only at hSw); go_simp <;> with_reducible rfl
      (try simp only [Act.put, List.setIfInBounds_toArray, List.set_cons_zero, List.set_cons_succ])
      refine wpAnyH_done (by kernel_rfl) ?_ _
      have HE := hid (below_step (below_step B0.out BX.out) hB5)
      clear hHeld
      go_wp2_with fail
      go_ret
      exact ⟨rfl, HE.out⟩


theorem own : ownKnob Try.prog.godebug = none := by kernel_rfl
theorem match_all (t : Ex) (d : Cd) (V L U : List Int) (x y z0 z1 z2 : Value) (w : World) (ht1 : exT t ≤ 1048576) (hd1 : cdT d ≤ 1048576) (ht : exIn w t x) (hd : cdIn w d y) (hV : intsIn w V z0) (hL : intsIn w L z1) (hU : intsIn w U z2) (nV : V.length ≤ 1048576) (nL : L.length ≤ 1048576) (nU : U.length ≤ 1048576) :
    Calls Try.prog 3 #[x, y, .agg #[z0, z1, z2]] w fun e w' => e = .returned (.bool true) ∧ Below w.heap.size w w' := by
  obtain ⟨o, n, v, l⟩ := t
  obtain ⟨co, la, lc⟩ := d
  have ht2 := ht
  have hd2 := hd
  have hV2 := hV
  have hL2 := hL
  have hU2 := hU
  rw [exIn] at ht
  rw [cdIn] at hd
  obtain ⟨oa, cap, rfl, -⟩ := ht
  obtain ⟨ob, oc, cb, cc, rfl, -⟩ := hd
  obtain ⟨p1, c1, rfl, -⟩ := hV
  obtain ⟨p2, c2, rfl, -⟩ := hL
  obtain ⟨p3, c3, rfl, -⟩ := hU
  exact match_walk _ _ V L U _ _ _ _ _ _ _ _ _ _ _ _ _ p1 p2 p3 _ _ _ _ _ _ w ht1 hd1 ht2 hd2 hV2 hL2 hU2 nV nL nU rfl
set_option maxRecDepth 100000 in
theorem open_three_ints {H : Type} {enc : TypeId × Value → H} {W : World} {v : Value} {d : DataW H} {p : List MemPlace} (h : DataW.Trod enc Try.prog W 0 (fun _ => true) true 29 v d p) :
    ∃ (z0 z1 z2 : Value) (V L U : List Int), v = .agg #[z0, z1, z2] ∧ intsIn W V z0 ∧ intsIn W L z1 ∧ intsIn W U z2 ∧ V.length + L.length + U.length ≤ Rows.uptoBulk d := by
  obtain ⟨fuel, hf⟩ := h
  obtain ⟨xs, m, -, -, hl, hn, -⟩ := DataW.trod_array Try.underlying29 hf
  have c33 : Try.prog.cellsOf 29 = 3 := by kernel_rfl
  have c1 : Try.prog.cellsOf 28 = 1 := by kernel_rfl
  have hl2 : v.cells.toList.length = 3 := hl.trans c33
  clear hl hn
  have key : ∀ cs : List Value, cs.length = 3 → DataW.trod enc Try.prog W 0 (fun _ => true) true fuel 29 cs = some (d, p) →
      ∃ (z0 z1 z2 : Value) (V L U : List Int), cs = [z0, z1, z2] ∧ intsIn W V z0 ∧ intsIn W L z1 ∧ intsIn W U z2 ∧ V.length + L.length + U.length ≤ Rows.uptoBulk d := by
    intro cs hcs k
    match cs, hcs with
    | [x0, x1, x2], _ =>
      obtain ⟨y0, y1, y2, n, hx, k0, k1, k2⟩ := trod_array3 Try.underlying29 c1 k
      obtain ⟨V, hV, nV⟩ := ints_of k0
      obtain ⟨L, hL, nL⟩ := ints_of k1
      obtain ⟨U, hU, nU⟩ := ints_of k2
      obtain ⟨rfl, -⟩ := Prod.mk.inj hx
      exact ⟨x0, x1, x2, V, L, U, rfl, hV, hL, hU, by simp only [Rows.uptoBulk, Rows.uptoBulkAll]; omega⟩
  cases v with
  | agg cs =>
    obtain ⟨z0, z1, z2, V, L, U, hcs, ha, hb, hc, hd⟩ := key cs.toList hl2 hf
    exact ⟨z0, z1, z2, V, L, U, by rw [show cs = #[z0, z1, z2] from Array.ext' hcs], ha, hb, hc, hd⟩
  | _ => exact absurd hl2 (by simp [Value.cells])

theorem numMatchesReference_contract (H : Type) (enc : TypeId × Value → H) (W : World) (base : Nat) (args : Array Value) (ds gs : List (DataW H)) (before : List MemPlace)
    (hval : ∀ (j : Nat) t v, Try.f3.params[j]? = some t → args[j]? = some v → Value.okWide Try.prog W .any base t v)
    (hW : DataW.Whole enc Try.prog Try.f3.params.toList Rows.numMatchesReferenceSpec.vars false W args.toList ds gs before) (hk : Rows.uptoSmall H (ds ++ gs) = true) :
    Calls Try.prog 3 args W fun e W' => ∃ v, e = .returned v ∧ Rows.numMatchesReferenceSpec.post enc Try.prog Try.f3 false true false false W args v W' := by
  have hW' := hW
  obtain ⟨p, q, hA0, hV, rfl, hfz, hnd⟩ := hW
  have hA : DataW.TrodAll enc Try.prog W 0 (fun _ => true) true Try.f3.params.toList args.toList ds p := hA0
  rw [Try.params3] at hA hval
  obtain ⟨v0, vs0, d0, ds0, p0, q0, hargs, rfl, rfl, h0, r0⟩ := trodAll_cons hA
  obtain ⟨v1, vs1, d1, ds1, p1, q1, rfl, rfl, rfl, h1, r1⟩ := trodAll_cons r0
  obtain ⟨v2, vs2, d2, ds2, p2, q2, rfl, rfl, rfl, h2, r2⟩ := trodAll_cons r1
  obtain ⟨rfl, rfl, rfl⟩ := trodAll_nil r2
  obtain rfl : args = #[v0, v1, v2] := by cases args; simp_all
  obtain ⟨rfl, rfl⟩ := trodVars_none hV
  have hbulk : Rows.uptoBulkAll ([d0, d1, d2] ++ []) ≤ 1048576 := of_decide_eq_true hk
  simp only [List.append_nil, Rows.uptoBulkAll] at hbulk
  obtain ⟨t0, in0, sz0⟩ := open_ex (hval 0 _ v0 rfl rfl) h0
  obtain ⟨t1, in1, sz1⟩ := open_cd (hval 1 _ v1 rfl rfl) h1
  obtain ⟨z2, y2, x2, V2, L2, U2, rfl, inV2, inL2, inU2, sz2⟩ := open_three_ints h2
  refine (match_all t0 t1 V2 L2 U2 v0 v1 z2 y2 x2 W (by omega) (by omega) in0 in1 inV2 inL2 inU2 (by omega) (by omega) (by omega)).mono fun e W' ⟨he, hg⟩ => ?_
  subst he
  exact ⟨_, rfl, post_true (T := 4) (by kernel_rfl) (by kernel_rfl) rfl rfl (by kernel_rfl) hW' hg rfl⟩

set_option maxRecDepth 100000 in
theorem numMatchesReference_lifted (os : Os) (started : os.Started) (H : Type) (enc : TypeId × Value → H) (F : Stop.Interp) :
    ReturnsInHanded {} Try.checked os 3 .any ((Rows.OpenSpec.upto Rows.numMatchesReferenceSpec).pre6 enc Try.prog Try.f3 Rows.numMatchesReferenceUptoRow.domain false) (((Rows.OpenSpec.upto Rows.numMatchesReferenceSpec).at F).post enc Try.prog Try.f3 false true false false) := by
  refine returnsInHanded_of_cond (C := Try.checked) (s := Rows.OpenSpec.upto Rows.numMatchesReferenceSpec) (k := Rows.uptoSmall) rfl own started (by kernel_rfl) Try.func3
    (OpenSpec.witness (enc := enc) (C := Try.checked) (s := Rows.OpenSpec.upto Rows.numMatchesReferenceSpec) (k := Rows.uptoSmall) rfl false ⟨#[], #[.agg #[.int .i64 0, .int .i64 0, .int .i64 0, .slice none 0 0], .agg #[.int .i64 0, .slice none 0 0, .slice none 0 0], .agg #[.slice none 0 0, .slice none 0 0, .slice none 0 0]], []⟩ 8 (by kernel_rfl) (by kernel_rfl) (by kernel_rfl)
      (x := ([.agg [.lit (.int .i64 0), .lit (.int .i64 0), .lit (.int .i64 0), .nil], .agg [.lit (.int .i64 0), .nil, .nil], .agg [.nil, .nil, .nil]], [], [])) (by kernel_rfl) rfl (by kernel_rfl)) ?_
  intro W base args ds gs before hval hW _ hk _
  exact numMatchesReference_contract H enc W base args ds gs before hval hW hk

theorem numMatchesReference_holds : Rows.NumMatchesReferenceUptoSaid :=
  OpenClaim.holds_of_cond 3 Try.f3 rfl rfl rfl rfl rfl rfl rfl ⟨rfl, rfl, rfl, rfl, rfl⟩ rfl rfl rfl rfl rfl (by kernel_rfl) Try.func3 (by kernel_rfl)
    (of_decide_eq_true (by kernel_rfl)) (by unfold Func.isWrapper; rw [if_neg (of_decide_eq_false (by kernel_rfl))]; exact ⟨rfl, rfl⟩)
    (fun os started H enc _ F => numMatchesReference_lifted os started H enc F)
end Go.Proofs.Ytcjambgbbmffiaa

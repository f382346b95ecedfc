/-
  The law MerkleChanges of package merkle holds: with another number at a place, the path of this place is the same, and leads to the root of the changed list.
  No condition: every input that the row speaks of.
-/
import Derived.Test.YtagpinpelgkjcaaLopens
import Derived.Deep.AppendLies
namespace Go.Proofs.Ytagpinpelgkjcaa
open Go.ChangeShapes Go.WideShapes Go.ChangeAt Go.RowKit
set_option linter.unusedVariables false

theorem same_at {W y : World} (P : List (BitVec 64)) (k : Nat) (p q : Option Addr) (c d : Nat) (hk : P.length = k) (U : Hid (U64At W (.slice p k c) P)) (V : Hid (U64At W (.slice q k d) P)) (hb : Below W.heap.size W y) :
    Calls Try.prog 14 #[.slice p k c, .slice q k d] y fun e w' => e = .returned (.bool true) ∧ Below y.heap.size y w' := by
  have := same_b P P _ _ y (U.out.below hb) (V.out.below hb)
  simpa using this
set_option maxRecDepth 100000 in
set_option maxHeartbeats 4000000 in
theorem changes_walk (l : List (BitVec 64)) (v : Value) (n i : Nat) (hn : n ≤ 65535) (hi : i ≤ 65535) (nw : BitVec 64) (W : World) (hv : U64Big W v l) :
    Calls Try.prog 7 #[v, .agg #[.int .u16 (n : Int), .int .u16 (i : Int)], .int .u64 (nw.toNat : Int)] W fun e w' => e = .returned (.bool true) ∧ Below W.heap.size W w' := by
  obtain ⟨i0, hi0, hz0, hz1, hz2⟩ := info_parts infoU64
  have HV := hid hv
  clear hv
  obtain ⟨N, hN⟩ : ∃ N, 1 + n % 300 = N := ⟨_, rfl⟩
  have hN1 : 1 ≤ N := by omega
  have hN2 : N ≤ 300 := by omega
  obtain ⟨kk, hK⟩ : ∃ kk, i % N = kk := ⟨_, rfl⟩
  have hK1 : kk < N := by rw [← hK]; exact Nat.mod_lt _ hN1
  obtain ⟨L, hL⟩ : ∃ L, growB l N = L := ⟨_, rfl⟩
  have hLl : L.length = N := by rw [← hL]; exact growB_len l N
  obtain ⟨P, hP⟩ : ∃ P, pathB L kk = P := ⟨_, rfl⟩
  obtain ⟨np, hnp⟩ : ∃ np, P.length = np := ⟨_, rfl⟩
  have OP := opens_path L N kk hLl hK1 (by omega)
  rw [hP] at OP
  have hSl : (L.set kk nw).length = N := by rw [List.length_set]; exact hLl
  have OS := opens_path (L.set kk nw) N kk hSl hK1 (by omega)
  rw [path_set L kk nw (by omega), hP] at OS
  have GR := hid (fun (x : Int) (hx : x = (N : Int)) (w : World) (h : Below W.heap.size W w) => hL ▸ grown_v l v N (by omega) hx w (HV.out.below h))
  have hKL : kk < L.length := by omega
  have hKS : kk < (L.set kk nw).length := by omega
  have CK := check_ok (L.set kk nw) kk hKS (by omega)
  rw [path_set L kk nw (by omega), hP, hSl, List.getElem_set_self] at CK
  have HCK := hid CK
  have HX := hid (show (1 : Int) + (n : Int) % 300 = (N : Int) by omega)
  have hKI : (i : Int) % (N : Int) = (kk : Int) := by omega
  have HKI := hid hKI
  have HLl := hid hLl
  have HSl := hid hSl
  have HOP := hid OP.1
  have HPL := hid OP.2
  have HOS := hid OS.1
  have HPS := hid OS.2
  have HNP := hid hnp
  have t1 : ((N : Int) == 0) = false := by rw [beq_eq_false_iff_ne]; omega
  have t3 : (0 : Int) ≤ (kk : Int) := by omega
  have t4 : (kk : Int) < (N : Int) := by omega
  clear hN hK hL hP OP OS hKI hnp hLl hSl CK
  go_enter Try.func7, Try.ntmps7
  go_wp2_with fail
  refine (examples_any _).mono ?_
  rintro e w0 ⟨rfl, hb⟩
  have hbx := hb.block _ (show W.heap.size < _ by simp)
  have B0 := hid (show Below W.heap.size W w0 from (below_a0 W _).trans (hb.mono (by simp)))
  have hx0 : w0.heap[W.heap.size]? = some (.cells #[.int .u16 (n : Int), .int .u16 (i : Int)] 50 (0, 0)) := hbx.trans (World.alloc_heap_new W _)
  have X0 := blk_cell hx0 (j := 0) (v := .int .u16 (n : Int)) rfl
  have X1 := hid (blk_cell hx0 (j := 1) (v := .int .u16 (i : Int)) rfl)
  clear hb hbx hx0
  go_wp2_with fail
  refine (GR.out _ HX.out _ B0.out).mono ?_
  rintro e w1 ⟨p1, c1, rfl, hu1, hb1⟩
  have U1 := hid hu1
  have B1 := hid (below_step B0.out hb1)
  have X2 := cell_below hb1 X1.out
  clear X0 hu1 hb1
  go_wp2_with fail
  rw [HKI.out]
  clear X2
  have A1 := hid (fun w (h : Below w1.heap.size w1 w) => open_at L P 0 _ kk w (U1.out.below h) HOP.out HPL.out)
  refine (A1.out _ (Below.refl _ _)).mono ?_
  rintro e w3 ⟨p3, c3, rfl, hu3, hb3⟩
  rw [HNP.out] at hu3 ⊢
  have U3 := hid hu3
  have B3 := hid hb3
  clear hu3 hb3
  have h5 := opened_box w3 (.slice p3 np c3) (.int .i64 0)
  have hb5 := below_a0 w3 (.cells #[.slice p3 np c3, .int .i64 0] 32)
  have hb6 := below_a hb5 (.cells #[] 23)
  have ON := own_new (w3.alloc (.cells #[.slice p3 np c3, .int .i64 0] 32)) 23
  rw [World.size_alloc] at ON
  have H5 := hid h5
  have HB6 := hid hb6
  have HON := hid ON
  have V5 := hid ((U1.out.below B3.out).big.below hb6)
  clear h5 hb5 hb6 ON
  go_wp2_with (at_builtin; go_must (with_reducible refine wpList_append_u64 rfl (.tmp 32) (.tmp 33) 22 rfl (w3.heap.size + 1) 23 i0 (.int .u64 0) Try.underlying22 hi0 hz0 hz1 hz2 rfl (.slice (some ⟨w3.heap.size + 1, 0, none⟩) 0 0) 0 [] rfl HON.out (.slice p1 N c1) L rfl V5.out (by rw [HLl.out]; omega) (by simp) ?_))
  intro v6 w6 hown hb6
  rw [HLl.out] at hown
  obtain ⟨g, cap, rfl, hg1, hg2⟩ := hown.form hN1
  have hcell := hown.cellAt kk (by omega)
  have hfr := hown.frozenAt kk
  have hst := hown.stored kk (.int .u64 (nw.toNat : Int))
  have hcell' : w6.cell? ⟨g, kk, none⟩ = some (.int .u64 (L[kk].toNat : Int)) := by rw [hcell]; simp [u64s, hKL]
  generalize L[kk] = old at *
  clear hcell
  have hb3' : Below w3.heap.size w3 ((w3.alloc (.cells #[.slice p3 np c3, .int .i64 0] 32)).alloc (.cells #[] 23)) := HB6.out
  have B7 := hid (show Below w3.heap.size w3 (w6.setCell ⟨g, kk, none⟩ (.int .u64 (nw.toNat : Int))) from (hb3'.trans (hb6.mono (by omega))).setCell (p := ⟨g, kk, none⟩) (by simp only; omega) _)
  have H6 : w6.heap[w3.heap.size]? = some (.cells #[.slice p3 np c3, .int .i64 0] 32 (0, 0)) := (hb6.block _ (by omega)).trans ((Below.heap_alloc _ _ _ (by simp)).trans H5.out)
  have H7 := hid (show (w6.setCell ⟨g, kk, none⟩ (.int .u64 (nw.toNat : Int))).heap[w3.heap.size]? = some (.cells #[.slice p3 np c3, .int .i64 0] 32 (0, 0)) from ((grown_set w6 g kk _).block _ (Array.getElem?_eq_some_iff.1 H6).1 (fun e => by have := Option.some.inj e; omega)).trans H6)
  have U7 := hid (show U64At (w6.setCell ⟨g, kk, none⟩ (.int .u64 (nw.toNat : Int))) (.slice (some ⟨g, 0, none⟩) N cap) (L.set kk nw) from U64At.of_own (by
    have h1 := hst.1
    rw [show (u64s L).set kk (.int .u64 (nw.toNat : Int)) = (L.set kk nw).map fun x => .int .u64 (x.toNat : Int) by simp [u64s, List.map_set]] at h1
    exact h1) (by rw [HSl.out]; omega))
  clear hown hb6 hst hb3' H6 hg1 hg2 H5 HB6 HON V5
  go_wp2_with fail
  clear hcell' hfr
  obtain ⟨W7, hW7⟩ : ∃ W7, w6.setCell ⟨g, kk, none⟩ (.int .u64 (nw.toNat : Int)) = W7 := ⟨_, rfl⟩
  rw [hW7] at B7 H7 U7 ⊢
  clear hW7
  refine (open_at (L.set kk nw) P 0 _ kk _ U7.out HOS.out HPS.out).mono ?_
  rintro e w8 ⟨p8, c8, rfl, hu8, hb8⟩
  rw [HNP.out] at hu8 ⊢
  have h9 := opened_box w8 (.slice p8 np c8) (.int .i64 0)
  have hb9 := below_a0 w8 (.cells #[.slice p8 np c8, .int .i64 0] 32)
  have B9 := hid (below_step hb8 hb9)
  have U9 := hid (U7.out.below B9.out)
  have U8 := hid (hu8.below hb9)
  have U39 := hid ((U3.out.below B7.out).below B9.out)
  have H9 := hid h9
  clear h9 hb9 hu8 hb8
  go_wp2_with fail
  obtain ⟨W9, hW9⟩ : ∃ W9, w8.alloc (.cells #[.slice p8 np c8, .int .i64 0] 32) = W9 := ⟨_, rfl⟩
  rw [hW9] at H9 B9 U9 U8 U39 ⊢
  clear hW9
  have h7 := (B9.out.block _ (Array.getElem?_eq_some_iff.1 H7.out).1).trans H7.out
  have P0 := blk_cell h7 (j := 0) (v := .slice p3 np c3) rfl
  have P1 := blk_cell h7 (j := 1) (v := .int .i64 0) rfl
  have P2 := blk_cell H9.out (j := 0) (v := .slice p8 np c8) rfl
  clear h7
  have hsd := (Below.refl W9.heap.size W9).drew
  refine wp_region_held_drew (S := fun W' => (W'.cell? ⟨w3.heap.size, 0, none⟩ = some (.slice p3 np c3) ∧ W'.cell? ⟨w3.heap.size, 1, none⟩ = some (.int .i64 0) ∧ W'.cell? ⟨w8.heap.size, 0, none⟩ = some (.slice p8 np c8) ∧ Below W9.heap.size W9 W')) (by kernel_rfl) ?_ (fun hHeld => ?_)
  · exact ⟨P0, P1, P2, hsd⟩
  refine wpAnyH_take (i := 0) (oi := ({ dst := some 42, op := Op.fieldAddr 32 (Operand.tmp 10) 1, type := 0, pos := "law.go:145", after := #[], guard := none } : Oper)) (v := ?_) rfl (by kernel_rfl) (by kernel_rfl) (by kernel_rfl) (fun _ _ _ h => h) (Or.inl ⟨by rfl, ?_⟩) (by assumption) ?_
  rotate_left
  · intro w hSw; (try dsimp only at hSw); go_simp <;> with_reducible rfl
  (try simp only [Act.put, List.setIfInBounds_toArray, List.set_cons_zero, List.set_cons_succ])
  refine wpAnyH_take (i := 1) (oi := ({ dst := some 43, op := Op.load 30 (Operand.tmp 42), type := 30, pos := "law.go:145", after := #[{ on := 0, ground := Ground.data }], guard := none } : Oper)) (v := ?_) rfl (by kernel_rfl) (by kernel_rfl) (by kernel_rfl) (fun _ _ _ h => h) (Or.inl ⟨by rfl, ?_⟩) (by assumption) ?_
  rotate_left
  · intro w hSw; (try dsimp only at hSw); go_simp <;> with_reducible rfl
  (try simp only [Act.put, List.setIfInBounds_toArray, List.set_cons_zero, List.set_cons_succ])
  refine wpAnyH_take (i := 2) (oi := ({ dst := some 44, op := Op.binOp BinOp.eql 30 (Operand.tmp 43) (Operand.const (Value.int IntKind.i64 0)) 30, type := 4, pos := "law.go:145", after := #[{ on := 1, ground := Ground.data }], guard := none } : Oper)) (v := ?_) rfl (by kernel_rfl) (by kernel_rfl) (by kernel_rfl) (fun _ _ _ h => h) (Or.inl ⟨by rfl, ?_⟩) (by assumption) ?_
  rotate_left
  · intro w hSw; (try dsimp only at hSw); go_simp <;> with_reducible rfl
  (try simp only [Act.put, List.setIfInBounds_toArray, List.set_cons_zero, List.set_cons_succ])
  refine wpAnyH_take (i := 3) (oi := ({ dst := some 45, op := Op.move (Operand.tmp 44), type := 4, pos := "law.go:145", after := #[{ on := 2, ground := Ground.data }], guard := none } : Oper)) (v := ?_) rfl (by kernel_rfl) (by kernel_rfl) (by kernel_rfl) (fun _ _ _ h => h) (Or.inl ⟨by rfl, ?_⟩) (by assumption) ?_
  rotate_left
  · intro w hSw; (try dsimp only at hSw); go_simp <;> with_reducible rfl
  (try simp only [Act.put, List.setIfInBounds_toArray, List.set_cons_zero, List.set_cons_succ])
  refine wpAnyH_take (i := 4) (oi := ({ dst := some 46, op := Op.fieldAddr 32 (Operand.tmp 10) 0, type := 0, pos := "law.go:145", after := #[{ on := 3, ground := Ground.guard }], guard := some (3, true) } : Oper)) (v := ?_) rfl (by kernel_rfl) (by kernel_rfl) (by kernel_rfl) (fun _ _ _ h => h) (Or.inl ⟨by rfl, ?_⟩) (by assumption) ?_
  rotate_left
  · intro w hSw; (try dsimp only at hSw); go_simp <;> with_reducible rfl
  (try simp only [Act.put, List.setIfInBounds_toArray, List.set_cons_zero, List.set_cons_succ])
  refine wpAnyH_take (i := 5) (oi := ({ dst := some 47, op := Op.load 22 (Operand.tmp 46), type := 22, pos := "law.go:145", after := #[{ on := 4, ground := Ground.data }, { on := 3, ground := Ground.guard }], guard := some (3, true) } : Oper)) (v := ?_) rfl (by kernel_rfl) (by kernel_rfl) (by kernel_rfl) (fun _ _ _ h => h) (Or.inl ⟨by rfl, ?_⟩) (by assumption) ?_
  rotate_left
  · intro w hSw; (try dsimp only at hSw); go_simp <;> with_reducible rfl
  (try simp only [Act.put, List.setIfInBounds_toArray, List.set_cons_zero, List.set_cons_succ])
  refine wpAnyH_take (i := 6) (oi := ({ dst := some 48, op := Op.fieldAddr 32 (Operand.tmp 12) 0, type := 0, pos := "law.go:145", after := #[{ on := 3, ground := Ground.guard }], guard := some (3, true) } : Oper)) (v := ?_) rfl (by kernel_rfl) (by kernel_rfl) (by kernel_rfl) (fun _ _ _ h => h) (Or.inl ⟨by rfl, ?_⟩) (by assumption) ?_
  rotate_left
  · intro w hSw; (try dsimp only at hSw); go_simp <;> with_reducible rfl
  (try simp only [Act.put, List.setIfInBounds_toArray, List.set_cons_zero, List.set_cons_succ])
  refine wpAnyH_take (i := 7) (oi := ({ dst := some 49, op := Op.load 22 (Operand.tmp 48), type := 22, pos := "law.go:145", after := #[{ on := 6, ground := Ground.data }, { on := 3, ground := Ground.guard }], guard := some (3, true) } : Oper)) (v := ?_) rfl (by kernel_rfl) (by kernel_rfl) (by kernel_rfl) (fun _ _ _ h => h) (Or.inl ⟨by rfl, ?_⟩) (by assumption) ?_
  rotate_left
  · intro w hSw; (try dsimp only at hSw); go_simp <;> with_reducible rfl
  (try simp only [Act.put, List.setIfInBounds_toArray, List.set_cons_zero, List.set_cons_succ])
  refine wpAnyH_ready (rs := [8]) (by kernel_rfl) (by simp) ?_
  refine AllReadyH.cons (o := ({ dst := some 50, op := Op.call { callee := Callee.value (Operand.func 14), args := #[Operand.tmp 47, Operand.tmp 49], argTypes := #[22, 22] }, type := 4, pos := "law.go:145", after := #[{ on := 5, ground := Ground.data }, { on := 7, ground := Ground.data }, { on := 3, ground := Ground.chain }, { on := 3, ground := Ground.guard }], guard := some (3, true) } : Oper)) rfl (fun K hK => ?_) ?_
  rotate_left
  · exact AllReadyH.nil
  go_simp
  go_at_call 14
  with_reducible refine (same_at P np p3 p8 c3 c8 HNP.out U39 U8 hsd).mono ?_
  rintro e y0 ⟨rfl, hq0⟩
  have hB0 := below_step hsd hq0
  clear hHeld
  first | (with_reducible refine hK.out _ _ ?_ (fun hHeld => ?_)) | (go_wp2_with fail; with_reducible refine hK.out _ _ ?_ (fun hHeld => ?_))
  · exact ⟨cell_below hB0 P0, cell_below hB0 P1, cell_below hB0 P2, hB0⟩
  clear hK K
  (try simp only [Act.put, List.setIfInBounds_toArray, List.set_cons_zero, List.set_cons_succ])
  refine wpAnyH_take (i := 9) (oi := ({ dst := some 51, op := Op.pick (Operand.tmp 45) (Operand.tmp 50) (Operand.const (Value.bool false)), type := 4, pos := "law.go:145", after := #[{ on := 3, ground := Ground.data }, { on := 8, ground := Ground.data }], guard := none } : Oper)) (v := ?_) rfl (by kernel_rfl) (by kernel_rfl) (by kernel_rfl) (fun _ _ _ h => h) (Or.inl ⟨by rfl, ?_⟩) (by assumption) ?_
  rotate_left
  · intro w hSw; (try dsimp only at hSw); go_simp <;> with_reducible rfl
  (try simp only [Act.put, List.setIfInBounds_toArray, List.set_cons_zero, List.set_cons_succ])
  refine wpAnyH_take (i := 10) (oi := ({ dst := some 52, op := Op.move (Operand.tmp 51), type := 4, pos := "law.go:145", after := #[{ on := 9, ground := Ground.data }, { on := 8, ground := Ground.chain }], guard := none } : Oper)) (v := ?_) rfl (by kernel_rfl) (by kernel_rfl) (by kernel_rfl) (fun _ _ _ h => h) (Or.inl ⟨by rfl, ?_⟩) (by assumption) ?_
  rotate_left
  · intro w hSw; (try dsimp only at hSw); go_simp <;> with_reducible rfl
  (try simp only [Act.put, List.setIfInBounds_toArray, List.set_cons_zero, List.set_cons_succ])
  refine wpAnyH_take (i := 11) (oi := ({ dst := some 53, op := Op.move (Operand.tmp 11), type := 22, pos := "law.go:145", after := #[{ on := 10, ground := Ground.guard }], guard := some (10, true) } : Oper)) (v := ?_) rfl (by kernel_rfl) (by kernel_rfl) (by kernel_rfl) (fun _ _ _ h => h) (Or.inl ⟨by rfl, ?_⟩) (by assumption) ?_
  rotate_left
  · intro w hSw; (try dsimp only at hSw); go_simp <;> with_reducible rfl
  (try simp only [Act.put, List.setIfInBounds_toArray, List.set_cons_zero, List.set_cons_succ])
  refine wpAnyH_take (i := 13) (oi := ({ dst := some 55, op := Op.move (Operand.tmp 11), type := 22, pos := "law.go:145", after := #[{ on := 10, ground := Ground.guard }], guard := some (10, true) } : Oper)) (v := ?_) rfl (by kernel_rfl) (by kernel_rfl) (by kernel_rfl) (fun _ _ _ h => h) (Or.inl ⟨by rfl, ?_⟩) (by assumption) ?_
  rotate_left
  · intro w hSw; (try dsimp only at hSw); go_simp <;> with_reducible rfl
  (try simp only [Act.put, List.setIfInBounds_toArray, List.set_cons_zero, List.set_cons_succ])
  refine wpAnyH_take (i := 14) (oi := ({ dst := some 56, op := Op.call { callee := Callee.builtin Builtin.len, args := #[Operand.tmp 55], argTypes := #[22] }, type := 3, pos := "law.go:145", after := #[{ on := 13, ground := Ground.data }, { on := 10, ground := Ground.guard }], guard := some (10, true) } : Oper)) (v := ?_) rfl (by kernel_rfl) (by kernel_rfl) (by kernel_rfl) (fun _ _ _ h => h) (Or.inl ⟨by rfl, ?_⟩) (by assumption) ?_
  rotate_left
  · intro w hSw; (try dsimp only at hSw); go_simp <;> with_reducible rfl
  (try simp only [Act.put, List.setIfInBounds_toArray, List.set_cons_zero, List.set_cons_succ])
  refine wpAnyH_take (i := 15) (oi := ({ dst := some 57, op := Op.move (Operand.tmp 9), type := 3, pos := "law.go:145", after := #[{ on := 10, ground := Ground.guard }], guard := some (10, true) } : Oper)) (v := ?_) rfl (by kernel_rfl) (by kernel_rfl) (by kernel_rfl) (fun _ _ _ h => h) (Or.inl ⟨by rfl, ?_⟩) (by assumption) ?_
  rotate_left
  · intro w hSw; (try dsimp only at hSw); go_simp <;> with_reducible rfl
  (try simp only [Act.put, List.setIfInBounds_toArray, List.set_cons_zero, List.set_cons_succ])
  refine wpAnyH_take (i := 16) (oi := ({ dst := some 58, op := Op.move (Operand.tmp 2), type := 23, pos := "law.go:145", after := #[{ on := 10, ground := Ground.guard }], guard := some (10, true) } : Oper)) (v := ?_) rfl (by kernel_rfl) (by kernel_rfl) (by kernel_rfl) (fun _ _ _ h => h) (Or.inl ⟨by rfl, ?_⟩) (by assumption) ?_
  rotate_left
  · intro w hSw; (try dsimp only at hSw); go_simp <;> with_reducible rfl
  (try simp only [Act.put, List.setIfInBounds_toArray, List.set_cons_zero, List.set_cons_succ])
  refine wpAnyH_take (i := 17) (oi := ({ dst := some 59, op := Op.fieldAddr 32 (Operand.tmp 10) 0, type := 0, pos := "law.go:145", after := #[{ on := 10, ground := Ground.guard }], guard := some (10, true) } : Oper)) (v := ?_) rfl (by kernel_rfl) (by kernel_rfl) (by kernel_rfl) (fun _ _ _ h => h) (Or.inl ⟨by rfl, ?_⟩) (by assumption) ?_
  rotate_left
  · intro w hSw; (try dsimp only at hSw); go_simp <;> with_reducible rfl
  (try simp only [Act.put, List.setIfInBounds_toArray, List.set_cons_zero, List.set_cons_succ])
  refine wpAnyH_take (i := 18) (oi := ({ dst := some 60, op := Op.load 22 (Operand.tmp 59), type := 22, pos := "law.go:145", after := #[{ on := 17, ground := Ground.data }, { on := 10, ground := Ground.guard }], guard := some (10, true) } : Oper)) (v := ?_) rfl (by kernel_rfl) (by kernel_rfl) (by kernel_rfl) (fun _ _ _ h => h) (Or.inl ⟨by rfl, ?_⟩) (by assumption) ?_
  rotate_left
  · intro w hSw; (try dsimp only at hSw); go_simp <;> with_reducible rfl
  (try simp only [Act.put, List.setIfInBounds_toArray, List.set_cons_zero, List.set_cons_succ])
  refine wpAnyH_take (i := 19) (oi := ({ dst := some 61, op := Op.build 25 #[(0, Operand.tmp 58), (1, Operand.tmp 60)], type := 25, pos := "law.go:145", after := #[{ on := 16, ground := Ground.data }, { on := 18, ground := Ground.data }, { on := 10, ground := Ground.guard }], guard := some (10, true) } : Oper)) (v := ?_) rfl (by kernel_rfl) (by kernel_rfl) (by kernel_rfl) (fun _ _ _ h => h) (Or.inl ⟨by rfl, ?_⟩) (by assumption) ?_
  rotate_left
  · intro w hSw; (try dsimp only at hSw); go_simp <;> with_reducible rfl
  (try simp only [Act.put, List.setIfInBounds_toArray, List.set_cons_zero, List.set_cons_succ])
  refine wpAnyH_ready (rs := [12]) (by kernel_rfl) (by simp) ?_
  refine AllReadyH.cons (o := ({ dst := some 54, op := Op.call { callee := Callee.value (Operand.func 10), args := #[Operand.tmp 53], argTypes := #[22] }, type := 23, pos := "law.go:145", after := #[{ on := 11, ground := Ground.data }, { on := 10, ground := Ground.chain }, { on := 10, ground := Ground.guard }], guard := some (10, true) } : Oper)) rfl (fun K hK => ?_) ?_
  rotate_left
  · exact AllReadyH.nil
  go_simp
  go_at_call 10
  with_reducible refine (root_b (.slice (some ⟨g, 0, none⟩) N cap) (L.set kk nw) _ (U9.out.below hB0)).mono ?_
  rintro e y1 ⟨rfl, hq1⟩
  have hB1 := below_step hB0 hq1
  clear hHeld
  first | (with_reducible refine hK.out _ _ ?_ (fun hHeld => ?_)) | (go_wp2_with fail; with_reducible refine hK.out _ _ ?_ (fun hHeld => ?_))
  · exact ⟨cell_below hB1 P0, cell_below hB1 P1, cell_below hB1 P2, hB1⟩
  clear hK K
  (try simp only [Act.put, List.setIfInBounds_toArray, List.set_cons_zero, List.set_cons_succ])
  refine wpAnyH_ready (rs := [20]) (by kernel_rfl) (by simp) ?_
  refine AllReadyH.cons (o := ({ dst := some 62, op := Op.call { callee := Callee.value (Operand.func 15), args := #[Operand.tmp 54, Operand.tmp 56, Operand.tmp 57, Operand.tmp 61], argTypes := #[23, 3, 3, 25] }, type := 30, pos := "law.go:145", after := #[{ on := 12, ground := Ground.data }, { on := 14, ground := Ground.data }, { on := 15, ground := Ground.data }, { on := 19, ground := Ground.data }, { on := 12, ground := Ground.chain }, { on := 10, ground := Ground.guard }], guard := some (10, true) } : Oper)) rfl (fun K hK => ?_) ?_
  rotate_left
  · exact AllReadyH.nil
  go_simp
  go_at_call 15
  with_reducible refine (check_at (rootB (L.set kk nw)) nw (N : Int) (kk : Int) 0 P np p3 c3 HNP.out HCK.out U39 hB1).mono ?_
  rintro e y2 ⟨rfl, hq2⟩
  have hB2 := below_step hB1 hq2
  clear hHeld
  first | (with_reducible refine hK.out _ _ ?_ (fun hHeld => ?_)) | (go_wp2_with fail; with_reducible refine hK.out _ _ ?_ (fun hHeld => ?_))
  · exact ⟨cell_below hB2 P0, cell_below hB2 P1, cell_below hB2 P2, hB2⟩
  clear hK K
  (try simp only [Act.put, List.setIfInBounds_toArray, List.set_cons_zero, List.set_cons_succ])
  refine wpAnyH_take (i := 21) (oi := ({ dst := some 63, op := Op.binOp BinOp.eql 30 (Operand.tmp 62) (Operand.const (Value.int IntKind.i64 0)) 30, type := 4, pos := "law.go:145", after := #[{ on := 20, ground := Ground.data }, { on := 10, ground := Ground.guard }], guard := some (10, true) } : Oper)) (v := ?_) rfl (by kernel_rfl) (by kernel_rfl) (by kernel_rfl) (fun _ _ _ h => h) (Or.inl ⟨by rfl, ?_⟩) (by assumption) ?_
  rotate_left
  · intro w hSw; (try dsimp only at hSw); go_simp <;> with_reducible rfl
  (try simp only [Act.put, List.setIfInBounds_toArray, List.set_cons_zero, List.set_cons_succ])
  refine wpAnyH_take (i := 22) (oi := ({ dst := some 64, op := Op.pick (Operand.tmp 52) (Operand.tmp 63) (Operand.const (Value.bool false)), type := 4, pos := "law.go:145", after := #[{ on := 10, ground := Ground.data }, { on := 21, ground := Ground.data }], guard := none } : Oper)) (v := ?_) rfl (by kernel_rfl) (by kernel_rfl) (by kernel_rfl) (fun _ _ _ h => h) (Or.inl ⟨by rfl, ?_⟩) (by assumption) ?_
  rotate_left
  · intro w hSw; (try dsimp only at hSw); go_simp <;> with_reducible rfl
  (try simp only [Act.put, List.setIfInBounds_toArray, List.set_cons_zero, List.set_cons_succ])
  refine wpAnyH_take (i := 23) (oi := ({ dst := some 65, op := Op.move (Operand.tmp 64), type := 4, pos := "law.go:145", after := #[{ on := 22, ground := Ground.data }, { on := 20, ground := Ground.chain }], guard := none } : Oper)) (v := ?_) rfl (by kernel_rfl) (by kernel_rfl) (by kernel_rfl) (fun _ _ _ h => h) (Or.inl ⟨by rfl, ?_⟩) (by assumption) ?_
  rotate_left
  · intro w hSw; (try dsimp only at hSw); go_simp <;> with_reducible rfl
  (try simp only [Act.put, List.setIfInBounds_toArray, List.set_cons_zero, List.set_cons_succ])
  refine wpAnyH_take (i := 24) (oi := ({ dst := some 66, op := Op.move (Operand.tmp 7), type := 4, pos := "law.go:145", after := #[{ on := 23, ground := Ground.guard }], guard := some (23, true) } : Oper)) (v := ?_) rfl (by kernel_rfl) (by kernel_rfl) (by kernel_rfl) (fun _ _ _ h => h) (Or.inl ⟨by rfl, ?_⟩) (by assumption) ?_
  rotate_left
  · intro w hSw; (try dsimp only at hSw); go_simp <;> with_reducible rfl
  (try simp only [Act.put, List.setIfInBounds_toArray, List.set_cons_zero, List.set_cons_succ])
  refine wpAnyH_take (i := 25) (oi := ({ dst := some 67, op := Op.pick (Operand.tmp 65) (Operand.tmp 66) (Operand.const (Value.bool false)), type := 4, pos := "law.go:145", after := #[{ on := 23, ground := Ground.data }, { on := 24, ground := Ground.data }], guard := none } : Oper)) (v := ?_) rfl (by kernel_rfl) (by kernel_rfl) (by kernel_rfl) (fun _ _ _ h => h) (Or.inl ⟨by rfl, ?_⟩) (by assumption) ?_
  rotate_left
  · intro w hSw; (try dsimp only at hSw); go_simp <;> with_reducible rfl
  (try simp only [Act.put, List.setIfInBounds_toArray, List.set_cons_zero, List.set_cons_succ])
  refine wpAnyH_take (i := 26) (oi := ({ dst := some 6, op := Op.assign (Operand.tmp 67), type := 4, pos := "law.go:145", after := #[{ on := 25, ground := Ground.data }, { on := 23, ground := Ground.chain }, { on := 0, ground := Ground.phase }, { on := 1, ground := Ground.phase }, { on := 2, ground := Ground.phase }, { on := 3, ground := Ground.phase }, { on := 4, ground := Ground.phase }, { on := 5, ground := Ground.phase }, { on := 6, ground := Ground.phase }, { on := 7, ground := Ground.phase }, { on := 8, ground := Ground.phase }, { on := 9, ground := Ground.phase }, { on := 10, ground := Ground.phase }, { on := 11, ground := Ground.phase }, { on := 12, ground := Ground.phase }, { on := 13, ground := Ground.phase }, { on := 14, ground := Ground.phase }, { on := 15, ground := Ground.phase }, { on := 16, ground := Ground.phase }, { on := 17, ground := Ground.phase }, { on := 18, ground := Ground.phase }, { on := 19, ground := Ground.phase }, { on := 20, ground := Ground.phase }, { on := 21, ground := Ground.phase }, { on := 22, ground := Ground.phase }, { on := 23, ground := Ground.phase }, { on := 24, ground := Ground.phase }, { on := 25, ground := Ground.phase }], guard := none } : Oper)) (v := ?_) rfl (by kernel_rfl) (by kernel_rfl) (by kernel_rfl) (fun _ _ _ h => h) (Or.inl ⟨by rfl, ?_⟩) (by assumption) ?_
  rotate_left
  · intro w hSw; (try dsimp only at hSw); go_simp <;> with_reducible rfl
  (try simp only [Act.put, List.setIfInBounds_toArray, List.set_cons_zero, List.set_cons_succ])
  refine wpAnyH_done (by kernel_rfl) ?_ _
  clear P0 P1 P2 hHeld
  have HE := hid (B1.out.trans ((B3.out.mono B1.out.size).trans ((B7.out.mono (by have := B1.out.size; have := B3.out.size; omega)).trans ((B9.out.mono (by have := B1.out.size; have := B3.out.size; have := B7.out.size; omega)).trans (hB2.mono (by have := B1.out.size; have := B3.out.size; have := B7.out.size; have := B9.out.size; omega))))))
  go_wp2_with fail
  go_ret
  exact ⟨rfl, HE.out⟩
theorem open_two16 {H : Type} {enc : TypeId × Value → H} {W : World} {v : Value} {d : DataW H} {p : List MemPlace} (h : DataW.Trod enc Try.prog W 0 (fun _ => true) true 50 v d p) :
    ∃ a b : Nat, a ≤ 65535 ∧ b ≤ 65535 ∧ v = .agg #[.int .u16 (a : Int), .int .u16 (b : Int)] := by
  obtain ⟨fuel, hf⟩ := h
  obtain ⟨xs, m, -, -, hl, hn, hel⟩ := DataW.trod_array Try.underlying50 hf
  have c3 : Try.prog.cellsOf 44 = 1 := by kernel_rfl
  have c22 : Try.prog.cellsOf 50 = 2 := by kernel_rfl
  have hl2 : v.cells.toList.length = 2 := hl.trans c22
  have e0 : DataW.trod enc Try.prog W 0 (fun _ => true) true m 44 ((v.cells.toList.drop (0 * 1)).take 1) = xs[0]? := by have h := hel 0 (by decide); rw [c3] at h; exact h
  have e1 : DataW.trod enc Try.prog W 0 (fun _ => true) true m 44 ((v.cells.toList.drop (1 * 1)).take 1) = xs[1]? := by have h := hel 1 (by decide); rw [c3] at h; exact h
  clear hl hel hf
  have key : ∀ cs : List Value, cs.length = 2 → (DataW.trod enc Try.prog W 0 (fun _ => true) true m 44 ((cs.drop (0 * 1)).take 1) = xs[0]?) → (DataW.trod enc Try.prog W 0 (fun _ => true) true m 44 ((cs.drop (1 * 1)).take 1) = xs[1]?) →
      ∃ a b : Nat, cs = [.int .u16 (a : Int), .int .u16 (b : Int)] ∧ a ≤ 65535 ∧ b ≤ 65535 := by
    intro cs hcs k0 k1
    match cs, hcs with
    | [x0, x1], _ =>
      rw [List.getElem?_eq_getElem (show 0 < xs.length by omega)] at k0
      rw [List.getElem?_eq_getElem (show 1 < xs.length by omega)] at k1
      obtain ⟨a, h1, -, w1⟩ := DataW.trod_int Try.underlying44 (show DataW.trod enc Try.prog W 0 (fun _ => true) true m 44 [x0] = some _ from k0)
      obtain ⟨b, h2, -, w2⟩ := DataW.trod_int Try.underlying44 (show DataW.trod enc Try.prog W 0 (fun _ => true) true m 44 [x1] = some _ from k1)
      cases h1; cases h2
      obtain ⟨a, rfl, ha⟩ := bd16 w1
      obtain ⟨b, rfl, hb⟩ := bd16 w2
      exact ⟨a, b, rfl, ha, hb⟩
  cases v with
  | agg cs =>
    obtain ⟨a, b, hcs, ha, hb⟩ := key cs.toList hl2 e0 e1
    exact ⟨a, b, ha, hb, by rw [show cs = #[Value.int .u16 (a : Int), Value.int .u16 (b : Int)] from Array.ext' hcs]⟩
  | _ => exact absurd hl2 (by simp [Value.cells])

theorem merkleChanges_contract (H : Type) (enc : TypeId × Value → H) (W : World) (base : Nat) (args : Array Value) (ds gs : List (DataW H)) (before : List MemPlace)
    (hval : ∀ (j : Nat) t v, Try.f7.params[j]? = some t → args[j]? = some v → Value.okWide Try.prog W .any base t v)
    (hW : DataW.Whole enc Try.prog Try.f7.params.toList Rows.merkleChangesSpec.vars false W args.toList ds gs before) :
    Calls Try.prog 7 args W fun e W' => ∃ v, e = .returned v ∧ Rows.merkleChangesSpec.post enc Try.prog Try.f7 false true false false W args v W' := by
  have hW' := hW
  obtain ⟨p, q, hA0, hV, rfl, hfz, hnd⟩ := hW
  have hA : DataW.TrodAll enc Try.prog W 0 (fun _ => true) true Try.f7.params.toList args.toList ds p := hA0
  rw [Try.params7] at hA hval
  obtain ⟨v0, vs0, d0, ds0, p0, q0, hargs, rfl, rfl, h0, r0⟩ := trodAll_cons hA
  obtain ⟨v1, vs1, d1, ds1, p1, q1, rfl, rfl, rfl, h1, r1⟩ := trodAll_cons r0
  obtain ⟨v2, vs2, d2, ds2, p2, q2, rfl, rfl, rfl, h2, r2⟩ := trodAll_cons r1
  obtain ⟨rfl, rfl, rfl⟩ := trodAll_nil r2
  obtain rfl : args = #[v0, v1, v2] := by cases args; simp_all
  obtain ⟨rfl, rfl⟩ := trodVars_none hV
  obtain ⟨t0, in0⟩ := open_u64l (hval 0 _ v0 rfl rfl) h0
  obtain ⟨n1, k1, hn1, hk1, rfl⟩ := open_two16 h1
  obtain ⟨z2, rfl, rfl, rfl, wf2⟩ := open_int Try.underlying23 (hval 2 23 v2 rfl rfl) h2
  obtain ⟨t2, rfl⟩ := bdU wf2
  refine (changes_walk t0 v0 n1 k1 hn1 hk1 t2 W in0).mono fun e W' ⟨he, hg⟩ => ?_
  subst he
  exact ⟨_, rfl, post_true (T := 4) (by kernel_rfl) (by kernel_rfl) rfl rfl (by kernel_rfl) hW' hg rfl⟩

set_option maxRecDepth 100000 in
theorem merkleChanges_lifted (os : Os) (started : os.Started) (H : Type) (enc : TypeId × Value → H) :
    ReturnsInHanded {} Try.checked os 7 .any (Rows.merkleChangesSpec.pre6 enc Try.prog Try.f7 Rows.merkleChangesRow.domain false) (Rows.merkleChangesSpec.post enc Try.prog Try.f7 false true false false) := by
  refine returnsInHanded_of_change (C := Try.checked) own started (by kernel_rfl) Try.func7
    (ChangeSpec.witness6 (enc := enc) (C := Try.checked) false ⟨#[], #[.slice none 0 0, .agg #[.int .u16 0, .int .u16 0], .int .u64 0], []⟩ 8 (by kernel_rfl) (by kernel_rfl) (by kernel_rfl) (by kernel_rfl)) ?_
  intro W base args ds gs before hval hW _ _
  exact merkleChanges_contract H enc W base args ds gs before hval hW

theorem merkleChanges_holds : Rows.MerkleChangesSaid :=
  OpenClaim.holds_of_wide 7 Try.f7 rfl rfl rfl rfl rfl rfl rfl ⟨rfl, rfl, rfl, rfl, rfl⟩ rfl rfl rfl rfl rfl (by kernel_rfl) Try.func7 (by kernel_rfl)
    (of_decide_eq_true (by kernel_rfl)) (by unfold Func.isWrapper; rw [if_neg (of_decide_eq_false (by kernel_rfl))]; exact ⟨rfl, rfl⟩)
    (fun os started H enc _ => merkleChanges_lifted os started H enc)
end Go.Proofs.Ytagpinpelgkjcaa

/-
  The law MerkleOpens of package merkle holds: the path of each place of a list is accepted for its root, and has at most 12 elements.
  No condition: every input that the row speaks of.
-/
import Derived.Test.YtagpinpelgkjcaaLx
import Derived.Test.YtagpinpelgkjcaaLy
namespace Go.Proofs.Ytagpinpelgkjcaa
open Go.ChangeShapes Go.WideShapes Go.ChangeAt Go.RowKit
set_option linter.unusedVariables false

theorem grown_v {x : Int} (l : List (BitVec 64)) (v : Value) (n : Nat) (hn : n ≤ 5000) (ex : x = (n : Int)) (w : World) (hv : U64Big w v l) :
    Calls Try.prog 19 #[v, .int .i64 x] w fun e w' => ∃ p c, e = .returned (.slice p n c) ∧ U64At w' (.slice p n c) (growB l n) ∧ Below w.heap.size w w' := by subst ex; exact grown_any l v n hn w hv
/-- What is known of a check, at a later world. -/
theorem check_at {W y : World} (root leaf : BitVec 64) (n i E : Int) (path : List (BitVec 64)) (k : Nat) (p : Option Addr) (c : Nat) (hk : path.length = k) (he : checkE root n i leaf path = E) (U : Hid (U64At W (.slice p k c) path)) (hb : Below W.heap.size W y) :
    Calls Try.prog 15 #[.int .u64 (root.toNat : Int), .int .i64 n, .int .i64 i, .agg #[.int .u64 (leaf.toNat : Int), .slice p k c]] y fun e w' => e = .returned (.int .i64 E) ∧ Below y.heap.size y w' := by
  subst hk
  subst he
  exact lcheck_any root leaf n i path p c y (U.out.below hb)
theorem opens_path (L : List (BitVec 64)) (N kk : Nat) (hL : L.length = N) (hK : kk < N) (h : N ≤ 4096) : openP L kk = pathB L kk ∧ placeE L.length kk = 0 := by
  have e : placeE L.length kk = 0 := place_zero (by omega) (by omega) (by omega)
  exact ⟨by unfold openP; rw [if_pos e]; simp, e⟩
set_option maxRecDepth 100000 in
set_option maxHeartbeats 4000000 in
theorem opens_walk_one (l : List (BitVec 64)) (v : Value) (n i : Nat) (hn : n ≤ 65535) (hi : i ≤ 65535) (W : World) (hv : U64Big W v l) (h1 : Hid (1 + n % 4096 = 1)) :
    Calls Try.prog 4 #[v, .int .u16 (n : Int), .int .u16 (i : Int)] W fun e w' => e = .returned (.bool true) ∧ Below W.heap.size W w' := by
  have HV := hid hv
  clear hv
  obtain ⟨N, hN⟩ : ∃ N, 1 + n % 4096 = N := ⟨_, rfl⟩
  have hN1 : 1 ≤ N := by omega
  have hN2 : N ≤ 4096 := by omega
  obtain ⟨kk, hK⟩ : ∃ kk, i % N = kk := ⟨_, rfl⟩
  have hK1 : kk < N := by rw [← hK]; exact Nat.mod_lt _ hN1
  obtain ⟨L, hL⟩ : ∃ L, growB l N = L := ⟨_, rfl⟩
  have hLl : L.length = N := by rw [← hL]; exact growB_len l N
  obtain ⟨P, hP⟩ : ∃ P, pathB L kk = P := ⟨_, rfl⟩
  obtain ⟨np, hnp⟩ : ∃ np, P.length = np := ⟨_, rfl⟩
  have hp12 : np ≤ 12 := by rw [← hnp, ← hP, pathB_len, hLl]; exact sibs_len12 kk hN2
  have OP := opens_path L N kk hLl hK1 hN2
  rw [hP] at OP
  have GR := hid (fun (x : Int) (hx : x = (N : Int)) (w : World) (h : Below W.heap.size W w) => hL ▸ grown_v l v N (by omega) hx w (HV.out.below h))
  have hKL : kk < L.length := by omega
  have CK := check_ok L kk hKL (by omega)
  rw [hP] at CK
  obtain ⟨x, hx⟩ : ∃ x, L[kk]'hKL = x := ⟨_, rfl⟩
  rw [hx] at CK
  have HX1 := hid hx
  have CK1 := hid (show checkE (rootB L) (N : Int) (kk : Int) x P = 0 by rw [← hLl]; exact CK)
  have HX := hid (show (1 : Int) + (n : Int) % 4096 = (N : Int) by omega)
  have hKI : (i : Int) % (N : Int) = (kk : Int) := by omega
  have HKI := hid hKI
  have HLl := hid hLl
  have HOP := hid OP.1
  have HPL := hid OP.2
  have HNP := hid hnp
  have t1 : ((N : Int) == 0) = false := by rw [beq_eq_false_iff_ne]; omega
  have t2 : decide ((12 : Int) < (np : Int)) = false := by simp; omega
  have t3 : (0 : Int) ≤ (kk : Int) := by omega
  have t4 : (kk : Int) < (N : Int) := by omega
  have t5 : ((N : Int) == 1) = true := by have := h1.out; rw [beq_iff_eq]; omega
  have t6 : ((np : Int) == 0) = true := by
    rw [beq_iff_eq, ← hnp, ← hP, pathB_len, hLl, sibs_one kk (by have := h1.out; omega)]
    rfl
  clear hN hK hL hP OP hKI hnp hLl hx CK
  go_enter Try.func4, Try.ntmps4
  go_wp2_with fail
  refine (examples_any _).mono ?_
  rintro e w0 ⟨rfl, hb⟩
  have B0 := hid hb; clear hb
  go_wp2_with fail
  refine (GR.out _ HX.out _ B0.out).mono ?_
  rintro e w1 ⟨p1, c1, rfl, hu1, hb1⟩
  have U1 := hid hu1
  have B1 := hid (below_step B0.out hb1)
  obtain ⟨-, pp, cc, e1, -, -, -, h2⟩ := hu1
  have h2' := h2 (by have := HLl.out; omega)
  obtain ⟨b, o, e2, hc⟩ := h2'
  simp only [Value.slice.injEq] at e1
  obtain ⟨rfl, -, rfl⟩ := e1
  subst e2
  have hcell := hc kk hKL
  rw [HX1.out] at hcell
  have C1 := hid hcell
  clear hc hb1 hcell
  go_wp2_with fail
  refine (root_b _ _ _ U1.out).mono ?_
  rintro e w2 ⟨rfl, hb2⟩
  rw [HKI.out]
  have B2 := hid hb2; clear hb2
  go_wp2_with fail
  refine (open_at L P 0 _ kk _ (U1.out.below B2.out) HOP.out HPL.out).mono ?_
  rintro e w3 ⟨p3, c3, rfl, hu3, hb3⟩
  rw [HNP.out] at hu3 ⊢
  have U3 := hid hu3
  have B3 := hid (below_step B2.out hb3)
  clear hu3 hb3
  go_wp2_with fail
  have h5 := opened_box w3 (.slice p3 np c3) (.int .i64 0)
  have hb5 := below_a0 w3 (.cells #[.slice p3 np c3, .int .i64 0] 32)
  obtain ⟨W5, hW5⟩ : ∃ W5, w3.alloc (.cells #[.slice p3 np c3, .int .i64 0] 32) = W5 := ⟨_, rfl⟩
  rw [hW5] at h5 hb5 ⊢
  have B5 := hid (below_step B3.out hb5)
  have U5 := hid (U3.out.below hb5)
  have P0 := blk_cell h5 (j := 0) (v := .slice p3 np c3) rfl
  have P1 := blk_cell h5 (j := 1) (v := .int .i64 0) rfl
  have C5 := cell_below B5.out C1.out
  have HB5 := hid h5
  clear hW5 h5 hb5
  have hsd := (Below.refl W5.heap.size W5).drew
  refine wp_region_held_drew (S := fun W' => (W'.cell? ⟨w3.heap.size, 0, none⟩ = some (.slice p3 np c3) ∧ W'.cell? ⟨w3.heap.size, 1, none⟩ = some (.int .i64 0) ∧ W'.cell? ⟨b, o + kk, none⟩ = some (.int .u64 (x.toNat : Int)) ∧ Below W5.heap.size W5 W')) (by kernel_rfl) ?_ (fun hHeld => ?_)
  · exact ⟨P0, P1, C5, hsd⟩
  refine wpAnyH_take (i := 0) (oi := ({ dst := some 31, op := Op.fieldAddr 32 (Operand.tmp 11) 1, type := 0, pos := "law.go:70", after := #[], guard := none } : Oper)) (v := ?_) rfl (by kernel_rfl) (by kernel_rfl) (by kernel_rfl) (fun _ _ _ h => h) (Or.inl ⟨by rfl, ?_⟩) (by assumption) ?_
  rotate_left
  · intro w hSw; (try dsimp only at hSw); go_simp <;> with_reducible rfl
  (try simp only [Act.put, List.setIfInBounds_toArray, List.set_cons_zero, List.set_cons_succ])
  refine wpAnyH_take (i := 1) (oi := ({ dst := some 32, op := Op.load 30 (Operand.tmp 31), type := 30, pos := "law.go:70", after := #[{ on := 0, ground := Ground.data }], guard := none } : Oper)) (v := ?_) rfl (by kernel_rfl) (by kernel_rfl) (by kernel_rfl) (fun _ _ _ h => h) (Or.inl ⟨by rfl, ?_⟩) (by assumption) ?_
  rotate_left
  · intro w hSw; (try dsimp only at hSw); go_simp <;> with_reducible rfl
  (try simp only [Act.put, List.setIfInBounds_toArray, List.set_cons_zero, List.set_cons_succ])
  refine wpAnyH_take (i := 2) (oi := ({ dst := some 33, op := Op.binOp BinOp.neq 30 (Operand.tmp 32) (Operand.const (Value.int IntKind.i64 0)) 30, type := 4, pos := "law.go:70", after := #[{ on := 1, ground := Ground.data }], guard := none } : Oper)) (v := ?_) rfl (by kernel_rfl) (by kernel_rfl) (by kernel_rfl) (fun _ _ _ h => h) (Or.inl ⟨by rfl, ?_⟩) (by assumption) ?_
  rotate_left
  · intro w hSw; (try dsimp only at hSw); go_simp <;> with_reducible rfl
  (try simp only [Act.put, List.setIfInBounds_toArray, List.set_cons_zero, List.set_cons_succ])
  refine wpAnyH_take (i := 3) (oi := ({ dst := some 34, op := Op.move (Operand.tmp 33), type := 4, pos := "law.go:70", after := #[{ on := 2, ground := Ground.data }], guard := none } : Oper)) (v := ?_) rfl (by kernel_rfl) (by kernel_rfl) (by kernel_rfl) (fun _ _ _ h => h) (Or.inl ⟨by rfl, ?_⟩) (by assumption) ?_
  rotate_left
  · intro w hSw; (try dsimp only at hSw); go_simp <;> with_reducible rfl
  (try simp only [Act.put, List.setIfInBounds_toArray, List.set_cons_zero, List.set_cons_succ])
  refine wpAnyH_take (i := 4) (oi := ({ dst := some 35, op := Op.fieldAddr 32 (Operand.tmp 11) 0, type := 0, pos := "law.go:70", after := #[{ on := 3, ground := Ground.guard }], guard := some (3, false) } : Oper)) (v := ?_) rfl (by kernel_rfl) (by kernel_rfl) (by kernel_rfl) (fun _ _ _ h => h) (Or.inl ⟨by rfl, ?_⟩) (by assumption) ?_
  rotate_left
  · intro w hSw; (try dsimp only at hSw); go_simp <;> with_reducible rfl
  (try simp only [Act.put, List.setIfInBounds_toArray, List.set_cons_zero, List.set_cons_succ])
  refine wpAnyH_take (i := 5) (oi := ({ dst := some 36, op := Op.load 22 (Operand.tmp 35), type := 22, pos := "law.go:70", after := #[{ on := 4, ground := Ground.data }, { on := 3, ground := Ground.guard }], guard := some (3, false) } : Oper)) (v := ?_) rfl (by kernel_rfl) (by kernel_rfl) (by kernel_rfl) (fun _ _ _ h => h) (Or.inl ⟨by rfl, ?_⟩) (by assumption) ?_
  rotate_left
  · intro w hSw; (try dsimp only at hSw); go_simp <;> with_reducible rfl
  (try simp only [Act.put, List.setIfInBounds_toArray, List.set_cons_zero, List.set_cons_succ])
  refine wpAnyH_take (i := 6) (oi := ({ dst := some 37, op := Op.call { callee := Callee.builtin Builtin.len, args := #[Operand.tmp 36], argTypes := #[22] }, type := 3, pos := "law.go:70", after := #[{ on := 5, ground := Ground.data }, { on := 3, ground := Ground.guard }], guard := some (3, false) } : Oper)) (v := ?_) rfl (by kernel_rfl) (by kernel_rfl) (by kernel_rfl) (fun _ _ _ h => h) (Or.inl ⟨by rfl, ?_⟩) (by assumption) ?_
  rotate_left
  · intro w hSw; (try dsimp only at hSw); go_simp <;> with_reducible rfl
  (try simp only [Act.put, List.setIfInBounds_toArray, List.set_cons_zero, List.set_cons_succ])
  refine wpAnyH_take (i := 7) (oi := ({ dst := some 38, op := Op.binOp BinOp.gtr 3 (Operand.tmp 37) (Operand.const (Value.int IntKind.i64 12)) 3, type := 4, pos := "law.go:70", after := #[{ on := 6, ground := Ground.data }, { on := 3, ground := Ground.guard }], guard := some (3, false) } : Oper)) (v := ?_) rfl (by kernel_rfl) (by kernel_rfl) (by kernel_rfl) (fun _ _ _ h => h) (Or.inl ⟨by rfl, ?_⟩) (by assumption) ?_
  rotate_left
  · intro w hSw; (try dsimp only at hSw); go_simp <;> with_reducible rfl
  (try simp only [Act.put, List.setIfInBounds_toArray, List.set_cons_zero, List.set_cons_succ])
  refine wpAnyH_take (i := 8) (oi := ({ dst := some 39, op := Op.pick (Operand.tmp 34) (Operand.const (Value.bool true)) (Operand.tmp 38), type := 4, pos := "law.go:70", after := #[{ on := 3, ground := Ground.data }, { on := 7, ground := Ground.data }], guard := none } : Oper)) (v := ?_) rfl (by kernel_rfl) (by kernel_rfl) (by kernel_rfl) (fun _ _ _ h => h) (Or.inl ⟨by rfl, ?_⟩) (by assumption) ?_
  rotate_left
  · intro w hSw; (try dsimp only at hSw); go_simp <;> with_reducible rfl
  (try simp only [Act.put, List.setIfInBounds_toArray, List.set_cons_zero, List.set_cons_succ])
  refine wpAnyH_take (i := 9) (oi := ({ dst := some 40, op := Op.move (Operand.tmp 39), type := 4, pos := "law.go:70", after := #[{ on := 8, ground := Ground.data }, { on := 3, ground := Ground.chain }], guard := none } : Oper)) (v := ?_) rfl (by kernel_rfl) (by kernel_rfl) (by kernel_rfl) (fun _ _ _ h => h) (Or.inl ⟨by rfl, ?_⟩) (by assumption) ?_
  rotate_left
  · intro w hSw; (try dsimp only at hSw); go_simp <;> with_reducible rfl
  (try simp only [Act.put, List.setIfInBounds_toArray, List.set_cons_zero, List.set_cons_succ])
  refine wpAnyH_take (i := 10) (oi := ({ dst := some 41, op := Op.move (Operand.tmp 10), type := 23, pos := "law.go:70", after := #[{ on := 9, ground := Ground.guard }], guard := some (9, false) } : Oper)) (v := ?_) rfl (by kernel_rfl) (by kernel_rfl) (by kernel_rfl) (fun _ _ _ h => h) (Or.inl ⟨by rfl, ?_⟩) (by assumption) ?_
  rotate_left
  · intro w hSw; (try dsimp only at hSw); go_simp <;> with_reducible rfl
  (try simp only [Act.put, List.setIfInBounds_toArray, List.set_cons_zero, List.set_cons_succ])
  refine wpAnyH_take (i := 11) (oi := ({ dst := some 42, op := Op.move (Operand.tmp 8), type := 22, pos := "law.go:70", after := #[{ on := 9, ground := Ground.guard }], guard := some (9, false) } : Oper)) (v := ?_) rfl (by kernel_rfl) (by kernel_rfl) (by kernel_rfl) (fun _ _ _ h => h) (Or.inl ⟨by rfl, ?_⟩) (by assumption) ?_
  rotate_left
  · intro w hSw; (try dsimp only at hSw); go_simp <;> with_reducible rfl
  (try simp only [Act.put, List.setIfInBounds_toArray, List.set_cons_zero, List.set_cons_succ])
  refine wpAnyH_take (i := 12) (oi := ({ dst := some 43, op := Op.call { callee := Callee.builtin Builtin.len, args := #[Operand.tmp 42], argTypes := #[22] }, type := 3, pos := "law.go:70", after := #[{ on := 11, ground := Ground.data }, { on := 9, ground := Ground.guard }], guard := some (9, false) } : Oper)) (v := ?_) rfl (by kernel_rfl) (by kernel_rfl) (by kernel_rfl) (fun _ _ _ h => h) (Or.inl ⟨by rfl, ?_⟩) (by assumption) ?_
  rotate_left
  · intro w hSw; (try dsimp only at hSw); go_simp <;> with_reducible rfl
  (try simp only [Act.put, List.setIfInBounds_toArray, List.set_cons_zero, List.set_cons_succ])
  refine wpAnyH_take (i := 13) (oi := ({ dst := some 44, op := Op.move (Operand.tmp 9), type := 3, pos := "law.go:70", after := #[{ on := 9, ground := Ground.guard }], guard := some (9, false) } : Oper)) (v := ?_) rfl (by kernel_rfl) (by kernel_rfl) (by kernel_rfl) (fun _ _ _ h => h) (Or.inl ⟨by rfl, ?_⟩) (by assumption) ?_
  rotate_left
  · intro w hSw; (try dsimp only at hSw); go_simp <;> with_reducible rfl
  (try simp only [Act.put, List.setIfInBounds_toArray, List.set_cons_zero, List.set_cons_succ])
  refine wpAnyH_take (i := 14) (oi := ({ dst := some 45, op := Op.move (Operand.tmp 8), type := 22, pos := "law.go:70", after := #[{ on := 9, ground := Ground.guard }], guard := some (9, false) } : Oper)) (v := ?_) rfl (by kernel_rfl) (by kernel_rfl) (by kernel_rfl) (fun _ _ _ h => h) (Or.inl ⟨by rfl, ?_⟩) (by assumption) ?_
  rotate_left
  · intro w hSw; (try dsimp only at hSw); go_simp <;> with_reducible rfl
  (try simp only [Act.put, List.setIfInBounds_toArray, List.set_cons_zero, List.set_cons_succ])
  refine wpAnyH_take (i := 15) (oi := ({ dst := some 46, op := Op.move (Operand.tmp 9), type := 3, pos := "law.go:70", after := #[{ on := 9, ground := Ground.guard }], guard := some (9, false) } : Oper)) (v := ?_) rfl (by kernel_rfl) (by kernel_rfl) (by kernel_rfl) (fun _ _ _ h => h) (Or.inl ⟨by rfl, ?_⟩) (by assumption) ?_
  rotate_left
  · intro w hSw; (try dsimp only at hSw); go_simp <;> with_reducible rfl
  (try simp only [Act.put, List.setIfInBounds_toArray, List.set_cons_zero, List.set_cons_succ])
  refine wpAnyH_take (i := 16) (oi := ({ dst := some 47, op := Op.indexAddr 22 (Operand.tmp 45) (Operand.tmp 46), type := 0, pos := "law.go:70", after := #[{ on := 14, ground := Ground.data }, { on := 15, ground := Ground.data }, { on := 9, ground := Ground.guard }], guard := some (9, false) } : Oper)) (v := ?_) rfl (by kernel_rfl) (by kernel_rfl) (by kernel_rfl) (fun _ _ _ h => h) (Or.inl ⟨by rfl, ?_⟩) (by assumption) ?_
  rotate_left
  · intro w hSw; (try dsimp only at hSw); go_simp <;> with_reducible rfl
  (try simp only [Act.put, List.setIfInBounds_toArray, List.set_cons_zero, List.set_cons_succ])
  refine wpAnyH_take (i := 17) (oi := ({ dst := some 48, op := Op.load 23 (Operand.tmp 47), type := 23, pos := "law.go:70", after := #[{ on := 16, ground := Ground.data }, { on := 9, ground := Ground.guard }], guard := some (9, false) } : Oper)) (v := ?_) rfl (by kernel_rfl) (by kernel_rfl) (by kernel_rfl) (fun _ _ _ h => h) (Or.inl ⟨by rfl, ?_⟩) (by assumption) ?_
  rotate_left
  · intro w hSw; (try dsimp only at hSw); go_simp <;> with_reducible rfl
  (try simp only [Act.put, List.setIfInBounds_toArray, List.set_cons_zero, List.set_cons_succ])
  refine wpAnyH_take (i := 18) (oi := ({ dst := some 49, op := Op.fieldAddr 32 (Operand.tmp 11) 0, type := 0, pos := "law.go:70", after := #[{ on := 9, ground := Ground.guard }], guard := some (9, false) } : Oper)) (v := ?_) rfl (by kernel_rfl) (by kernel_rfl) (by kernel_rfl) (fun _ _ _ h => h) (Or.inl ⟨by rfl, ?_⟩) (by assumption) ?_
  rotate_left
  · intro w hSw; (try dsimp only at hSw); go_simp <;> with_reducible rfl
  (try simp only [Act.put, List.setIfInBounds_toArray, List.set_cons_zero, List.set_cons_succ])
  refine wpAnyH_take (i := 19) (oi := ({ dst := some 50, op := Op.load 22 (Operand.tmp 49), type := 22, pos := "law.go:70", after := #[{ on := 18, ground := Ground.data }, { on := 9, ground := Ground.guard }], guard := some (9, false) } : Oper)) (v := ?_) rfl (by kernel_rfl) (by kernel_rfl) (by kernel_rfl) (fun _ _ _ h => h) (Or.inl ⟨by rfl, ?_⟩) (by assumption) ?_
  rotate_left
  · intro w hSw; (try dsimp only at hSw); go_simp <;> with_reducible rfl
  (try simp only [Act.put, List.setIfInBounds_toArray, List.set_cons_zero, List.set_cons_succ])
  refine wpAnyH_take (i := 20) (oi := ({ dst := some 51, op := Op.build 25 #[(0, Operand.tmp 48), (1, Operand.tmp 50)], type := 25, pos := "law.go:70", after := #[{ on := 17, ground := Ground.data }, { on := 19, ground := Ground.data }, { on := 9, ground := Ground.guard }], guard := some (9, false) } : Oper)) (v := ?_) rfl (by kernel_rfl) (by kernel_rfl) (by kernel_rfl) (fun _ _ _ h => h) (Or.inl ⟨by rfl, ?_⟩) (by assumption) ?_
  rotate_left
  · intro w hSw; (try dsimp only at hSw); go_simp <;> with_reducible rfl
  (try simp only [Act.put, List.setIfInBounds_toArray, List.set_cons_zero, List.set_cons_succ])
  refine wpAnyH_ready (rs := [21]) (by kernel_rfl) (by simp) ?_
  refine AllReadyH.cons (o := ({ dst := some 52, op := Op.call { callee := Callee.value (Operand.func 15), args := #[Operand.tmp 41, Operand.tmp 43, Operand.tmp 44, Operand.tmp 51], argTypes := #[23, 3, 3, 25] }, type := 30, pos := "law.go:70", after := #[{ on := 10, ground := Ground.data }, { on := 12, ground := Ground.data }, { on := 13, ground := Ground.data }, { on := 20, ground := Ground.data }, { on := 9, ground := Ground.chain }, { on := 9, ground := Ground.guard }], guard := some (9, false) } : Oper)) rfl (fun K hK => ?_) ?_
  rotate_left
  · exact AllReadyH.nil
  go_simp
  go_at_call 15
  with_reducible refine (check_at (rootB L) x (N : Int) (kk : Int) 0 P np p3 c3 HNP.out CK1.out U5 hsd).mono ?_
  rintro e y0 ⟨rfl, hq0⟩
  have hB0 := below_step hsd hq0
  clear hHeld
  first | (with_reducible refine hK.out _ _ ?_ (fun hHeld => ?_)) | (go_wp2_with fail; with_reducible refine hK.out _ _ ?_ (fun hHeld => ?_))
  · exact ⟨cell_below hB0 P0, cell_below hB0 P1, cell_below hB0 C5, hB0⟩
  clear hK K
  (try simp only [Act.put, List.setIfInBounds_toArray, List.set_cons_zero, List.set_cons_succ])
  refine wpAnyH_take (i := 22) (oi := ({ dst := some 53, op := Op.binOp BinOp.neq 30 (Operand.tmp 52) (Operand.const (Value.int IntKind.i64 0)) 30, type := 4, pos := "law.go:70", after := #[{ on := 21, ground := Ground.data }, { on := 9, ground := Ground.guard }], guard := some (9, false) } : Oper)) (v := ?_) rfl (by kernel_rfl) (by kernel_rfl) (by kernel_rfl) (fun _ _ _ h => h) (Or.inl ⟨by rfl, ?_⟩) (by assumption) ?_
  rotate_left
  · intro w hSw; (try dsimp only at hSw); go_simp <;> with_reducible rfl
  (try simp only [Act.put, List.setIfInBounds_toArray, List.set_cons_zero, List.set_cons_succ])
  refine wpAnyH_take (i := 23) (oi := ({ dst := some 54, op := Op.pick (Operand.tmp 40) (Operand.const (Value.bool true)) (Operand.tmp 53), type := 4, pos := "law.go:70", after := #[{ on := 9, ground := Ground.data }, { on := 22, ground := Ground.data }], guard := none } : Oper)) (v := ?_) rfl (by kernel_rfl) (by kernel_rfl) (by kernel_rfl) (fun _ _ _ h => h) (Or.inl ⟨by rfl, ?_⟩) (by assumption) ?_
  rotate_left
  · intro w hSw; (try dsimp only at hSw); go_simp <;> with_reducible rfl
  (try simp only [Act.put, List.setIfInBounds_toArray, List.set_cons_zero, List.set_cons_succ])
  refine wpAnyH_done (by kernel_rfl) ?_ _
  clear hHeld
  have Q0 := cell_below hB0 P0
  clear P0 P1 C5
  have HE := hid (B1.out.trans ((B5.out.mono B1.out.size).trans (hB0.mono (by have := B1.out.size; have := B5.out.size; omega))))
  go_wp2_with fail
  go_ret
  exact ⟨rfl, HE.out⟩

set_option maxRecDepth 100000 in
set_option maxHeartbeats 4000000 in
theorem opens_walk_more (l : List (BitVec 64)) (v : Value) (n i : Nat) (hn : n ≤ 65535) (hi : i ≤ 65535) (W : World) (hv : U64Big W v l) (h1 : Hid (¬ 1 + n % 4096 = 1)) :
    Calls Try.prog 4 #[v, .int .u16 (n : Int), .int .u16 (i : Int)] W fun e w' => e = .returned (.bool true) ∧ Below W.heap.size W w' := by
  have HV := hid hv
  clear hv
  obtain ⟨N, hN⟩ : ∃ N, 1 + n % 4096 = N := ⟨_, rfl⟩
  have hN1 : 1 ≤ N := by omega
  have hN2 : N ≤ 4096 := by omega
  obtain ⟨kk, hK⟩ : ∃ kk, i % N = kk := ⟨_, rfl⟩
  have hK1 : kk < N := by rw [← hK]; exact Nat.mod_lt _ hN1
  obtain ⟨L, hL⟩ : ∃ L, growB l N = L := ⟨_, rfl⟩
  have hLl : L.length = N := by rw [← hL]; exact growB_len l N
  obtain ⟨P, hP⟩ : ∃ P, pathB L kk = P := ⟨_, rfl⟩
  obtain ⟨np, hnp⟩ : ∃ np, P.length = np := ⟨_, rfl⟩
  have hp12 : np ≤ 12 := by rw [← hnp, ← hP, pathB_len, hLl]; exact sibs_len12 kk hN2
  have OP := opens_path L N kk hLl hK1 hN2
  rw [hP] at OP
  have GR := hid (fun (x : Int) (hx : x = (N : Int)) (w : World) (h : Below W.heap.size W w) => hL ▸ grown_v l v N (by omega) hx w (HV.out.below h))
  have hKL : kk < L.length := by omega
  have CK := check_ok L kk hKL (by omega)
  rw [hP] at CK
  obtain ⟨x, hx⟩ : ∃ x, L[kk]'hKL = x := ⟨_, rfl⟩
  rw [hx] at CK
  have HX1 := hid hx
  have CK1 := hid (show checkE (rootB L) (N : Int) (kk : Int) x P = 0 by rw [← hLl]; exact CK)
  have HX := hid (show (1 : Int) + (n : Int) % 4096 = (N : Int) by omega)
  have hKI : (i : Int) % (N : Int) = (kk : Int) := by omega
  have HKI := hid hKI
  have HLl := hid hLl
  have HOP := hid OP.1
  have HPL := hid OP.2
  have HNP := hid hnp
  have t1 : ((N : Int) == 0) = false := by rw [beq_eq_false_iff_ne]; omega
  have t2 : decide ((12 : Int) < (np : Int)) = false := by simp; omega
  have t3 : (0 : Int) ≤ (kk : Int) := by omega
  have t4 : (kk : Int) < (N : Int) := by omega
  have t5 : ((N : Int) == 1) = false := by have := h1.out; rw [beq_eq_false_iff_ne]; omega
  clear hN hK hL hP OP hKI hnp hLl hx CK
  go_enter Try.func4, Try.ntmps4
  go_wp2_with fail
  refine (examples_any _).mono ?_
  rintro e w0 ⟨rfl, hb⟩
  have B0 := hid hb; clear hb
  go_wp2_with fail
  refine (GR.out _ HX.out _ B0.out).mono ?_
  rintro e w1 ⟨p1, c1, rfl, hu1, hb1⟩
  have U1 := hid hu1
  have B1 := hid (below_step B0.out hb1)
  obtain ⟨-, pp, cc, e1, -, -, -, h2⟩ := hu1
  have h2' := h2 (by have := HLl.out; omega)
  obtain ⟨b, o, e2, hc⟩ := h2'
  simp only [Value.slice.injEq] at e1
  obtain ⟨rfl, -, rfl⟩ := e1
  subst e2
  have hcell := hc kk hKL
  rw [HX1.out] at hcell
  have C1 := hid hcell
  clear hc hb1 hcell
  go_wp2_with fail
  refine (root_b _ _ _ U1.out).mono ?_
  rintro e w2 ⟨rfl, hb2⟩
  rw [HKI.out]
  have B2 := hid hb2; clear hb2
  go_wp2_with fail
  refine (open_at L P 0 _ kk _ (U1.out.below B2.out) HOP.out HPL.out).mono ?_
  rintro e w3 ⟨p3, c3, rfl, hu3, hb3⟩
  rw [HNP.out] at hu3 ⊢
  have U3 := hid hu3
  have B3 := hid (below_step B2.out hb3)
  clear hu3 hb3
  go_wp2_with fail
  have h5 := opened_box w3 (.slice p3 np c3) (.int .i64 0)
  have hb5 := below_a0 w3 (.cells #[.slice p3 np c3, .int .i64 0] 32)
  obtain ⟨W5, hW5⟩ : ∃ W5, w3.alloc (.cells #[.slice p3 np c3, .int .i64 0] 32) = W5 := ⟨_, rfl⟩
  rw [hW5] at h5 hb5 ⊢
  have B5 := hid (below_step B3.out hb5)
  have U5 := hid (U3.out.below hb5)
  have P0 := blk_cell h5 (j := 0) (v := .slice p3 np c3) rfl
  have P1 := blk_cell h5 (j := 1) (v := .int .i64 0) rfl
  have C5 := cell_below B5.out C1.out
  have HB5 := hid h5
  clear hW5 h5 hb5
  have hsd := (Below.refl W5.heap.size W5).drew
  refine wp_region_held_drew (S := fun W' => (W'.cell? ⟨w3.heap.size, 0, none⟩ = some (.slice p3 np c3) ∧ W'.cell? ⟨w3.heap.size, 1, none⟩ = some (.int .i64 0) ∧ W'.cell? ⟨b, o + kk, none⟩ = some (.int .u64 (x.toNat : Int)) ∧ Below W5.heap.size W5 W')) (by kernel_rfl) ?_ (fun hHeld => ?_)
  · exact ⟨P0, P1, C5, hsd⟩
  refine wpAnyH_take (i := 0) (oi := ({ dst := some 31, op := Op.fieldAddr 32 (Operand.tmp 11) 1, type := 0, pos := "law.go:70", after := #[], guard := none } : Oper)) (v := ?_) rfl (by kernel_rfl) (by kernel_rfl) (by kernel_rfl) (fun _ _ _ h => h) (Or.inl ⟨by rfl, ?_⟩) (by assumption) ?_
  rotate_left
  · intro w hSw; (try dsimp only at hSw); go_simp <;> with_reducible rfl
  (try simp only [Act.put, List.setIfInBounds_toArray, List.set_cons_zero, List.set_cons_succ])
  refine wpAnyH_take (i := 1) (oi := ({ dst := some 32, op := Op.load 30 (Operand.tmp 31), type := 30, pos := "law.go:70", after := #[{ on := 0, ground := Ground.data }], guard := none } : Oper)) (v := ?_) rfl (by kernel_rfl) (by kernel_rfl) (by kernel_rfl) (fun _ _ _ h => h) (Or.inl ⟨by rfl, ?_⟩) (by assumption) ?_
  rotate_left
  · intro w hSw; (try dsimp only at hSw); go_simp <;> with_reducible rfl
  (try simp only [Act.put, List.setIfInBounds_toArray, List.set_cons_zero, List.set_cons_succ])
  refine wpAnyH_take (i := 2) (oi := ({ dst := some 33, op := Op.binOp BinOp.neq 30 (Operand.tmp 32) (Operand.const (Value.int IntKind.i64 0)) 30, type := 4, pos := "law.go:70", after := #[{ on := 1, ground := Ground.data }], guard := none } : Oper)) (v := ?_) rfl (by kernel_rfl) (by kernel_rfl) (by kernel_rfl) (fun _ _ _ h => h) (Or.inl ⟨by rfl, ?_⟩) (by assumption) ?_
  rotate_left
  · intro w hSw; (try dsimp only at hSw); go_simp <;> with_reducible rfl
  (try simp only [Act.put, List.setIfInBounds_toArray, List.set_cons_zero, List.set_cons_succ])
  refine wpAnyH_take (i := 3) (oi := ({ dst := some 34, op := Op.move (Operand.tmp 33), type := 4, pos := "law.go:70", after := #[{ on := 2, ground := Ground.data }], guard := none } : Oper)) (v := ?_) rfl (by kernel_rfl) (by kernel_rfl) (by kernel_rfl) (fun _ _ _ h => h) (Or.inl ⟨by rfl, ?_⟩) (by assumption) ?_
  rotate_left
  · intro w hSw; (try dsimp only at hSw); go_simp <;> with_reducible rfl
  (try simp only [Act.put, List.setIfInBounds_toArray, List.set_cons_zero, List.set_cons_succ])
  refine wpAnyH_take (i := 4) (oi := ({ dst := some 35, op := Op.fieldAddr 32 (Operand.tmp 11) 0, type := 0, pos := "law.go:70", after := #[{ on := 3, ground := Ground.guard }], guard := some (3, false) } : Oper)) (v := ?_) rfl (by kernel_rfl) (by kernel_rfl) (by kernel_rfl) (fun _ _ _ h => h) (Or.inl ⟨by rfl, ?_⟩) (by assumption) ?_
  rotate_left
  · intro w hSw; (try dsimp only at hSw); go_simp <;> with_reducible rfl
  (try simp only [Act.put, List.setIfInBounds_toArray, List.set_cons_zero, List.set_cons_succ])
  refine wpAnyH_take (i := 5) (oi := ({ dst := some 36, op := Op.load 22 (Operand.tmp 35), type := 22, pos := "law.go:70", after := #[{ on := 4, ground := Ground.data }, { on := 3, ground := Ground.guard }], guard := some (3, false) } : Oper)) (v := ?_) rfl (by kernel_rfl) (by kernel_rfl) (by kernel_rfl) (fun _ _ _ h => h) (Or.inl ⟨by rfl, ?_⟩) (by assumption) ?_
  rotate_left
  · intro w hSw; (try dsimp only at hSw); go_simp <;> with_reducible rfl
  (try simp only [Act.put, List.setIfInBounds_toArray, List.set_cons_zero, List.set_cons_succ])
  refine wpAnyH_take (i := 6) (oi := ({ dst := some 37, op := Op.call { callee := Callee.builtin Builtin.len, args := #[Operand.tmp 36], argTypes := #[22] }, type := 3, pos := "law.go:70", after := #[{ on := 5, ground := Ground.data }, { on := 3, ground := Ground.guard }], guard := some (3, false) } : Oper)) (v := ?_) rfl (by kernel_rfl) (by kernel_rfl) (by kernel_rfl) (fun _ _ _ h => h) (Or.inl ⟨by rfl, ?_⟩) (by assumption) ?_
  rotate_left
  · intro w hSw; (try dsimp only at hSw); go_simp <;> with_reducible rfl
  (try simp only [Act.put, List.setIfInBounds_toArray, List.set_cons_zero, List.set_cons_succ])
  refine wpAnyH_take (i := 7) (oi := ({ dst := some 38, op := Op.binOp BinOp.gtr 3 (Operand.tmp 37) (Operand.const (Value.int IntKind.i64 12)) 3, type := 4, pos := "law.go:70", after := #[{ on := 6, ground := Ground.data }, { on := 3, ground := Ground.guard }], guard := some (3, false) } : Oper)) (v := ?_) rfl (by kernel_rfl) (by kernel_rfl) (by kernel_rfl) (fun _ _ _ h => h) (Or.inl ⟨by rfl, ?_⟩) (by assumption) ?_
  rotate_left
  · intro w hSw; (try dsimp only at hSw); go_simp <;> with_reducible rfl
  (try simp only [Act.put, List.setIfInBounds_toArray, List.set_cons_zero, List.set_cons_succ])
  refine wpAnyH_take (i := 8) (oi := ({ dst := some 39, op := Op.pick (Operand.tmp 34) (Operand.const (Value.bool true)) (Operand.tmp 38), type := 4, pos := "law.go:70", after := #[{ on := 3, ground := Ground.data }, { on := 7, ground := Ground.data }], guard := none } : Oper)) (v := ?_) rfl (by kernel_rfl) (by kernel_rfl) (by kernel_rfl) (fun _ _ _ h => h) (Or.inl ⟨by rfl, ?_⟩) (by assumption) ?_
  rotate_left
  · intro w hSw; (try dsimp only at hSw); go_simp <;> with_reducible rfl
  (try simp only [Act.put, List.setIfInBounds_toArray, List.set_cons_zero, List.set_cons_succ])
  refine wpAnyH_take (i := 9) (oi := ({ dst := some 40, op := Op.move (Operand.tmp 39), type := 4, pos := "law.go:70", after := #[{ on := 8, ground := Ground.data }, { on := 3, ground := Ground.chain }], guard := none } : Oper)) (v := ?_) rfl (by kernel_rfl) (by kernel_rfl) (by kernel_rfl) (fun _ _ _ h => h) (Or.inl ⟨by rfl, ?_⟩) (by assumption) ?_
  rotate_left
  · intro w hSw; (try dsimp only at hSw); go_simp <;> with_reducible rfl
  (try simp only [Act.put, List.setIfInBounds_toArray, List.set_cons_zero, List.set_cons_succ])
  refine wpAnyH_take (i := 10) (oi := ({ dst := some 41, op := Op.move (Operand.tmp 10), type := 23, pos := "law.go:70", after := #[{ on := 9, ground := Ground.guard }], guard := some (9, false) } : Oper)) (v := ?_) rfl (by kernel_rfl) (by kernel_rfl) (by kernel_rfl) (fun _ _ _ h => h) (Or.inl ⟨by rfl, ?_⟩) (by assumption) ?_
  rotate_left
  · intro w hSw; (try dsimp only at hSw); go_simp <;> with_reducible rfl
  (try simp only [Act.put, List.setIfInBounds_toArray, List.set_cons_zero, List.set_cons_succ])
  refine wpAnyH_take (i := 11) (oi := ({ dst := some 42, op := Op.move (Operand.tmp 8), type := 22, pos := "law.go:70", after := #[{ on := 9, ground := Ground.guard }], guard := some (9, false) } : Oper)) (v := ?_) rfl (by kernel_rfl) (by kernel_rfl) (by kernel_rfl) (fun _ _ _ h => h) (Or.inl ⟨by rfl, ?_⟩) (by assumption) ?_
  rotate_left
  · intro w hSw; (try dsimp only at hSw); go_simp <;> with_reducible rfl
  (try simp only [Act.put, List.setIfInBounds_toArray, List.set_cons_zero, List.set_cons_succ])
  refine wpAnyH_take (i := 12) (oi := ({ dst := some 43, op := Op.call { callee := Callee.builtin Builtin.len, args := #[Operand.tmp 42], argTypes := #[22] }, type := 3, pos := "law.go:70", after := #[{ on := 11, ground := Ground.data }, { on := 9, ground := Ground.guard }], guard := some (9, false) } : Oper)) (v := ?_) rfl (by kernel_rfl) (by kernel_rfl) (by kernel_rfl) (fun _ _ _ h => h) (Or.inl ⟨by rfl, ?_⟩) (by assumption) ?_
  rotate_left
  · intro w hSw; (try dsimp only at hSw); go_simp <;> with_reducible rfl
  (try simp only [Act.put, List.setIfInBounds_toArray, List.set_cons_zero, List.set_cons_succ])
  refine wpAnyH_take (i := 13) (oi := ({ dst := some 44, op := Op.move (Operand.tmp 9), type := 3, pos := "law.go:70", after := #[{ on := 9, ground := Ground.guard }], guard := some (9, false) } : Oper)) (v := ?_) rfl (by kernel_rfl) (by kernel_rfl) (by kernel_rfl) (fun _ _ _ h => h) (Or.inl ⟨by rfl, ?_⟩) (by assumption) ?_
  rotate_left
  · intro w hSw; (try dsimp only at hSw); go_simp <;> with_reducible rfl
  (try simp only [Act.put, List.setIfInBounds_toArray, List.set_cons_zero, List.set_cons_succ])
  refine wpAnyH_take (i := 14) (oi := ({ dst := some 45, op := Op.move (Operand.tmp 8), type := 22, pos := "law.go:70", after := #[{ on := 9, ground := Ground.guard }], guard := some (9, false) } : Oper)) (v := ?_) rfl (by kernel_rfl) (by kernel_rfl) (by kernel_rfl) (fun _ _ _ h => h) (Or.inl ⟨by rfl, ?_⟩) (by assumption) ?_
  rotate_left
  · intro w hSw; (try dsimp only at hSw); go_simp <;> with_reducible rfl
  (try simp only [Act.put, List.setIfInBounds_toArray, List.set_cons_zero, List.set_cons_succ])
  refine wpAnyH_take (i := 15) (oi := ({ dst := some 46, op := Op.move (Operand.tmp 9), type := 3, pos := "law.go:70", after := #[{ on := 9, ground := Ground.guard }], guard := some (9, false) } : Oper)) (v := ?_) rfl (by kernel_rfl) (by kernel_rfl) (by kernel_rfl) (fun _ _ _ h => h) (Or.inl ⟨by rfl, ?_⟩) (by assumption) ?_
  rotate_left
  · intro w hSw; (try dsimp only at hSw); go_simp <;> with_reducible rfl
  (try simp only [Act.put, List.setIfInBounds_toArray, List.set_cons_zero, List.set_cons_succ])
  refine wpAnyH_take (i := 16) (oi := ({ dst := some 47, op := Op.indexAddr 22 (Operand.tmp 45) (Operand.tmp 46), type := 0, pos := "law.go:70", after := #[{ on := 14, ground := Ground.data }, { on := 15, ground := Ground.data }, { on := 9, ground := Ground.guard }], guard := some (9, false) } : Oper)) (v := ?_) rfl (by kernel_rfl) (by kernel_rfl) (by kernel_rfl) (fun _ _ _ h => h) (Or.inl ⟨by rfl, ?_⟩) (by assumption) ?_
  rotate_left
  · intro w hSw; (try dsimp only at hSw); go_simp <;> with_reducible rfl
  (try simp only [Act.put, List.setIfInBounds_toArray, List.set_cons_zero, List.set_cons_succ])
  refine wpAnyH_take (i := 17) (oi := ({ dst := some 48, op := Op.load 23 (Operand.tmp 47), type := 23, pos := "law.go:70", after := #[{ on := 16, ground := Ground.data }, { on := 9, ground := Ground.guard }], guard := some (9, false) } : Oper)) (v := ?_) rfl (by kernel_rfl) (by kernel_rfl) (by kernel_rfl) (fun _ _ _ h => h) (Or.inl ⟨by rfl, ?_⟩) (by assumption) ?_
  rotate_left
  · intro w hSw; (try dsimp only at hSw); go_simp <;> with_reducible rfl
  (try simp only [Act.put, List.setIfInBounds_toArray, List.set_cons_zero, List.set_cons_succ])
  refine wpAnyH_take (i := 18) (oi := ({ dst := some 49, op := Op.fieldAddr 32 (Operand.tmp 11) 0, type := 0, pos := "law.go:70", after := #[{ on := 9, ground := Ground.guard }], guard := some (9, false) } : Oper)) (v := ?_) rfl (by kernel_rfl) (by kernel_rfl) (by kernel_rfl) (fun _ _ _ h => h) (Or.inl ⟨by rfl, ?_⟩) (by assumption) ?_
  rotate_left
  · intro w hSw; (try dsimp only at hSw); go_simp <;> with_reducible rfl
  (try simp only [Act.put, List.setIfInBounds_toArray, List.set_cons_zero, List.set_cons_succ])
  refine wpAnyH_take (i := 19) (oi := ({ dst := some 50, op := Op.load 22 (Operand.tmp 49), type := 22, pos := "law.go:70", after := #[{ on := 18, ground := Ground.data }, { on := 9, ground := Ground.guard }], guard := some (9, false) } : Oper)) (v := ?_) rfl (by kernel_rfl) (by kernel_rfl) (by kernel_rfl) (fun _ _ _ h => h) (Or.inl ⟨by rfl, ?_⟩) (by assumption) ?_
  rotate_left
  · intro w hSw; (try dsimp only at hSw); go_simp <;> with_reducible rfl
  (try simp only [Act.put, List.setIfInBounds_toArray, List.set_cons_zero, List.set_cons_succ])
  refine wpAnyH_take (i := 20) (oi := ({ dst := some 51, op := Op.build 25 #[(0, Operand.tmp 48), (1, Operand.tmp 50)], type := 25, pos := "law.go:70", after := #[{ on := 17, ground := Ground.data }, { on := 19, ground := Ground.data }, { on := 9, ground := Ground.guard }], guard := some (9, false) } : Oper)) (v := ?_) rfl (by kernel_rfl) (by kernel_rfl) (by kernel_rfl) (fun _ _ _ h => h) (Or.inl ⟨by rfl, ?_⟩) (by assumption) ?_
  rotate_left
  · intro w hSw; (try dsimp only at hSw); go_simp <;> with_reducible rfl
  (try simp only [Act.put, List.setIfInBounds_toArray, List.set_cons_zero, List.set_cons_succ])
  refine wpAnyH_ready (rs := [21]) (by kernel_rfl) (by simp) ?_
  refine AllReadyH.cons (o := ({ dst := some 52, op := Op.call { callee := Callee.value (Operand.func 15), args := #[Operand.tmp 41, Operand.tmp 43, Operand.tmp 44, Operand.tmp 51], argTypes := #[23, 3, 3, 25] }, type := 30, pos := "law.go:70", after := #[{ on := 10, ground := Ground.data }, { on := 12, ground := Ground.data }, { on := 13, ground := Ground.data }, { on := 20, ground := Ground.data }, { on := 9, ground := Ground.chain }, { on := 9, ground := Ground.guard }], guard := some (9, false) } : Oper)) rfl (fun K hK => ?_) ?_
  rotate_left
  · exact AllReadyH.nil
  go_simp
  go_at_call 15
  with_reducible refine (check_at (rootB L) x (N : Int) (kk : Int) 0 P np p3 c3 HNP.out CK1.out U5 hsd).mono ?_
  rintro e y0 ⟨rfl, hq0⟩
  have hB0 := below_step hsd hq0
  clear hHeld
  first | (with_reducible refine hK.out _ _ ?_ (fun hHeld => ?_)) | (go_wp2_with fail; with_reducible refine hK.out _ _ ?_ (fun hHeld => ?_))
  · exact ⟨cell_below hB0 P0, cell_below hB0 P1, cell_below hB0 C5, hB0⟩
  clear hK K
  (try simp only [Act.put, List.setIfInBounds_toArray, List.set_cons_zero, List.set_cons_succ])
  refine wpAnyH_take (i := 22) (oi := ({ dst := some 53, op := Op.binOp BinOp.neq 30 (Operand.tmp 52) (Operand.const (Value.int IntKind.i64 0)) 30, type := 4, pos := "law.go:70", after := #[{ on := 21, ground := Ground.data }, { on := 9, ground := Ground.guard }], guard := some (9, false) } : Oper)) (v := ?_) rfl (by kernel_rfl) (by kernel_rfl) (by kernel_rfl) (fun _ _ _ h => h) (Or.inl ⟨by rfl, ?_⟩) (by assumption) ?_
  rotate_left
  · intro w hSw; (try dsimp only at hSw); go_simp <;> with_reducible rfl
  (try simp only [Act.put, List.setIfInBounds_toArray, List.set_cons_zero, List.set_cons_succ])
  refine wpAnyH_take (i := 23) (oi := ({ dst := some 54, op := Op.pick (Operand.tmp 40) (Operand.const (Value.bool true)) (Operand.tmp 53), type := 4, pos := "law.go:70", after := #[{ on := 9, ground := Ground.data }, { on := 22, ground := Ground.data }], guard := none } : Oper)) (v := ?_) rfl (by kernel_rfl) (by kernel_rfl) (by kernel_rfl) (fun _ _ _ h => h) (Or.inl ⟨by rfl, ?_⟩) (by assumption) ?_
  rotate_left
  · intro w hSw; (try dsimp only at hSw); go_simp <;> with_reducible rfl
  (try simp only [Act.put, List.setIfInBounds_toArray, List.set_cons_zero, List.set_cons_succ])
  refine wpAnyH_done (by kernel_rfl) ?_ _
  clear hHeld
  have Q0 := cell_below hB0 P0
  clear P0 P1 C5
  have HE := hid (B1.out.trans ((B5.out.mono B1.out.size).trans (hB0.mono (by have := B1.out.size; have := B5.out.size; omega))))
  go_wp2_with fail
  go_ret
  exact ⟨rfl, HE.out⟩


theorem opens_any (l : List (BitVec 64)) (v : Value) (n i : Nat) (hn : n ≤ 65535) (hi : i ≤ 65535) (W : World) (hv : U64Big W v l) :
    Calls Try.prog 4 #[v, .int .u16 (n : Int), .int .u16 (i : Int)] W fun e w' => e = .returned (.bool true) ∧ Below W.heap.size W w' := by
  by_cases h : 1 + n % 4096 = 1
  · exact opens_walk_one l v n i hn hi W hv h
  · exact opens_walk_more l v n i hn hi W hv h

theorem merkleOpens_contract (H : Type) (enc : TypeId × Value → H) (W : World) (base : Nat) (args : Array Value) (ds gs : List (DataW H)) (before : List MemPlace)
    (hval : ∀ (j : Nat) t v, Try.f4.params[j]? = some t → args[j]? = some v → Value.okWide Try.prog W .any base t v)
    (hW : DataW.Whole enc Try.prog Try.f4.params.toList Rows.merkleOpensSpec.vars false W args.toList ds gs before) :
    Calls Try.prog 4 args W fun e W' => ∃ v, e = .returned v ∧ Rows.merkleOpensSpec.post enc Try.prog Try.f4 false true false false W args v W' := by
  have hW' := hW
  obtain ⟨p, q, hA0, hV, rfl, hfz, hnd⟩ := hW
  have hA : DataW.TrodAll enc Try.prog W 0 (fun _ => true) true Try.f4.params.toList args.toList ds p := hA0
  rw [Try.params4] at hA hval
  obtain ⟨v0, vs0, d0, ds0, p0, q0, hargs, rfl, rfl, h0, r0⟩ := trodAll_cons hA
  obtain ⟨v1, vs1, d1, ds1, p1, q1, rfl, rfl, rfl, h1, r1⟩ := trodAll_cons r0
  obtain ⟨v2, vs2, d2, ds2, p2, q2, rfl, rfl, rfl, h2, r2⟩ := trodAll_cons r1
  obtain ⟨rfl, rfl, rfl⟩ := trodAll_nil r2
  obtain rfl : args = #[v0, v1, v2] := by cases args; simp_all
  obtain ⟨rfl, rfl⟩ := trodVars_none hV
  obtain ⟨t0, in0⟩ := open_u64l (hval 0 _ v0 rfl rfl) h0
  obtain ⟨z1, rfl, rfl, rfl, wf1⟩ := open_int Try.underlying44 (hval 1 44 v1 rfl rfl) h1
  obtain ⟨t1, rfl, h16_1⟩ := bd16 wf1
  obtain ⟨z2, rfl, rfl, rfl, wf2⟩ := open_int Try.underlying44 (hval 2 44 v2 rfl rfl) h2
  obtain ⟨t2, rfl, h16_2⟩ := bd16 wf2
  refine (opens_any t0 v0 t1 t2 h16_1 h16_2 W in0).mono fun e W' ⟨he, hg⟩ => ?_
  subst he
  exact ⟨_, rfl, post_true (T := 4) (by kernel_rfl) (by kernel_rfl) rfl rfl (by kernel_rfl) hW' hg rfl⟩

set_option maxRecDepth 100000 in
theorem merkleOpens_lifted (os : Os) (started : os.Started) (H : Type) (enc : TypeId × Value → H) :
    ReturnsInHanded {} Try.checked os 4 .any (Rows.merkleOpensSpec.pre6 enc Try.prog Try.f4 Rows.merkleOpensRow.domain false) (Rows.merkleOpensSpec.post enc Try.prog Try.f4 false true false false) := by
  refine returnsInHanded_of_change (C := Try.checked) own started (by kernel_rfl) Try.func4
    (ChangeSpec.witness6 (enc := enc) (C := Try.checked) false ⟨#[], #[.slice none 0 0, .int .u16 0, .int .u16 0], []⟩ 8 (by kernel_rfl) (by kernel_rfl) (by kernel_rfl) (by kernel_rfl)) ?_
  intro W base args ds gs before hval hW _ _
  exact merkleOpens_contract H enc W base args ds gs before hval hW

theorem merkleOpens_holds : Rows.MerkleOpensSaid :=
  OpenClaim.holds_of_wide 4 Try.f4 rfl rfl rfl rfl rfl rfl rfl ⟨rfl, rfl, rfl, rfl, rfl⟩ rfl rfl rfl rfl rfl (by kernel_rfl) Try.func4 (by kernel_rfl)
    (of_decide_eq_true (by kernel_rfl)) (by unfold Func.isWrapper; rw [if_neg (of_decide_eq_false (by kernel_rfl))]; exact ⟨rfl, rfl⟩)
    (fun os started H enc _ => merkleOpens_lifted os started H enc)
end Go.Proofs.Ytagpinpelgkjcaa

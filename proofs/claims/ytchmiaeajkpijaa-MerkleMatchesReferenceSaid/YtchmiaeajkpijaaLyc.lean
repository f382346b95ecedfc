import Derived.Test.YtchmiaeajkpijaaLyp
import Derived.Deep.Cut
namespace Go.Proofs.Ytchmiaeajkpijaa
open Go.RowKit Go.Instr
set_option linter.unusedVariables false

/-! The reference's 'Check'. -/
theorem rsteps_len (n i K : Nat) (hi : i < n) (hn : n ≤ 4096) (hK : (sibs 0 n i).length = K) (w : World) : Calls Try.prog 22 #[.int .i64 (n : Int), .int .i64 (i : Int)] w fun e w' => ∃ p c, e = .returned (.slice p K c) ∧ Below w.heap.size w w' :=
  (rsteps_any n i hi hn w).mono fun e w' ⟨v, h1, h2, h3⟩ => by
    obtain ⟨p, c, rfl⟩ := own_form h2
    exact ⟨p, c, by rw [h1, firsts_len, hK], h3⟩
theorem pairs_last (n i : Nat) (leaf : BitVec 64) (path : List (BitVec 64)) (k : Nat) (hk : (sibs 0 n i).length = k) (h : path.length = k) : (pairsB n i leaf path).length = k + 1 + 1 ∧ (pairsB n i leaf path)[k + 1]? = some (BitVec.ofNat 64 n, joinP (lastP (aheads n i) (0#64, leaf) path)) := by
  have h1 : (aheads n i).length = path.length := by rw [aheads_len]; omega
  have h2 := upP_len (aheads n i) (0#64, leaf) path h1
  refine ⟨by rw [pairs_len n i leaf path (by omega), hk], ?_⟩
  unfold pairsB
  rw [List.getElem?_append_right (by omega), h2, h1, h]
  simp
theorem rplace_b (n i : Int) (w : World) : Calls Try.prog 21 #[.int .i64 n, .int .i64 i] w fun e w' => e = .returned (.int .i64 (placeE n i)) ∧ Below w.heap.size w w' := (rplace_any n i w).mono fun e w' ⟨h1, h2⟩ => ⟨h1, h2 ▸ Below.refl _ _⟩
theorem rcheck_bad (root leaf : BitVec 64) (n i E : Int) (he : placeE n i = E) (h0 : E ≠ 0) (v : Value) (w : World) :
    Calls Try.prog 11 #[.int .u64 (root.toNat : Int), .int .i64 n, .int .i64 i, .agg #[.int .u64 (leaf.toNat : Int), v]] w fun e w' => e = .returned (.int .i64 E) ∧ Below w.heap.size w w' := by
  have PL := hid (fun W => he ▸ rplace_any n i W)
  have t1 : (E == 0) = false := by simpa using h0
  clear he
  go_enter Try.func11, Try.ntmps11
  go_wp2_with fail
  refine (PL.out _).mono ?_
  rintro e w1 ⟨rfl, rfl⟩
  go_wp2
  go_ret
  exact ⟨rfl, below_a (Below.refl _ _) _⟩

set_option maxRecDepth 100000 in
set_option maxHeartbeats 4000000 in
theorem rcheck_ne (root leaf : BitVec 64) (n i : Nat) (hi : i < n) (hn : n ≤ 4096) (path : List (BitVec 64)) (M K : Nat) (hM : path.length = M) (hK : (sibs 0 n i).length = K) (hMK : ¬ M = K) (p : Option Addr) (c : Nat) (w : World) (hv : U64At w (.slice p M c) path) :
    Calls Try.prog 11 #[.int .u64 (root.toNat : Int), .int .i64 (n : Int), .int .i64 (i : Int), .agg #[.int .u64 (leaf.toNat : Int), .slice p M c]] w fun e w' => e = .returned (.int .i64 40) ∧ Below w.heap.size w w' := by
  have hp0 : placeE (n : Int) (i : Int) = 0 := by rcases place_cases n i with h1 | h1 | h1 | h1 <;> omega
  have PL := hid (fun W => hp0 ▸ rplace_any n i W)
  have SL := hid (fun W => rsteps_len n i K hi hn hK W)
  have t1 : ((M : Int) == (K : Int)) = false := by rw [beq_eq_false_iff_ne]; omega
  have t1n : (M == K) = false := by rw [beq_eq_false_iff_ne]; exact hMK
  have t2 : ((M : Int) != (K : Int)) = true := by rw [bne, t1]; rfl
  
  
  obtain ⟨W1, hW1⟩ : ∃ W1, opW w leaf (.slice p M c) = W1 := ⟨_, rfl⟩
  have hz : W1.heap.size = w.heap.size + 1 := by rw [← hW1]; simp [opW]
  have B1 := hid (show Below w.heap.size w W1 from by rw [← hW1]; exact below_a (Below.refl _ _) _)
  have X0 : W1.cell? ⟨w.heap.size, 0, none⟩ = some (.int .u64 (leaf.toNat : Int)) := by rw [← hW1]; exact blk_cell (World.alloc_heap_new w _) rfl
  have X1 : W1.cell? ⟨w.heap.size, 1, none⟩ = some (.slice p M c) := by rw [← hW1]; exact blk_cell (World.alloc_heap_new w _) rfl
  
  have HZ := hid hz
  clear hv hp0 hz hi hMK
  go_enter Try.func11, Try.ntmps11
  go_wp2_with fail
  rw [show w.alloc (.cells #[.int .u64 (leaf.toNat : Int), .slice p M c] 25) = W1 from hW1]
  clear hW1
  refine (PL.out _).mono ?_
  rintro e w' ⟨rfl, rfl⟩
  go_upto_region 4 with fail
  have hsd := (Below.refl W1.heap.size W1).drew
  refine wp_region_held_drew (S := fun W' => (W'.cell? ⟨w.heap.size, 0, none⟩ = some (.int .u64 (leaf.toNat : Int)) ∧ W'.cell? ⟨w.heap.size, 1, none⟩ = some (.slice p M c) ∧ Below W1.heap.size W1 W')) (by kernel_rfl) ?_ (fun hHeld => ?_)
  · exact ⟨X0, X1, hsd⟩
  refine wpAnyH_take (i := 0) (oi := ({ dst := some 18, op := Op.fieldAddr 25 (Operand.tmp 7) 1, type := 0, pos := "ref.go:107", after := #[], guard := none } : Oper)) (v := ?_) rfl (by kernel_rfl) (by kernel_rfl) (by kernel_rfl) (fun _ _ _ h => h) (Or.inl ⟨by rfl, ?_⟩) (by assumption) ?_
  rotate_left
  · intro w hSw; (try dsimp only at hSw); go_simp <;> with_reducible rfl
  (try simp only [Act.put, List.setIfInBounds_toArray, List.set_cons_zero, List.set_cons_succ])
  refine wpAnyH_take (i := 1) (oi := ({ dst := some 19, op := Op.load 22 (Operand.tmp 18), type := 22, pos := "ref.go:107", after := #[{ on := 0, ground := Ground.data }], guard := none } : Oper)) (v := ?_) rfl (by kernel_rfl) (by kernel_rfl) (by kernel_rfl) (fun _ _ _ h => h) (Or.inl ⟨by rfl, ?_⟩) (by assumption) ?_
  rotate_left
  · intro w hSw; (try dsimp only at hSw); go_simp <;> with_reducible rfl
  (try simp only [Act.put, List.setIfInBounds_toArray, List.set_cons_zero, List.set_cons_succ])
  refine wpAnyH_take (i := 2) (oi := ({ dst := some 20, op := Op.call { callee := Callee.builtin Builtin.len, args := #[Operand.tmp 19], argTypes := #[22] }, type := 3, pos := "ref.go:107", after := #[{ on := 1, ground := Ground.data }], guard := none } : Oper)) (v := ?_) rfl (by kernel_rfl) (by kernel_rfl) (by kernel_rfl) (fun _ _ _ h => h) (Or.inl ⟨by rfl, ?_⟩) (by assumption) ?_
  rotate_left
  · intro w hSw; (try dsimp only at hSw); go_simp <;> with_reducible rfl
  (try simp only [Act.put, List.setIfInBounds_toArray, List.set_cons_zero, List.set_cons_succ])
  refine wpAnyH_take (i := 3) (oi := ({ dst := some 21, op := Op.move (Operand.tmp 1), type := 3, pos := "ref.go:107", after := #[], guard := none } : Oper)) (v := ?_) rfl (by kernel_rfl) (by kernel_rfl) (by kernel_rfl) (fun _ _ _ h => h) (Or.inl ⟨by rfl, ?_⟩) (by assumption) ?_
  rotate_left
  · intro w hSw; (try dsimp only at hSw); go_simp <;> with_reducible rfl
  (try simp only [Act.put, List.setIfInBounds_toArray, List.set_cons_zero, List.set_cons_succ])
  refine wpAnyH_take (i := 4) (oi := ({ dst := some 22, op := Op.move (Operand.tmp 2), type := 3, pos := "ref.go:107", after := #[], guard := none } : Oper)) (v := ?_) rfl (by kernel_rfl) (by kernel_rfl) (by kernel_rfl) (fun _ _ _ h => h) (Or.inl ⟨by rfl, ?_⟩) (by assumption) ?_
  rotate_left
  · intro w hSw; (try dsimp only at hSw); go_simp <;> with_reducible rfl
  (try simp only [Act.put, List.setIfInBounds_toArray, List.set_cons_zero, List.set_cons_succ])
  refine wpAnyH_ready (rs := [5]) (by kernel_rfl) (by simp) ?_
  refine AllReadyH.cons (o := ({ dst := some 23, op := Op.call { callee := Callee.value (Operand.func 22), args := #[Operand.tmp 21, Operand.tmp 22], argTypes := #[3, 3] }, type := 50, pos := "ref.go:107", after := #[{ on := 3, ground := Ground.data }, { on := 4, ground := Ground.data }], guard := none } : Oper)) rfl (fun K hK => ?_) ?_
  rotate_left
  · exact AllReadyH.nil
  go_simp
  go_at_call 22
  with_reducible refine (SL.out _).mono ?_
  rintro e y0 ⟨sp, sc, rfl, hq0⟩
  have hB0 := below_step hsd hq0
  clear hHeld
  first | (with_reducible refine hK.out _ _ ?_ (fun hHeld => ?_)) | (go_wp2_with fail; with_reducible refine hK.out _ _ ?_ (fun hHeld => ?_))
  · exact ⟨cell_below hB0 X0, cell_below hB0 X1, hB0⟩
  clear hK K
  (try simp only [Act.put, List.setIfInBounds_toArray, List.set_cons_zero, List.set_cons_succ])
  refine wpAnyH_take (i := 6) (oi := ({ dst := some 24, op := Op.call { callee := Callee.builtin Builtin.len, args := #[Operand.tmp 23], argTypes := #[50] }, type := 3, pos := "ref.go:107", after := #[{ on := 5, ground := Ground.data }], guard := none } : Oper)) (v := ?_) rfl (by kernel_rfl) (by kernel_rfl) (by kernel_rfl) (fun _ _ _ h => h) (Or.inl ⟨by rfl, ?_⟩) (by assumption) ?_
  rotate_left
  · intro w hSw; (try dsimp only at hSw); go_simp <;> with_reducible rfl
  (try simp only [Act.put, List.setIfInBounds_toArray, List.set_cons_zero, List.set_cons_succ])
  refine wpAnyH_take (i := 7) (oi := ({ dst := some 25, op := Op.binOp BinOp.neq 3 (Operand.tmp 20) (Operand.tmp 24) 3, type := 4, pos := "ref.go:107", after := #[{ on := 2, ground := Ground.data }, { on := 6, ground := Ground.data }], guard := none } : Oper)) (v := ?_) rfl (by kernel_rfl) (by kernel_rfl) (by kernel_rfl) (fun _ _ _ h => h) (Or.inl ⟨by rfl, ?_⟩) (by assumption) ?_
  rotate_left
  · intro w hSw; (try dsimp only at hSw); go_simp <;> with_reducible rfl
  (try simp only [Act.put, List.setIfInBounds_toArray, List.set_cons_zero, List.set_cons_succ])
  refine wpAnyH_done (by kernel_rfl) ?_ _
  have BB := hid hB0
  clear hHeld
  go_wp2_with fail
  go_ret
  exact ⟨rfl, below_step B1.out BB.out⟩


set_option maxRecDepth 100000 in
set_option maxHeartbeats 4000000 in
theorem rcheck_in (root leaf : BitVec 64) (n i : Nat) (hi : i < n) (hn : n ≤ 4096) (path : List (BitVec 64)) (M K : Nat) (hM : path.length = M) (hK : (sibs 0 n i).length = K) (hMK : M = K) (E : Int) (hE : E = if rootP n i leaf path = root then 0 else 40) (p : Option Addr) (c : Nat) (w : World) (hv : U64At w (.slice p M c) path) :
    Calls Try.prog 11 #[.int .u64 (root.toNat : Int), .int .i64 (n : Int), .int .i64 (i : Int), .agg #[.int .u64 (leaf.toNat : Int), .slice p M c]] w fun e w' => e = .returned (.int .i64 E) ∧ Below w.heap.size w w' := by
  have hp0 : placeE (n : Int) (i : Int) = 0 := by rcases place_cases n i with h1 | h1 | h1 | h1 <;> omega
  have PL := hid (fun W => hp0 ▸ rplace_any n i W)
  have SL := hid (fun W => rsteps_len n i K hi hn hK W)
  
  
  
  subst hMK
  have hpl := pairs_last n i leaf path M hK hM
  obtain ⟨W1, hW1⟩ : ∃ W1, opW w leaf (.slice p M c) = W1 := ⟨_, rfl⟩
  have hz : W1.heap.size = w.heap.size + 1 := by rw [← hW1]; simp [opW]
  have B1 := hid (show Below w.heap.size w W1 from by rw [← hW1]; exact below_a (Below.refl _ _) _)
  have X0 : W1.cell? ⟨w.heap.size, 0, none⟩ = some (.int .u64 (leaf.toNat : Int)) := by rw [← hW1]; exact blk_cell (World.alloc_heap_new w _) rfl
  have X1 : W1.cell? ⟨w.heap.size, 1, none⟩ = some (.slice p M c) := by rw [← hW1]; exact blk_cell (World.alloc_heap_new w _) rfl
  have PP := hid (fun (W : World) (hW : Below W1.heap.size W1 W) => rpairs_any n i hi hn leaf path M hM hK.symm p c W (hv.below (below_step B1.out hW)))
  have HZ := hid hz
  clear hv hp0 hz hi
  go_enter Try.func11, Try.ntmps11
  go_wp2_with fail
  rw [show w.alloc (.cells #[.int .u64 (leaf.toNat : Int), .slice p M c] 25) = W1 from hW1]
  clear hW1
  refine (PL.out _).mono ?_
  rintro e w' ⟨rfl, rfl⟩
  go_upto_region 4 with fail
  have hsd := (Below.refl W1.heap.size W1).drew
  refine wp_region_held_drew (S := fun W' => (W'.cell? ⟨w.heap.size, 0, none⟩ = some (.int .u64 (leaf.toNat : Int)) ∧ W'.cell? ⟨w.heap.size, 1, none⟩ = some (.slice p M c) ∧ Below W1.heap.size W1 W')) (by kernel_rfl) ?_ (fun hHeld => ?_)
  · exact ⟨X0, X1, hsd⟩
  refine wpAnyH_take (i := 0) (oi := ({ dst := some 18, op := Op.fieldAddr 25 (Operand.tmp 7) 1, type := 0, pos := "ref.go:107", after := #[], guard := none } : Oper)) (v := ?_) rfl (by kernel_rfl) (by kernel_rfl) (by kernel_rfl) (fun _ _ _ h => h) (Or.inl ⟨by rfl, ?_⟩) (by assumption) ?_
  rotate_left
  · intro w hSw; (try dsimp only at hSw); go_simp <;> with_reducible rfl
  (try simp only [Act.put, List.setIfInBounds_toArray, List.set_cons_zero, List.set_cons_succ])
  refine wpAnyH_take (i := 1) (oi := ({ dst := some 19, op := Op.load 22 (Operand.tmp 18), type := 22, pos := "ref.go:107", after := #[{ on := 0, ground := Ground.data }], guard := none } : Oper)) (v := ?_) rfl (by kernel_rfl) (by kernel_rfl) (by kernel_rfl) (fun _ _ _ h => h) (Or.inl ⟨by rfl, ?_⟩) (by assumption) ?_
  rotate_left
  · intro w hSw; (try dsimp only at hSw); go_simp <;> with_reducible rfl
  (try simp only [Act.put, List.setIfInBounds_toArray, List.set_cons_zero, List.set_cons_succ])
  refine wpAnyH_take (i := 2) (oi := ({ dst := some 20, op := Op.call { callee := Callee.builtin Builtin.len, args := #[Operand.tmp 19], argTypes := #[22] }, type := 3, pos := "ref.go:107", after := #[{ on := 1, ground := Ground.data }], guard := none } : Oper)) (v := ?_) rfl (by kernel_rfl) (by kernel_rfl) (by kernel_rfl) (fun _ _ _ h => h) (Or.inl ⟨by rfl, ?_⟩) (by assumption) ?_
  rotate_left
  · intro w hSw; (try dsimp only at hSw); go_simp <;> with_reducible rfl
  (try simp only [Act.put, List.setIfInBounds_toArray, List.set_cons_zero, List.set_cons_succ])
  refine wpAnyH_take (i := 3) (oi := ({ dst := some 21, op := Op.move (Operand.tmp 1), type := 3, pos := "ref.go:107", after := #[], guard := none } : Oper)) (v := ?_) rfl (by kernel_rfl) (by kernel_rfl) (by kernel_rfl) (fun _ _ _ h => h) (Or.inl ⟨by rfl, ?_⟩) (by assumption) ?_
  rotate_left
  · intro w hSw; (try dsimp only at hSw); go_simp <;> with_reducible rfl
  (try simp only [Act.put, List.setIfInBounds_toArray, List.set_cons_zero, List.set_cons_succ])
  refine wpAnyH_take (i := 4) (oi := ({ dst := some 22, op := Op.move (Operand.tmp 2), type := 3, pos := "ref.go:107", after := #[], guard := none } : Oper)) (v := ?_) rfl (by kernel_rfl) (by kernel_rfl) (by kernel_rfl) (fun _ _ _ h => h) (Or.inl ⟨by rfl, ?_⟩) (by assumption) ?_
  rotate_left
  · intro w hSw; (try dsimp only at hSw); go_simp <;> with_reducible rfl
  (try simp only [Act.put, List.setIfInBounds_toArray, List.set_cons_zero, List.set_cons_succ])
  refine wpAnyH_ready (rs := [5]) (by kernel_rfl) (by simp) ?_
  refine AllReadyH.cons (o := ({ dst := some 23, op := Op.call { callee := Callee.value (Operand.func 22), args := #[Operand.tmp 21, Operand.tmp 22], argTypes := #[3, 3] }, type := 50, pos := "ref.go:107", after := #[{ on := 3, ground := Ground.data }, { on := 4, ground := Ground.data }], guard := none } : Oper)) rfl (fun K hK => ?_) ?_
  rotate_left
  · exact AllReadyH.nil
  go_simp
  go_at_call 22
  with_reducible refine (SL.out _).mono ?_
  rintro e y0 ⟨sp, sc, rfl, hq0⟩
  have hB0 := below_step hsd hq0
  clear hHeld
  first | (with_reducible refine hK.out _ _ ?_ (fun hHeld => ?_)) | (go_wp2_with fail; with_reducible refine hK.out _ _ ?_ (fun hHeld => ?_))
  · exact ⟨cell_below hB0 X0, cell_below hB0 X1, hB0⟩
  clear hK K
  (try simp only [Act.put, List.setIfInBounds_toArray, List.set_cons_zero, List.set_cons_succ])
  refine wpAnyH_take (i := 6) (oi := ({ dst := some 24, op := Op.call { callee := Callee.builtin Builtin.len, args := #[Operand.tmp 23], argTypes := #[50] }, type := 3, pos := "ref.go:107", after := #[{ on := 5, ground := Ground.data }], guard := none } : Oper)) (v := ?_) rfl (by kernel_rfl) (by kernel_rfl) (by kernel_rfl) (fun _ _ _ h => h) (Or.inl ⟨by rfl, ?_⟩) (by assumption) ?_
  rotate_left
  · intro w hSw; (try dsimp only at hSw); go_simp <;> with_reducible rfl
  (try simp only [Act.put, List.setIfInBounds_toArray, List.set_cons_zero, List.set_cons_succ])
  refine wpAnyH_take (i := 7) (oi := ({ dst := some 25, op := Op.binOp BinOp.neq 3 (Operand.tmp 20) (Operand.tmp 24) 3, type := 4, pos := "ref.go:107", after := #[{ on := 2, ground := Ground.data }, { on := 6, ground := Ground.data }], guard := none } : Oper)) (v := ?_) rfl (by kernel_rfl) (by kernel_rfl) (by kernel_rfl) (fun _ _ _ h => h) (Or.inl ⟨by rfl, ?_⟩) (by assumption) ?_
  rotate_left
  · intro w hSw; (try dsimp only at hSw); go_simp <;> with_reducible rfl
  (try simp only [Act.put, List.setIfInBounds_toArray, List.set_cons_zero, List.set_cons_succ])
  refine wpAnyH_done (by kernel_rfl) ?_ _
  have BB := hid hB0
  clear hHeld
  have Y0 := cell_below BB.out X0
  have Y1 := cell_below BB.out X1
  clear hsd hB0 hq0
  go_wp2_with fail
  refine (PP.out _ BB.out).mono ?_
  rintro e w2 ⟨g, cap, rfl, hown, hb⟩
  rw [hpl.1] at hown ⊢
  obtain ⟨f1, f2, ro, f3, f4, f5⟩ := row_cells hown
  have F := f5 w2 (M + 1) _ f3 (by omega) hpl.2
  have B2 := hid (below_step BB.out hb)
  have hE2 : E = if joinB (BitVec.ofNat 64 n) (joinP (lastP (aheads n i) (0#64, leaf) path)) = root then 0 else 40 := hE
  obtain ⟨N, hN⟩ : ∃ N, BitVec.ofNat 64 n = N := ⟨_, rfl⟩
  obtain ⟨T, hT⟩ : ∃ T, joinP (lastP (aheads n i) (0#64, leaf) path) = T := ⟨_, rfl⟩
  rw [hN, hT] at F hE2
  rw [Nat.mul_comm 2 (M + 1)] at F
  obtain ⟨F0, F1⟩ := F
  have J := hid (fun W => rjoin_any N T W)
  have hm12 : M ≤ 12 := by rw [← hK]; exact sibs_len12 i hn
  have hw1 : IntKind.i64.wrap ((M : Int) + 1 + 1 - 1) = (M : Int) + 1 := by rw [IntKind.wrap_i64]; omega
  have hw2 : ((M : Int) + 1 + 1 - 1) = (M : Int) + 1 := by omega
  have hn1 : ((M : Int) + 1).toNat = M + 1 := by omega
  have hp1 : (0 : Int) ≤ (M : Int) + 1 := by omega
  clear hown hb f1 f3 f4 f5 hpl hE hN hT PP hK hM
  by_cases hr : joinB N T = root
  · rw [if_pos hr] at hE2
    subst hE2
    rw [hr] at J
    go_wp2_with fail
    refine (J.out _).mono ?_
    rintro e w3 ⟨rfl, rfl⟩
    go_wp2
    go_ret
    exact ⟨rfl, below_a (below_step B1.out B2.out) _⟩
  · rw [if_neg hr] at hE2
    subst hE2
    have r1 := bv_ne hr
    generalize joinB N T = Z at *
    go_wp2_with fail
    refine (J.out _).mono ?_
    rintro e w3 ⟨rfl, rfl⟩
    go_wp2
    go_ret
    exact ⟨rfl, below_a (below_step B1.out B2.out) _⟩


/-- The law's and the reference's 'Check'. -/
theorem rcheck_any (root leaf : BitVec 64) (n i : Int) (path : List (BitVec 64)) (p : Option Addr) (m c : Nat) (hm : path.length = m) (w : World) (hv : U64At w (.slice p m c) path) :
    Calls Try.prog 11 #[.int .u64 (root.toNat : Int), .int .i64 n, .int .i64 i, .agg #[.int .u64 (leaf.toNat : Int), .slice p m c]] w fun e w' => e = .returned (.int .i64 (checkE root n i leaf path)) ∧ Below w.heap.size w w' := by
  by_cases he : placeE n i = 0
  · obtain ⟨h1, h2, h3⟩ := place_ok he
    obtain ⟨n, rfl⟩ : ∃ k : Nat, n = (k : Int) := ⟨n.toNat, by omega⟩
    obtain ⟨i, rfl⟩ : ∃ k : Nat, i = (k : Int) := ⟨i.toNat, by omega⟩
    have hce : checkE root n i leaf path = if path.length = (sibs 0 n i).length ∧ rootP n i leaf path = root then 0 else 40 := by
      unfold checkE
      rw [if_neg (by simpa using he), aheads_len]
      simp
    by_cases hlen : m = (sibs 0 n i).length
    · refine rcheck_in root leaf n i (by omega) (by omega) path m _ hm rfl hlen _ ?_ p c w hv
      rw [hce]
      by_cases hr : rootP n i leaf path = root
      · rw [if_pos hr, if_pos ⟨by omega, hr⟩]
      · rw [if_neg hr, if_neg (fun h => hr h.2)]
    · rw [hce, if_neg (fun h => hlen (by omega))]
      exact rcheck_ne root leaf n i (by omega) (by omega) path m _ hm rfl hlen p c w hv
  · have hce : checkE root n i leaf path = placeE n i := by
      unfold checkE
      rw [if_pos he]
    rw [hce]
    exact rcheck_bad root leaf n i _ rfl he _ w
end Go.Proofs.Ytchmiaeajkpijaa

import Derived.Test.YtchmiaeajkpijaaLw
import Derived.Deep.RegionHeld3
namespace Go.Proofs.Ytchmiaeajkpijaa
open Go.RowKit Go.Instr
set_option linter.unusedVariables false

/-! The fixed calls. -/
def kA : BitVec 64 := joinB 0#64 11#64
def kB : BitVec 64 := joinB 0#64 22#64
def kC : BitVec 64 := joinB 0#64 33#64
def kR : BitVec 64 := joinB 3#64 (joinB (joinB kA kB) kC)
def l3 : List (BitVec 64) := [11#64, 22#64, 33#64]
theorem e_p : openP l3 1 = [kA, kC] := by decide +kernel
theorem e_q : openP l3 2 = [joinB kA kB] := by decide +kernel
theorem e_pl1 : placeE (l3.length : Int) 1 = 0 := by decide
theorem e_pl2 : placeE (l3.length : Int) 2 = 0 := by decide
theorem e_n : openP [] 0 = [] := by decide
theorem e_pl3 : placeE (([] : List (BitVec 64)).length : Int) 0 = 1 := by decide
theorem e_root : rootB l3 = kR := by decide +kernel
theorem e_root0 : rootB [] = joinB 0#64 0#64 := by decide +kernel
theorem e_c1 : checkE kR 3 1 22#64 [kA, kC] = 0 := by decide +kernel
theorem e_c2 : checkE kR 3 1 23#64 [kA, kC] = 40 := by decide +kernel
theorem u64_lit (w : World) (l : List (BitVec 64)) (t : TypeId) (h : l.length ≤ 1000000) : U64At (w.alloc (.cells (u64s l).toArray t)) (.slice (some ⟨w.heap.size, 0, none⟩) l.length l.length) l := by
  refine ⟨h, _, _, rfl, Nat.le_refl _, by omega, (fun h => by cases h), fun h0 => ⟨w.heap.size, 0, rfl, fun i hi => ?_⟩⟩
  exact blk_cell (World.alloc_heap_new w _) (by simp [u64s, hi])
theorem u64_lit3 (w : World) : U64At (w.alloc (.cells #[.int .u64 11, .int .u64 22, .int .u64 33] 23)) (.slice (some ⟨w.heap.size, 0, none⟩) 3 3) l3 := u64_lit w l3 _ (by decide)
theorem u64_lit2 (w : World) (a b : BitVec 64) : U64At (w.alloc (.cells #[.int .u64 (a.toNat : Int), .int .u64 (b.toNat : Int)] 23)) (.slice (some ⟨w.heap.size, 0, none⟩) 2 2) [a, b] := u64_lit w [a, b] _ (by simp)
theorem u64_lit1 (w : World) (a : BitVec 64) : U64At (w.alloc (.cells #[.int .u64 (a.toNat : Int)] 23)) (.slice (some ⟨w.heap.size, 0, none⟩) 1 1) [a] := u64_lit w [a] _ (by simp)
theorem below_dn {w w' : World} (h : ∃ n, w' = w.drewN n) : Below w.heap.size w w' := by
  obtain ⟨n, rfl⟩ := h
  exact below_drewN (Below.refl _ _) n
theorem same_b (a b : List (BitVec 64)) (v u : Value) (w : World) (ha : U64At w v a) (hb : U64At w u b) : Calls Try.prog 9 #[v, u] w fun e w' => e = .returned (.bool (decide (a = b))) ∧ Below w.heap.size w w' := (same_any a b v u w ha hb).mono fun e w' ⟨h1, h2⟩ => ⟨h1, below_dn h2⟩
theorem root_b (v : Value) (l : List (BitVec 64)) (w : World) (hv : U64At w v l) : Calls Try.prog 5 #[v] w fun e w' => e = .returned (.int .u64 ((rootB l).toNat : Int)) ∧ Below w.heap.size w w' := (root_any v l w hv).mono fun e w' ⟨h1, h2⟩ => ⟨h1, below_dn h2⟩
theorem join_b {x y : Int} (a b : BitVec 64) (ea : x = (a.toNat : Int)) (eb : y = (b.toNat : Int)) (w : World) : Calls Try.prog 14 #[.int .u64 x, .int .u64 y] w fun e w' => e = .returned (.int .u64 ((joinB a b).toNat : Int)) ∧ Below w.heap.size w w' := (join_v a b ea eb w).mono fun e w' ⟨h1, h2⟩ => ⟨h1, by rw [h2]; exact Below.refl _ _⟩
theorem j_b {x y : Int} (a b : BitVec 64) (c : BitVec 64) (hc : joinB a b = c) (ea : x = (a.toNat : Int)) (eb : y = (b.toNat : Int)) (w : World) : Calls Try.prog 14 #[.int .u64 x, .int .u64 y] w fun e w' => e = .returned (.int .u64 (c.toNat : Int)) ∧ Below w.heap.size w w' := by subst hc; exact join_b a b ea eb w
theorem j_e {x y : Int} (a b : BitVec 64) (c : BitVec 64) (hc : joinB a b = c) (ea : x = (a.toNat : Int)) (eb : y = (b.toNat : Int)) (w : World) : Calls Try.prog 14 #[.int .u64 x, .int .u64 y] w fun e w' => e = .returned (.int .u64 (c.toNat : Int)) ∧ w = w' := by subst hc; exact join_v a b ea eb w
/-- What the law's 'open' returns, with its path and its error named. -/
theorem open_at (l L : List (BitVec 64)) (E : Int) (v : Value) (i : Int) (w : World) (hv : U64At w v l) (hL : openP l i = L) (hE : placeE l.length i = E) : Calls Try.prog 6 #[v, .int .i64 i] w fun e w' => ∃ p c, e = .returned (.agg #[.slice p L.length c, .int .i64 E]) ∧ U64At w' (.slice p L.length c) L ∧ Below w.heap.size w w' := by
  subst hL
  subst hE
  exact lopen_any l v i w hv
theorem opened_box (y : World) (a b : Value) : (y.alloc (.cells #[a, b] 32)).heap[y.heap.size]? = some (.cells #[a, b] 32 (0, 0)) := World.alloc_heap_new y _
theorem e_22 : (22 : Int) = ((22#64 : BitVec 64).toNat : Int) := rfl
theorem e_23 : (23 : Int) = ((23#64 : BitVec 64).toNat : Int) := rfl
theorem e_len1 : ([kA, kC] : List (BitVec 64)).length = 2 := rfl
theorem ex_same1 {W y : World} {p : Option Addr} {c : Nat} {v : Value} (U : Hid (U64At W (.slice p 2 c) [kA, kC])) (hb : Below W.heap.size W y) (hl : U64At y v [kA, kC]) : Calls Try.prog 9 #[.slice p 2 c, v] y fun e w' => e = .returned (.bool true) ∧ Below y.heap.size y w' := by
  have := same_b [kA, kC] [kA, kC] _ _ _ (U.out.below hb) hl
  simpa using this
theorem ex_same2 {W y : World} {p : Option Addr} {c : Nat} {v : Value} (U : Hid (U64At W (.slice p 1 c) [joinB kA kB])) (hb : Below W.heap.size W y) (hl : U64At y v [joinB kA kB]) : Calls Try.prog 9 #[.slice p 1 c, v] y fun e w' => e = .returned (.bool true) ∧ Below y.heap.size y w' := by
  have := same_b [joinB kA kB] [joinB kA kB] _ _ _ (U.out.below hb) hl
  simpa using this
theorem ex_root {W y : World} {v : Value} (U : Hid (U64At W v l3)) (hb : Below W.heap.size W y) : Calls Try.prog 5 #[v] y fun e w' => e = .returned (.int .u64 (kR.toNat : Int)) ∧ Below y.heap.size y w' := by
  have := root_b v l3 y (U.out.below hb)
  rwa [e_root] at this
theorem ex_root0 (y : World) : Calls Try.prog 5 #[.slice none 0 0] y fun e w' => e = .returned (.int .u64 ((rootB []).toNat : Int)) ∧ Below y.heap.size y w' := root_b _ [] y (U64At.nil y)
theorem ex_check {W y : World} {p : Option Addr} {c : Nat} {x : Int} (leaf : BitVec 64) (E : Int) (he : checkE kR 3 1 leaf [kA, kC] = E) (U : Hid (U64At W (.slice p 2 c) [kA, kC])) (hb : Below W.heap.size W y) (hx : x = (leaf.toNat : Int)) : Calls Try.prog 10 #[.int .u64 (kR.toNat : Int), .int .i64 3, .int .i64 1, .agg #[.int .u64 x, .slice p 2 c]] y fun e w' => e = .returned (.int .i64 E) ∧ Below y.heap.size y w' := by
  subst he
  subst hx
  exact lcheck_any kR leaf 3 1 [kA, kC] p c y (U.out.below hb)
set_option maxHeartbeats 4000000 in
set_option maxRecDepth 100000 in
theorem examples_any (w : World) : Calls Try.prog 4 #[] w fun e w' => e = .returned (.bool true) ∧ Below w.heap.size w w' := by
  go_enter Try.func4, Try.ntmps4
  go_wp2_with fail
  have B0 := hid (below_a0 w (.cells #[.int .u64 11, .int .u64 22, .int .u64 33] 23))
  have U0 := hid (u64_lit3 w)
  refine (j_e 0#64 11#64 kA rfl rfl rfl _).mono ?_
  rintro e w1 ⟨rfl, rfl⟩
  go_wp2_with fail
  refine (j_e 0#64 22#64 kB rfl rfl rfl _).mono ?_
  rintro e w1 ⟨rfl, rfl⟩
  go_wp2_with fail
  refine (j_e 0#64 33#64 kC rfl rfl rfl _).mono ?_
  rintro e w1 ⟨rfl, rfl⟩
  obtain ⟨W0, hW0⟩ : ∃ W0, w.alloc (.cells #[.int .u64 11, .int .u64 22, .int .u64 33] 23) = W0 := ⟨_, rfl⟩
  rw [hW0] at B0 U0 ⊢
  clear hW0
  go_wp2_with fail
  refine (open_at l3 [kA, kC] 0 _ 1 _ U0.out e_p e_pl1).mono ?_
  rintro e w1 ⟨p1, c1, rfl, hu1, hb1⟩
  have U1 := hid hu1
  have B1 := hid hb1
  clear hu1 hb1
  go_wp2_with fail
  refine (open_at l3 [joinB kA kB] 0 _ 2 _ (U0.out.below B1.out) e_q e_pl2).mono ?_
  rintro e w2 ⟨p2, c2, rfl, hu2, hb2⟩
  have U2 := hid hu2
  have B2 := hid (below_step B1.out hb2)
  have U1b := hid (U1.out.below hb2)
  clear hu2 hb2
  go_wp2_with fail
  have h5 := opened_box w2 (.slice p1 2 c1) (.int .i64 0)
  have h6 := opened_box (w2.alloc (.cells #[.slice p1 2 c1, .int .i64 0] 32)) (.slice p2 1 c2) (.int .i64 0)
  rw [World.size_alloc] at h6
  have h5' := (Below.heap_alloc _ (.cells #[.slice p2 1 c2, .int .i64 0] 32) _ (by simp)).trans h5
  have hb3 : Below w2.heap.size w2 ((w2.alloc (.cells #[.slice p1 2 c1, .int .i64 0] 32)).alloc (.cells #[.slice p2 1 c2, .int .i64 0] 32)) := ((Below.refl _ w2).alloc (Nat.le_refl _) _).alloc (by simp) _
  obtain ⟨W3, hW3⟩ : ∃ W3, (w2.alloc (.cells #[.slice p1 2 c1, .int .i64 0] 32)).alloc (.cells #[.slice p2 1 c2, .int .i64 0] 32) = W3 := ⟨_, rfl⟩
  rw [hW3] at h5' h6 hb3 ⊢
  have H5 := hid h5'
  have H6 := hid h6
  have B3 := hid hb3
  clear hW3 h5 h5' h6 hb3
  refine (j_e kA kB _ rfl rfl rfl _).mono ?_
  rintro e w1 ⟨rfl, rfl⟩
  go_wp2_with fail
  refine (j_e (joinB kA kB) kC _ rfl rfl rfl _).mono ?_
  rintro e w1 ⟨rfl, rfl⟩
  go_wp2_with fail
  refine (j_e 3#64 (joinB (joinB kA kB) kC) kR rfl rfl rfl _).mono ?_
  rintro e w1 ⟨rfl, rfl⟩
  go_wp2_with fail
  refine (open_at [] [] 1 _ 0 _ (U64At.nil _) e_n e_pl3).mono ?_
  rintro e w4 ⟨p4, c4, rfl, hu4, hb4⟩
  have h8 := opened_box w4 (.slice p4 0 c4) (.int .i64 1)
  have hb8 := below_a0 w4 (.cells #[.slice p4 0 c4, .int .i64 1] 32)
  have H8 := hid h8
  have B8 := hid (below_step hb4 hb8)
  clear h8 hb8 hu4 hb4
  go_wp2_with fail
  obtain ⟨W5, hW5⟩ : ∃ W5, w4.alloc (.cells #[.slice p4 0 c4, .int .i64 1] 32) = W5 := ⟨_, rfl⟩
  rw [hW5] at H8 B8 ⊢
  clear hW5
  have h5 := (B8.out.block _ (Array.getElem?_eq_some_iff.1 H5.out).1).trans H5.out
  have h6 := (B8.out.block _ (Array.getElem?_eq_some_iff.1 H6.out).1).trans H6.out
  have P0 := blk_cell h5 (j := 0) (v := .slice p1 2 c1) rfl
  have P1 := blk_cell h5 (j := 1) (v := .int .i64 0) rfl
  have P2 := blk_cell h6 (j := 0) (v := .slice p2 1 c2) rfl
  have P3 := blk_cell H8.out (j := 1) (v := .int .i64 1) rfl
  have U1c := hid ((U1b.out.below B3.out).below B8.out)
  have U2c := hid ((U2.out.below B3.out).below B8.out)
  have UL := hid (((U0.out.below B2.out).below B3.out).below B8.out)
  -- REGION6
  have hsd := (Below.refl W5.heap.size W5).drew
  refine wp_region_held_drew (S := fun W' => (W'.cell? ⟨w2.heap.size, 0, none⟩ = some (.slice p1 2 c1) ∧ W'.cell? ⟨w2.heap.size, 1, none⟩ = some (.int .i64 0) ∧ W'.cell? ⟨w2.heap.size + 1, 0, none⟩ = some (.slice p2 1 c2) ∧ W'.cell? ⟨w4.heap.size, 1, none⟩ = some (.int .i64 1) ∧ Below W5.heap.size W5 W')) (by kernel_rfl) ?_ (fun hHeld => ?_)
  · exact ⟨P0, P1, P2, P3, hsd⟩
  refine wpAnyH_take (i := 0) (oi := ({ dst := some 24, op := Op.fieldAddr 32 (Operand.tmp 5) 1, type := 0, pos := "law.go:29", after := #[], guard := none } : Oper)) (v := ?_) rfl (by kernel_rfl) (by kernel_rfl) (by kernel_rfl) (fun _ _ _ h => h) (Or.inl ⟨by rfl, ?_⟩) (by assumption) ?_
  rotate_left
  · intro w hSw; (try dsimp only at hSw); go_simp <;> with_reducible rfl
  (try simp only [Act.put, List.setIfInBounds_toArray, List.set_cons_zero, List.set_cons_succ])
  refine wpAnyH_take (i := 1) (oi := ({ dst := some 25, op := Op.load 30 (Operand.tmp 24), type := 30, pos := "law.go:29", after := #[{ on := 0, ground := Ground.data }], guard := none } : Oper)) (v := ?_) rfl (by kernel_rfl) (by kernel_rfl) (by kernel_rfl) (fun _ _ _ h => h) (Or.inl ⟨by rfl, ?_⟩) (by assumption) ?_
  rotate_left
  · intro w hSw; (try dsimp only at hSw); go_simp <;> with_reducible rfl
  (try simp only [Act.put, List.setIfInBounds_toArray, List.set_cons_zero, List.set_cons_succ])
  refine wpAnyH_take (i := 2) (oi := ({ dst := some 26, op := Op.binOp BinOp.eql 30 (Operand.tmp 25) (Operand.const (Value.int IntKind.i64 0)) 30, type := 4, pos := "law.go:29", after := #[{ on := 1, ground := Ground.data }], guard := none } : Oper)) (v := ?_) rfl (by kernel_rfl) (by kernel_rfl) (by kernel_rfl) (fun _ _ _ h => h) (Or.inl ⟨by rfl, ?_⟩) (by assumption) ?_
  rotate_left
  · intro w hSw; (try dsimp only at hSw); go_simp <;> with_reducible rfl
  (try simp only [Act.put, List.setIfInBounds_toArray, List.set_cons_zero, List.set_cons_succ])
  refine wpAnyH_take (i := 3) (oi := ({ dst := some 27, op := Op.move (Operand.tmp 26), type := 4, pos := "law.go:29", after := #[{ on := 2, ground := Ground.data }], guard := none } : Oper)) (v := ?_) rfl (by kernel_rfl) (by kernel_rfl) (by kernel_rfl) (fun _ _ _ h => h) (Or.inl ⟨by rfl, ?_⟩) (by assumption) ?_
  rotate_left
  · intro w hSw; (try dsimp only at hSw); go_simp <;> with_reducible rfl
  (try simp only [Act.put, List.setIfInBounds_toArray, List.set_cons_zero, List.set_cons_succ])
  refine wpAnyH_take (i := 4) (oi := ({ dst := some 28, op := Op.fieldAddr 32 (Operand.tmp 5) 0, type := 0, pos := "law.go:29", after := #[{ on := 3, ground := Ground.guard }], guard := some (3, true) } : Oper)) (v := ?_) rfl (by kernel_rfl) (by kernel_rfl) (by kernel_rfl) (fun _ _ _ h => h) (Or.inl ⟨by rfl, ?_⟩) (by assumption) ?_
  rotate_left
  · intro w hSw; (try dsimp only at hSw); go_simp <;> with_reducible rfl
  (try simp only [Act.put, List.setIfInBounds_toArray, List.set_cons_zero, List.set_cons_succ])
  refine wpAnyH_take (i := 5) (oi := ({ dst := some 29, op := Op.load 22 (Operand.tmp 28), type := 22, pos := "law.go:29", after := #[{ on := 4, ground := Ground.data }, { on := 3, ground := Ground.guard }], guard := some (3, true) } : Oper)) (v := ?_) rfl (by kernel_rfl) (by kernel_rfl) (by kernel_rfl) (fun _ _ _ h => h) (Or.inl ⟨by rfl, ?_⟩) (by assumption) ?_
  rotate_left
  · intro w hSw; (try dsimp only at hSw); go_simp <;> with_reducible rfl
  (try simp only [Act.put, List.setIfInBounds_toArray, List.set_cons_zero, List.set_cons_succ])
  refine wpAnyH_take (i := 6) (oi := ({ dst := some 30, op := Op.move (Operand.tmp 2), type := 23, pos := "law.go:29", after := #[{ on := 3, ground := Ground.guard }], guard := some (3, true) } : Oper)) (v := ?_) rfl (by kernel_rfl) (by kernel_rfl) (by kernel_rfl) (fun _ _ _ h => h) (Or.inl ⟨by rfl, ?_⟩) (by assumption) ?_
  rotate_left
  · intro w hSw; (try dsimp only at hSw); go_simp <;> with_reducible rfl
  (try simp only [Act.put, List.setIfInBounds_toArray, List.set_cons_zero, List.set_cons_succ])
  refine wpAnyH_take (i := 7) (oi := ({ dst := some 31, op := Op.move (Operand.tmp 4), type := 23, pos := "law.go:29", after := #[{ on := 3, ground := Ground.guard }], guard := some (3, true) } : Oper)) (v := ?_) rfl (by kernel_rfl) (by kernel_rfl) (by kernel_rfl) (fun _ _ _ h => h) (Or.inl ⟨by rfl, ?_⟩) (by assumption) ?_
  rotate_left
  · intro w hSw; (try dsimp only at hSw); go_simp <;> with_reducible rfl
  (try simp only [Act.put, List.setIfInBounds_toArray, List.set_cons_zero, List.set_cons_succ])
  refine wpAnyH_ready (rs := [8]) (by kernel_rfl) (by simp) ?_
  refine AllReadyH.cons (o := ({ dst := some 32, op := Op.buildSlice 22 2 #[(0, Operand.tmp 30), (1, Operand.tmp 31)], type := 22, pos := "law.go:29", after := #[{ on := 6, ground := Ground.data }, { on := 7, ground := Ground.data }, { on := 3, ground := Ground.guard }], guard := some (3, true) } : Oper)) rfl (fun K hK => ?_) ?_
  rotate_left
  · exact AllReadyH.nil
  go_simp
  have hM0 := (below_a0 W5 (.cells #[.int .u64 (kA.toNat : Int), .int .u64 (kC.toNat : Int)] 23)).drew
  clear hHeld
  first | (with_reducible refine hK.out _ _ ?_ (fun hHeld => ?_)) | (go_wp2_with fail; with_reducible refine hK.out _ _ ?_ (fun hHeld => ?_))
  · exact ⟨cell_below hM0 P0, cell_below hM0 P1, cell_below hM0 P2, cell_below hM0 P3, hM0⟩
  clear hK K
  (try simp only [Act.put, List.setIfInBounds_toArray, List.set_cons_zero, List.set_cons_succ])
  refine wpAnyH_ready (rs := [9]) (by kernel_rfl) (by simp) ?_
  refine AllReadyH.cons (o := ({ dst := some 33, op := Op.call { callee := Callee.value (Operand.func 9), args := #[Operand.tmp 29, Operand.tmp 32], argTypes := #[22, 22] }, type := 4, pos := "law.go:29", after := #[{ on := 5, ground := Ground.data }, { on := 8, ground := Ground.data }, { on := 3, ground := Ground.chain }, { on := 3, ground := Ground.guard }], guard := some (3, true) } : Oper)) rfl (fun K hK => ?_) ?_
  rotate_left
  · exact AllReadyH.nil
  go_simp
  have hL33 : U64At (W5.alloc (.cells #[.int .u64 (kA.toNat : Int), .int .u64 (kC.toNat : Int)] 23)).drew (.slice (some ⟨W5.heap.size, 0, none⟩) 2 2) [kA, kC] := u64_lit2 W5 kA kC
  go_at_call 9
  with_reducible refine (ex_same1 U1c hM0 hL33).mono ?_
  rintro e y1 ⟨rfl, hq1⟩
  have hB1 := below_step hM0 hq1
  clear hHeld
  first | (with_reducible refine hK.out _ _ ?_ (fun hHeld => ?_)) | (go_wp2_with fail; with_reducible refine hK.out _ _ ?_ (fun hHeld => ?_))
  · exact ⟨cell_below hB1 P0, cell_below hB1 P1, cell_below hB1 P2, cell_below hB1 P3, hB1⟩
  clear hK K
  (try simp only [Act.put, List.setIfInBounds_toArray, List.set_cons_zero, List.set_cons_succ])
  refine wpAnyH_take (i := 10) (oi := ({ dst := some 34, op := Op.pick (Operand.tmp 27) (Operand.tmp 33) (Operand.const (Value.bool false)), type := 4, pos := "law.go:29", after := #[{ on := 3, ground := Ground.data }, { on := 9, ground := Ground.data }], guard := none } : Oper)) (v := ?_) rfl (by kernel_rfl) (by kernel_rfl) (by kernel_rfl) (fun _ _ _ h => h) (Or.inl ⟨by rfl, ?_⟩) (by assumption) ?_
  rotate_left
  · intro w hSw; (try dsimp only at hSw); go_simp <;> with_reducible rfl
  (try simp only [Act.put, List.setIfInBounds_toArray, List.set_cons_zero, List.set_cons_succ])
  refine wpAnyH_take (i := 11) (oi := ({ dst := some 35, op := Op.move (Operand.tmp 34), type := 4, pos := "law.go:29", after := #[{ on := 10, ground := Ground.data }, { on := 9, ground := Ground.chain }], guard := none } : Oper)) (v := ?_) rfl (by kernel_rfl) (by kernel_rfl) (by kernel_rfl) (fun _ _ _ h => h) (Or.inl ⟨by rfl, ?_⟩) (by assumption) ?_
  rotate_left
  · intro w hSw; (try dsimp only at hSw); go_simp <;> with_reducible rfl
  (try simp only [Act.put, List.setIfInBounds_toArray, List.set_cons_zero, List.set_cons_succ])
  refine wpAnyH_take (i := 12) (oi := ({ dst := some 36, op := Op.fieldAddr 32 (Operand.tmp 6) 0, type := 0, pos := "law.go:29", after := #[{ on := 11, ground := Ground.guard }], guard := some (11, true) } : Oper)) (v := ?_) rfl (by kernel_rfl) (by kernel_rfl) (by kernel_rfl) (fun _ _ _ h => h) (Or.inl ⟨by rfl, ?_⟩) (by assumption) ?_
  rotate_left
  · intro w hSw; (try dsimp only at hSw); go_simp <;> with_reducible rfl
  (try simp only [Act.put, List.setIfInBounds_toArray, List.set_cons_zero, List.set_cons_succ])
  refine wpAnyH_take (i := 13) (oi := ({ dst := some 37, op := Op.load 22 (Operand.tmp 36), type := 22, pos := "law.go:29", after := #[{ on := 12, ground := Ground.data }, { on := 11, ground := Ground.guard }], guard := some (11, true) } : Oper)) (v := ?_) rfl (by kernel_rfl) (by kernel_rfl) (by kernel_rfl) (fun _ _ _ h => h) (Or.inl ⟨by rfl, ?_⟩) (by assumption) ?_
  rotate_left
  · intro w hSw; (try dsimp only at hSw); go_simp <;> with_reducible rfl
  (try simp only [Act.put, List.setIfInBounds_toArray, List.set_cons_zero, List.set_cons_succ])
  refine wpAnyH_take (i := 14) (oi := ({ dst := some 38, op := Op.move (Operand.tmp 2), type := 23, pos := "law.go:29", after := #[{ on := 11, ground := Ground.guard }], guard := some (11, true) } : Oper)) (v := ?_) rfl (by kernel_rfl) (by kernel_rfl) (by kernel_rfl) (fun _ _ _ h => h) (Or.inl ⟨by rfl, ?_⟩) (by assumption) ?_
  rotate_left
  · intro w hSw; (try dsimp only at hSw); go_simp <;> with_reducible rfl
  (try simp only [Act.put, List.setIfInBounds_toArray, List.set_cons_zero, List.set_cons_succ])
  refine wpAnyH_take (i := 15) (oi := ({ dst := some 39, op := Op.move (Operand.tmp 3), type := 23, pos := "law.go:29", after := #[{ on := 11, ground := Ground.guard }], guard := some (11, true) } : Oper)) (v := ?_) rfl (by kernel_rfl) (by kernel_rfl) (by kernel_rfl) (fun _ _ _ h => h) (Or.inl ⟨by rfl, ?_⟩) (by assumption) ?_
  rotate_left
  · intro w hSw; (try dsimp only at hSw); go_simp <;> with_reducible rfl
  (try simp only [Act.put, List.setIfInBounds_toArray, List.set_cons_zero, List.set_cons_succ])
  refine wpAnyH_ready (rs := [16]) (by kernel_rfl) (by simp) ?_
  refine AllReadyH.cons (o := ({ dst := some 40, op := Op.call { callee := Callee.value (Operand.func 14), args := #[Operand.tmp 38, Operand.tmp 39], argTypes := #[23, 23] }, type := 23, pos := "law.go:29", after := #[{ on := 14, ground := Ground.data }, { on := 15, ground := Ground.data }, { on := 11, ground := Ground.chain }, { on := 11, ground := Ground.guard }], guard := some (11, true) } : Oper)) rfl (fun K hK => ?_) ?_
  rotate_left
  · exact AllReadyH.nil
  go_simp
  go_at_call 14
  with_reducible refine (j_b kA kB _ rfl rfl rfl _).mono ?_
  rintro e y2 ⟨rfl, hq2⟩
  have hB2 := below_step hB1 hq2
  clear hHeld
  first | (with_reducible refine hK.out _ _ ?_ (fun hHeld => ?_)) | (go_wp2_with fail; with_reducible refine hK.out _ _ ?_ (fun hHeld => ?_))
  · exact ⟨cell_below hB2 P0, cell_below hB2 P1, cell_below hB2 P2, cell_below hB2 P3, hB2⟩
  clear hK K
  (try simp only [Act.put, List.setIfInBounds_toArray, List.set_cons_zero, List.set_cons_succ])
  refine wpAnyH_ready (rs := [17]) (by kernel_rfl) (by simp) ?_
  refine AllReadyH.cons (o := ({ dst := some 41, op := Op.buildSlice 22 1 #[(0, Operand.tmp 40)], type := 22, pos := "law.go:29", after := #[{ on := 16, ground := Ground.data }, { on := 11, ground := Ground.guard }], guard := some (11, true) } : Oper)) rfl (fun K hK => ?_) ?_
  rotate_left
  · exact AllReadyH.nil
  go_simp
  have hM3 := below_a hB2 (.cells #[.int .u64 ((joinB kA kB).toNat : Int)] 23)
  clear hHeld
  first | (with_reducible refine hK.out _ _ ?_ (fun hHeld => ?_)) | (go_wp2_with fail; with_reducible refine hK.out _ _ ?_ (fun hHeld => ?_))
  · exact ⟨cell_below hM3 P0, cell_below hM3 P1, cell_below hM3 P2, cell_below hM3 P3, hM3⟩
  clear hK K
  (try simp only [Act.put, List.setIfInBounds_toArray, List.set_cons_zero, List.set_cons_succ])
  refine wpAnyH_ready (rs := [18]) (by kernel_rfl) (by simp) ?_
  refine AllReadyH.cons (o := ({ dst := some 42, op := Op.call { callee := Callee.value (Operand.func 9), args := #[Operand.tmp 37, Operand.tmp 41], argTypes := #[22, 22] }, type := 4, pos := "law.go:29", after := #[{ on := 13, ground := Ground.data }, { on := 17, ground := Ground.data }, { on := 16, ground := Ground.chain }, { on := 11, ground := Ground.guard }], guard := some (11, true) } : Oper)) rfl (fun K hK => ?_) ?_
  rotate_left
  · exact AllReadyH.nil
  go_simp
  have hL42 := u64_lit1 y2 (joinB kA kB)
  go_at_call 9
  with_reducible refine (ex_same2 U2c hM3 hL42).mono ?_
  rintro e y4 ⟨rfl, hq4⟩
  have hB4 := below_step hM3 hq4
  clear hHeld
  first | (with_reducible refine hK.out _ _ ?_ (fun hHeld => ?_)) | (go_wp2_with fail; with_reducible refine hK.out _ _ ?_ (fun hHeld => ?_))
  · exact ⟨cell_below hB4 P0, cell_below hB4 P1, cell_below hB4 P2, cell_below hB4 P3, hB4⟩
  clear hK K
  (try simp only [Act.put, List.setIfInBounds_toArray, List.set_cons_zero, List.set_cons_succ])
  refine wpAnyH_take (i := 19) (oi := ({ dst := some 43, op := Op.pick (Operand.tmp 35) (Operand.tmp 42) (Operand.const (Value.bool false)), type := 4, pos := "law.go:29", after := #[{ on := 11, ground := Ground.data }, { on := 18, ground := Ground.data }], guard := none } : Oper)) (v := ?_) rfl (by kernel_rfl) (by kernel_rfl) (by kernel_rfl) (fun _ _ _ h => h) (Or.inl ⟨by rfl, ?_⟩) (by assumption) ?_
  rotate_left
  · intro w hSw; (try dsimp only at hSw); go_simp <;> with_reducible rfl
  (try simp only [Act.put, List.setIfInBounds_toArray, List.set_cons_zero, List.set_cons_succ])
  refine wpAnyH_take (i := 20) (oi := ({ dst := some 44, op := Op.move (Operand.tmp 43), type := 4, pos := "law.go:29", after := #[{ on := 19, ground := Ground.data }, { on := 18, ground := Ground.chain }], guard := none } : Oper)) (v := ?_) rfl (by kernel_rfl) (by kernel_rfl) (by kernel_rfl) (fun _ _ _ h => h) (Or.inl ⟨by rfl, ?_⟩) (by assumption) ?_
  rotate_left
  · intro w hSw; (try dsimp only at hSw); go_simp <;> with_reducible rfl
  (try simp only [Act.put, List.setIfInBounds_toArray, List.set_cons_zero, List.set_cons_succ])
  refine wpAnyH_take (i := 21) (oi := ({ dst := some 45, op := Op.move (Operand.tmp 1), type := 22, pos := "law.go:29", after := #[{ on := 20, ground := Ground.guard }], guard := some (20, true) } : Oper)) (v := ?_) rfl (by kernel_rfl) (by kernel_rfl) (by kernel_rfl) (fun _ _ _ h => h) (Or.inl ⟨by rfl, ?_⟩) (by assumption) ?_
  rotate_left
  · intro w hSw; (try dsimp only at hSw); go_simp <;> with_reducible rfl
  (try simp only [Act.put, List.setIfInBounds_toArray, List.set_cons_zero, List.set_cons_succ])
  refine wpAnyH_take (i := 23) (oi := ({ dst := some 47, op := Op.move (Operand.tmp 7), type := 23, pos := "law.go:29", after := #[{ on := 20, ground := Ground.guard }], guard := some (20, true) } : Oper)) (v := ?_) rfl (by kernel_rfl) (by kernel_rfl) (by kernel_rfl) (fun _ _ _ h => h) (Or.inl ⟨by rfl, ?_⟩) (by assumption) ?_
  rotate_left
  · intro w hSw; (try dsimp only at hSw); go_simp <;> with_reducible rfl
  (try simp only [Act.put, List.setIfInBounds_toArray, List.set_cons_zero, List.set_cons_succ])
  refine wpAnyH_ready (rs := [22]) (by kernel_rfl) (by simp) ?_
  refine AllReadyH.cons (o := ({ dst := some 46, op := Op.call { callee := Callee.value (Operand.func 5), args := #[Operand.tmp 45], argTypes := #[22] }, type := 23, pos := "law.go:29", after := #[{ on := 21, ground := Ground.data }, { on := 20, ground := Ground.chain }, { on := 20, ground := Ground.guard }], guard := some (20, true) } : Oper)) rfl (fun K hK => ?_) ?_
  rotate_left
  · exact AllReadyH.nil
  go_simp
  go_at_call 5
  with_reducible refine (ex_root UL hB4).mono ?_
  rintro e y5 ⟨rfl, hq5⟩
  have hB5 := below_step hB4 hq5
  clear hHeld
  first | (with_reducible refine hK.out _ _ ?_ (fun hHeld => ?_)) | (go_wp2_with fail; with_reducible refine hK.out _ _ ?_ (fun hHeld => ?_))
  · exact ⟨cell_below hB5 P0, cell_below hB5 P1, cell_below hB5 P2, cell_below hB5 P3, hB5⟩
  clear hK K
  (try simp only [Act.put, List.setIfInBounds_toArray, List.set_cons_zero, List.set_cons_succ])
  refine wpAnyH_take (i := 24) (oi := ({ dst := some 48, op := Op.binOp BinOp.eql 23 (Operand.tmp 46) (Operand.tmp 47) 23, type := 4, pos := "law.go:29", after := #[{ on := 22, ground := Ground.data }, { on := 23, ground := Ground.data }, { on := 20, ground := Ground.guard }], guard := some (20, true) } : Oper)) (v := ?_) rfl (by kernel_rfl) (by kernel_rfl) (by kernel_rfl) (fun _ _ _ h => h) (Or.inl ⟨by rfl, ?_⟩) (by assumption) ?_
  rotate_left
  · intro w hSw; (try dsimp only at hSw); go_simp <;> with_reducible rfl
  (try simp only [Act.put, List.setIfInBounds_toArray, List.set_cons_zero, List.set_cons_succ])
  refine wpAnyH_take (i := 25) (oi := ({ dst := some 49, op := Op.pick (Operand.tmp 44) (Operand.tmp 48) (Operand.const (Value.bool false)), type := 4, pos := "law.go:29", after := #[{ on := 20, ground := Ground.data }, { on := 24, ground := Ground.data }], guard := none } : Oper)) (v := ?_) rfl (by kernel_rfl) (by kernel_rfl) (by kernel_rfl) (fun _ _ _ h => h) (Or.inl ⟨by rfl, ?_⟩) (by assumption) ?_
  rotate_left
  · intro w hSw; (try dsimp only at hSw); go_simp <;> with_reducible rfl
  (try simp only [Act.put, List.setIfInBounds_toArray, List.set_cons_zero, List.set_cons_succ])
  refine wpAnyH_take (i := 26) (oi := ({ dst := some 50, op := Op.move (Operand.tmp 49), type := 4, pos := "law.go:29", after := #[{ on := 25, ground := Ground.data }, { on := 22, ground := Ground.chain }], guard := none } : Oper)) (v := ?_) rfl (by kernel_rfl) (by kernel_rfl) (by kernel_rfl) (fun _ _ _ h => h) (Or.inl ⟨by rfl, ?_⟩) (by assumption) ?_
  rotate_left
  · intro w hSw; (try dsimp only at hSw); go_simp <;> with_reducible rfl
  (try simp only [Act.put, List.setIfInBounds_toArray, List.set_cons_zero, List.set_cons_succ])
  refine wpAnyH_ready (rs := [27]) (by kernel_rfl) (by simp) ?_
  refine AllReadyH.cons (o := ({ dst := some 51, op := Op.call { callee := Callee.value (Operand.func 5), args := #[Operand.const (Value.slice none 0 0)], argTypes := #[22] }, type := 23, pos := "law.go:29", after := #[{ on := 26, ground := Ground.chain }, { on := 26, ground := Ground.guard }], guard := some (26, true) } : Oper)) rfl (fun K hK => ?_) ?_
  rotate_left
  · exact AllReadyH.nil
  go_simp
  go_at_call 5
  with_reducible refine (ex_root0 _).mono ?_
  rintro e y6 ⟨rfl, hq6⟩
  have hB6 := below_step hB5 hq6
  clear hHeld
  first | (with_reducible refine hK.out _ _ ?_ (fun hHeld => ?_)) | (go_wp2_with fail; with_reducible refine hK.out _ _ ?_ (fun hHeld => ?_))
  · exact ⟨cell_below hB6 P0, cell_below hB6 P1, cell_below hB6 P2, cell_below hB6 P3, hB6⟩
  clear hK K
  (try simp only [Act.put, List.setIfInBounds_toArray, List.set_cons_zero, List.set_cons_succ])
  refine wpAnyH_ready (rs := [28]) (by kernel_rfl) (by simp) ?_
  refine AllReadyH.cons (o := ({ dst := some 52, op := Op.call { callee := Callee.value (Operand.func 14), args := #[Operand.const (Value.int IntKind.u64 0), Operand.const (Value.int IntKind.u64 0)], argTypes := #[23, 23] }, type := 23, pos := "law.go:29", after := #[{ on := 27, ground := Ground.chain }, { on := 26, ground := Ground.guard }], guard := some (26, true) } : Oper)) rfl (fun K hK => ?_) ?_
  rotate_left
  · exact AllReadyH.nil
  go_simp
  go_at_call 14
  with_reducible refine (j_b (x := 0) (y := 0) 0#64 0#64 (rootB []) e_root0.symm rfl rfl _).mono ?_
  rintro e y7 ⟨rfl, hq7⟩
  have hB7 := below_step hB6 hq7
  clear hHeld
  first | (with_reducible refine hK.out _ _ ?_ (fun hHeld => ?_)) | (go_wp2_with fail; with_reducible refine hK.out _ _ ?_ (fun hHeld => ?_))
  · exact ⟨cell_below hB7 P0, cell_below hB7 P1, cell_below hB7 P2, cell_below hB7 P3, hB7⟩
  clear hK K
  (try simp only [Act.put, List.setIfInBounds_toArray, List.set_cons_zero, List.set_cons_succ])
  refine wpAnyH_take (i := 29) (oi := ({ dst := some 53, op := Op.binOp BinOp.eql 23 (Operand.tmp 51) (Operand.tmp 52) 23, type := 4, pos := "law.go:29", after := #[{ on := 27, ground := Ground.data }, { on := 28, ground := Ground.data }, { on := 26, ground := Ground.guard }], guard := some (26, true) } : Oper)) (v := ?_) rfl (by kernel_rfl) (by kernel_rfl) (by kernel_rfl) (fun _ _ _ h => h) (Or.inl ⟨by rfl, ?_⟩) (by assumption) ?_
  rotate_left
  · intro w hSw; (try dsimp only at hSw); go_simp <;> with_reducible rfl
  (try simp only [Act.put, List.setIfInBounds_toArray, List.set_cons_zero, List.set_cons_succ])
  refine wpAnyH_take (i := 30) (oi := ({ dst := some 54, op := Op.pick (Operand.tmp 50) (Operand.tmp 53) (Operand.const (Value.bool false)), type := 4, pos := "law.go:29", after := #[{ on := 26, ground := Ground.data }, { on := 29, ground := Ground.data }], guard := none } : Oper)) (v := ?_) rfl (by kernel_rfl) (by kernel_rfl) (by kernel_rfl) (fun _ _ _ h => h) (Or.inl ⟨by rfl, ?_⟩) (by assumption) ?_
  rotate_left
  · intro w hSw; (try dsimp only at hSw); go_simp <;> with_reducible rfl
  (try simp only [Act.put, List.setIfInBounds_toArray, List.set_cons_zero, List.set_cons_succ])
  refine wpAnyH_take (i := 31) (oi := ({ dst := some 55, op := Op.move (Operand.tmp 54), type := 4, pos := "law.go:29", after := #[{ on := 30, ground := Ground.data }, { on := 28, ground := Ground.chain }], guard := none } : Oper)) (v := ?_) rfl (by kernel_rfl) (by kernel_rfl) (by kernel_rfl) (fun _ _ _ h => h) (Or.inl ⟨by rfl, ?_⟩) (by assumption) ?_
  rotate_left
  · intro w hSw; (try dsimp only at hSw); go_simp <;> with_reducible rfl
  (try simp only [Act.put, List.setIfInBounds_toArray, List.set_cons_zero, List.set_cons_succ])
  refine wpAnyH_take (i := 32) (oi := ({ dst := some 56, op := Op.fieldAddr 32 (Operand.tmp 8) 1, type := 0, pos := "law.go:29", after := #[{ on := 31, ground := Ground.guard }], guard := some (31, true) } : Oper)) (v := ?_) rfl (by kernel_rfl) (by kernel_rfl) (by kernel_rfl) (fun _ _ _ h => h) (Or.inl ⟨by rfl, ?_⟩) (by assumption) ?_
  rotate_left
  · intro w hSw; (try dsimp only at hSw); go_simp <;> with_reducible rfl
  (try simp only [Act.put, List.setIfInBounds_toArray, List.set_cons_zero, List.set_cons_succ])
  refine wpAnyH_take (i := 33) (oi := ({ dst := some 57, op := Op.load 30 (Operand.tmp 56), type := 30, pos := "law.go:29", after := #[{ on := 32, ground := Ground.data }, { on := 31, ground := Ground.guard }], guard := some (31, true) } : Oper)) (v := ?_) rfl (by kernel_rfl) (by kernel_rfl) (by kernel_rfl) (fun _ _ _ h => h) (Or.inl ⟨by rfl, ?_⟩) (by assumption) ?_
  rotate_left
  · intro w hSw; (try dsimp only at hSw); go_simp <;> with_reducible rfl
  (try simp only [Act.put, List.setIfInBounds_toArray, List.set_cons_zero, List.set_cons_succ])
  refine wpAnyH_take (i := 34) (oi := ({ dst := some 58, op := Op.binOp BinOp.eql 30 (Operand.tmp 57) (Operand.const (Value.int IntKind.i64 1)) 30, type := 4, pos := "law.go:29", after := #[{ on := 33, ground := Ground.data }, { on := 31, ground := Ground.guard }], guard := some (31, true) } : Oper)) (v := ?_) rfl (by kernel_rfl) (by kernel_rfl) (by kernel_rfl) (fun _ _ _ h => h) (Or.inl ⟨by rfl, ?_⟩) (by assumption) ?_
  rotate_left
  · intro w hSw; (try dsimp only at hSw); go_simp <;> with_reducible rfl
  (try simp only [Act.put, List.setIfInBounds_toArray, List.set_cons_zero, List.set_cons_succ])
  refine wpAnyH_take (i := 35) (oi := ({ dst := some 59, op := Op.pick (Operand.tmp 55) (Operand.tmp 58) (Operand.const (Value.bool false)), type := 4, pos := "law.go:29", after := #[{ on := 31, ground := Ground.data }, { on := 34, ground := Ground.data }], guard := none } : Oper)) (v := ?_) rfl (by kernel_rfl) (by kernel_rfl) (by kernel_rfl) (fun _ _ _ h => h) (Or.inl ⟨by rfl, ?_⟩) (by assumption) ?_
  rotate_left
  · intro w hSw; (try dsimp only at hSw); go_simp <;> with_reducible rfl
  (try simp only [Act.put, List.setIfInBounds_toArray, List.set_cons_zero, List.set_cons_succ])
  refine wpAnyH_take (i := 36) (oi := ({ dst := some 60, op := Op.move (Operand.tmp 59), type := 4, pos := "law.go:29", after := #[{ on := 35, ground := Ground.data }, { on := 31, ground := Ground.chain }], guard := none } : Oper)) (v := ?_) rfl (by kernel_rfl) (by kernel_rfl) (by kernel_rfl) (fun _ _ _ h => h) (Or.inl ⟨by rfl, ?_⟩) (by assumption) ?_
  rotate_left
  · intro w hSw; (try dsimp only at hSw); go_simp <;> with_reducible rfl
  (try simp only [Act.put, List.setIfInBounds_toArray, List.set_cons_zero, List.set_cons_succ])
  refine wpAnyH_take (i := 37) (oi := ({ dst := some 61, op := Op.move (Operand.tmp 7), type := 23, pos := "law.go:29", after := #[{ on := 36, ground := Ground.guard }], guard := some (36, true) } : Oper)) (v := ?_) rfl (by kernel_rfl) (by kernel_rfl) (by kernel_rfl) (fun _ _ _ h => h) (Or.inl ⟨by rfl, ?_⟩) (by assumption) ?_
  rotate_left
  · intro w hSw; (try dsimp only at hSw); go_simp <;> with_reducible rfl
  (try simp only [Act.put, List.setIfInBounds_toArray, List.set_cons_zero, List.set_cons_succ])
  refine wpAnyH_take (i := 38) (oi := ({ dst := some 62, op := Op.fieldAddr 32 (Operand.tmp 5) 0, type := 0, pos := "law.go:29", after := #[{ on := 36, ground := Ground.guard }], guard := some (36, true) } : Oper)) (v := ?_) rfl (by kernel_rfl) (by kernel_rfl) (by kernel_rfl) (fun _ _ _ h => h) (Or.inl ⟨by rfl, ?_⟩) (by assumption) ?_
  rotate_left
  · intro w hSw; (try dsimp only at hSw); go_simp <;> with_reducible rfl
  (try simp only [Act.put, List.setIfInBounds_toArray, List.set_cons_zero, List.set_cons_succ])
  refine wpAnyH_take (i := 39) (oi := ({ dst := some 63, op := Op.load 22 (Operand.tmp 62), type := 22, pos := "law.go:29", after := #[{ on := 38, ground := Ground.data }, { on := 36, ground := Ground.guard }], guard := some (36, true) } : Oper)) (v := ?_) rfl (by kernel_rfl) (by kernel_rfl) (by kernel_rfl) (fun _ _ _ h => h) (Or.inl ⟨by rfl, ?_⟩) (by assumption) ?_
  rotate_left
  · intro w hSw; (try dsimp only at hSw); go_simp <;> with_reducible rfl
  (try simp only [Act.put, List.setIfInBounds_toArray, List.set_cons_zero, List.set_cons_succ])
  refine wpAnyH_take (i := 40) (oi := ({ dst := some 64, op := Op.build 25 #[(0, Operand.const (Value.int IntKind.u64 22)), (1, Operand.tmp 63)], type := 25, pos := "law.go:29", after := #[{ on := 39, ground := Ground.data }, { on := 36, ground := Ground.guard }], guard := some (36, true) } : Oper)) (v := ?_) rfl (by kernel_rfl) (by kernel_rfl) (by kernel_rfl) (fun _ _ _ h => h) (Or.inl ⟨by rfl, ?_⟩) (by assumption) ?_
  rotate_left
  · intro w hSw; (try dsimp only at hSw); go_simp <;> with_reducible rfl
  (try simp only [Act.put, List.setIfInBounds_toArray, List.set_cons_zero, List.set_cons_succ])
  refine wpAnyH_ready (rs := [41]) (by kernel_rfl) (by simp) ?_
  refine AllReadyH.cons (o := ({ dst := some 65, op := Op.call { callee := Callee.value (Operand.func 10), args := #[Operand.tmp 61, Operand.const (Value.int IntKind.i64 3), Operand.const (Value.int IntKind.i64 1), Operand.tmp 64], argTypes := #[23, 3, 3, 25] }, type := 30, pos := "law.go:29", after := #[{ on := 37, ground := Ground.data }, { on := 40, ground := Ground.data }, { on := 36, ground := Ground.chain }, { on := 36, ground := Ground.guard }], guard := some (36, true) } : Oper)) rfl (fun K hK => ?_) ?_
  rotate_left
  · exact AllReadyH.nil
  go_simp
  go_at_call 10
  with_reducible refine (ex_check (x := 22) 22#64 0 e_c1 U1c hB7 e_22).mono ?_
  rintro e y8 ⟨rfl, hq8⟩
  have hB8 := below_step hB7 hq8
  clear hHeld
  first | (with_reducible refine hK.out _ _ ?_ (fun hHeld => ?_)) | (go_wp2_with fail; with_reducible refine hK.out _ _ ?_ (fun hHeld => ?_))
  · exact ⟨cell_below hB8 P0, cell_below hB8 P1, cell_below hB8 P2, cell_below hB8 P3, hB8⟩
  clear hK K
  (try simp only [Act.put, List.setIfInBounds_toArray, List.set_cons_zero, List.set_cons_succ])
  refine wpAnyH_take (i := 42) (oi := ({ dst := some 66, op := Op.binOp BinOp.eql 30 (Operand.tmp 65) (Operand.const (Value.int IntKind.i64 0)) 30, type := 4, pos := "law.go:29", after := #[{ on := 41, ground := Ground.data }, { on := 36, ground := Ground.guard }], guard := some (36, true) } : Oper)) (v := ?_) rfl (by kernel_rfl) (by kernel_rfl) (by kernel_rfl) (fun _ _ _ h => h) (Or.inl ⟨by rfl, ?_⟩) (by assumption) ?_
  rotate_left
  · intro w hSw; (try dsimp only at hSw); go_simp <;> with_reducible rfl
  (try simp only [Act.put, List.setIfInBounds_toArray, List.set_cons_zero, List.set_cons_succ])
  refine wpAnyH_take (i := 43) (oi := ({ dst := some 67, op := Op.pick (Operand.tmp 60) (Operand.tmp 66) (Operand.const (Value.bool false)), type := 4, pos := "law.go:29", after := #[{ on := 36, ground := Ground.data }, { on := 42, ground := Ground.data }], guard := none } : Oper)) (v := ?_) rfl (by kernel_rfl) (by kernel_rfl) (by kernel_rfl) (fun _ _ _ h => h) (Or.inl ⟨by rfl, ?_⟩) (by assumption) ?_
  rotate_left
  · intro w hSw; (try dsimp only at hSw); go_simp <;> with_reducible rfl
  (try simp only [Act.put, List.setIfInBounds_toArray, List.set_cons_zero, List.set_cons_succ])
  refine wpAnyH_take (i := 44) (oi := ({ dst := some 68, op := Op.move (Operand.tmp 67), type := 4, pos := "law.go:29", after := #[{ on := 43, ground := Ground.data }, { on := 41, ground := Ground.chain }], guard := none } : Oper)) (v := ?_) rfl (by kernel_rfl) (by kernel_rfl) (by kernel_rfl) (fun _ _ _ h => h) (Or.inl ⟨by rfl, ?_⟩) (by assumption) ?_
  rotate_left
  · intro w hSw; (try dsimp only at hSw); go_simp <;> with_reducible rfl
  (try simp only [Act.put, List.setIfInBounds_toArray, List.set_cons_zero, List.set_cons_succ])
  refine wpAnyH_take (i := 45) (oi := ({ dst := some 69, op := Op.move (Operand.tmp 7), type := 23, pos := "law.go:29", after := #[{ on := 44, ground := Ground.guard }], guard := some (44, true) } : Oper)) (v := ?_) rfl (by kernel_rfl) (by kernel_rfl) (by kernel_rfl) (fun _ _ _ h => h) (Or.inl ⟨by rfl, ?_⟩) (by assumption) ?_
  rotate_left
  · intro w hSw; (try dsimp only at hSw); go_simp <;> with_reducible rfl
  (try simp only [Act.put, List.setIfInBounds_toArray, List.set_cons_zero, List.set_cons_succ])
  refine wpAnyH_take (i := 46) (oi := ({ dst := some 70, op := Op.fieldAddr 32 (Operand.tmp 5) 0, type := 0, pos := "law.go:29", after := #[{ on := 44, ground := Ground.guard }], guard := some (44, true) } : Oper)) (v := ?_) rfl (by kernel_rfl) (by kernel_rfl) (by kernel_rfl) (fun _ _ _ h => h) (Or.inl ⟨by rfl, ?_⟩) (by assumption) ?_
  rotate_left
  · intro w hSw; (try dsimp only at hSw); go_simp <;> with_reducible rfl
  (try simp only [Act.put, List.setIfInBounds_toArray, List.set_cons_zero, List.set_cons_succ])
  refine wpAnyH_take (i := 47) (oi := ({ dst := some 71, op := Op.load 22 (Operand.tmp 70), type := 22, pos := "law.go:29", after := #[{ on := 46, ground := Ground.data }, { on := 44, ground := Ground.guard }], guard := some (44, true) } : Oper)) (v := ?_) rfl (by kernel_rfl) (by kernel_rfl) (by kernel_rfl) (fun _ _ _ h => h) (Or.inl ⟨by rfl, ?_⟩) (by assumption) ?_
  rotate_left
  · intro w hSw; (try dsimp only at hSw); go_simp <;> with_reducible rfl
  (try simp only [Act.put, List.setIfInBounds_toArray, List.set_cons_zero, List.set_cons_succ])
  refine wpAnyH_take (i := 48) (oi := ({ dst := some 72, op := Op.build 25 #[(0, Operand.const (Value.int IntKind.u64 23)), (1, Operand.tmp 71)], type := 25, pos := "law.go:29", after := #[{ on := 47, ground := Ground.data }, { on := 44, ground := Ground.guard }], guard := some (44, true) } : Oper)) (v := ?_) rfl (by kernel_rfl) (by kernel_rfl) (by kernel_rfl) (fun _ _ _ h => h) (Or.inl ⟨by rfl, ?_⟩) (by assumption) ?_
  rotate_left
  · intro w hSw; (try dsimp only at hSw); go_simp <;> with_reducible rfl
  (try simp only [Act.put, List.setIfInBounds_toArray, List.set_cons_zero, List.set_cons_succ])
  refine wpAnyH_ready (rs := [49]) (by kernel_rfl) (by simp) ?_
  refine AllReadyH.cons (o := ({ dst := some 73, op := Op.call { callee := Callee.value (Operand.func 10), args := #[Operand.tmp 69, Operand.const (Value.int IntKind.i64 3), Operand.const (Value.int IntKind.i64 1), Operand.tmp 72], argTypes := #[23, 3, 3, 25] }, type := 30, pos := "law.go:29", after := #[{ on := 45, ground := Ground.data }, { on := 48, ground := Ground.data }, { on := 44, ground := Ground.chain }, { on := 44, ground := Ground.guard }], guard := some (44, true) } : Oper)) rfl (fun K hK => ?_) ?_
  rotate_left
  · exact AllReadyH.nil
  go_simp
  go_at_call 10
  with_reducible refine (ex_check (x := 23) 23#64 40 e_c2 U1c hB8 e_23).mono ?_
  rintro e y9 ⟨rfl, hq9⟩
  have hB9 := below_step hB8 hq9
  clear hHeld
  first | (with_reducible refine hK.out _ _ ?_ (fun hHeld => ?_)) | (go_wp2_with fail; with_reducible refine hK.out _ _ ?_ (fun hHeld => ?_))
  · exact ⟨cell_below hB9 P0, cell_below hB9 P1, cell_below hB9 P2, cell_below hB9 P3, hB9⟩
  clear hK K
  (try simp only [Act.put, List.setIfInBounds_toArray, List.set_cons_zero, List.set_cons_succ])
  refine wpAnyH_take (i := 50) (oi := ({ dst := some 74, op := Op.binOp BinOp.eql 30 (Operand.tmp 73) (Operand.const (Value.int IntKind.i64 40)) 30, type := 4, pos := "law.go:29", after := #[{ on := 49, ground := Ground.data }, { on := 44, ground := Ground.guard }], guard := some (44, true) } : Oper)) (v := ?_) rfl (by kernel_rfl) (by kernel_rfl) (by kernel_rfl) (fun _ _ _ h => h) (Or.inl ⟨by rfl, ?_⟩) (by assumption) ?_
  rotate_left
  · intro w hSw; (try dsimp only at hSw); go_simp <;> with_reducible rfl
  (try simp only [Act.put, List.setIfInBounds_toArray, List.set_cons_zero, List.set_cons_succ])
  refine wpAnyH_take (i := 51) (oi := ({ dst := some 75, op := Op.pick (Operand.tmp 68) (Operand.tmp 74) (Operand.const (Value.bool false)), type := 4, pos := "law.go:29", after := #[{ on := 44, ground := Ground.data }, { on := 50, ground := Ground.data }], guard := none } : Oper)) (v := ?_) rfl (by kernel_rfl) (by kernel_rfl) (by kernel_rfl) (fun _ _ _ h => h) (Or.inl ⟨by rfl, ?_⟩) (by assumption) ?_
  rotate_left
  · intro w hSw; (try dsimp only at hSw); go_simp <;> with_reducible rfl
  (try simp only [Act.put, List.setIfInBounds_toArray, List.set_cons_zero, List.set_cons_succ])
  refine wpAnyH_take (i := 52) (oi := ({ dst := some 0, op := Op.assign (Operand.tmp 75), type := 4, pos := "law.go:29", after := #[{ on := 51, ground := Ground.data }, { on := 49, ground := Ground.chain }, { on := 0, ground := Ground.phase }, { on := 1, ground := Ground.phase }, { on := 2, ground := Ground.phase }, { on := 3, ground := Ground.phase }, { on := 4, ground := Ground.phase }, { on := 5, ground := Ground.phase }, { on := 6, ground := Ground.phase }, { on := 7, ground := Ground.phase }, { on := 8, ground := Ground.phase }, { on := 9, ground := Ground.phase }, { on := 10, ground := Ground.phase }, { on := 11, ground := Ground.phase }, { on := 12, ground := Ground.phase }, { on := 13, ground := Ground.phase }, { on := 14, ground := Ground.phase }, { on := 15, ground := Ground.phase }, { on := 16, ground := Ground.phase }, { on := 17, ground := Ground.phase }, { on := 18, ground := Ground.phase }, { on := 19, ground := Ground.phase }, { on := 20, ground := Ground.phase }, { on := 21, ground := Ground.phase }, { on := 22, ground := Ground.phase }, { on := 23, ground := Ground.phase }, { on := 24, ground := Ground.phase }, { on := 25, ground := Ground.phase }, { on := 26, ground := Ground.phase }, { on := 27, ground := Ground.phase }, { on := 28, ground := Ground.phase }, { on := 29, ground := Ground.phase }, { on := 30, ground := Ground.phase }, { on := 31, ground := Ground.phase }, { on := 32, ground := Ground.phase }, { on := 33, ground := Ground.phase }, { on := 34, ground := Ground.phase }, { on := 35, ground := Ground.phase }, { on := 36, ground := Ground.phase }, { on := 37, ground := Ground.phase }, { on := 38, ground := Ground.phase }, { on := 39, ground := Ground.phase }, { on := 40, ground := Ground.phase }, { on := 41, ground := Ground.phase }, { on := 42, ground := Ground.phase }, { on := 43, ground := Ground.phase }, { on := 44, ground := Ground.phase }, { on := 45, ground := Ground.phase }, { on := 46, ground := Ground.phase }, { on := 47, ground := Ground.phase }, { on := 48, ground := Ground.phase }, { on := 49, ground := Ground.phase }, { on := 50, ground := Ground.phase }, { on := 51, ground := Ground.phase }], guard := none } : Oper)) (v := ?_) rfl (by kernel_rfl) (by kernel_rfl) (by kernel_rfl) (fun _ _ _ h => h) (Or.inl ⟨by rfl, ?_⟩) (by assumption) ?_
  rotate_left
  · intro w hSw; (try dsimp only at hSw); go_simp <;> with_reducible rfl
  (try simp only [Act.put, List.setIfInBounds_toArray, List.set_cons_zero, List.set_cons_succ])
  refine wpAnyH_done (by kernel_rfl) ?_ _
  go_wp2_with fail
  go_ret
  exact ⟨rfl, B0.out.trans ((B2.out.trans ((B3.out.mono (by have := B2.out.size; omega)).trans ((B8.out.mono (by have := B2.out.size; have := B3.out.size; omega)).trans (hB9.mono (by have := B2.out.size; have := B3.out.size; have := B8.out.size; omega))))).mono B0.out.size)⟩
end Go.Proofs.Ytchmiaeajkpijaa

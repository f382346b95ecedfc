import Derived.Test.YtchmiaeajkpijaaLyj
import Derived.Test.YtchmiaeajkpijaaLx
import Derived.Deep.Cut
namespace Go.Proofs.Ytchmiaeajkpijaa
open Go.RowKit Go.Instr
set_option linter.unusedVariables false

/-! The law MerkleMatchesReference: what is written of its walk. -/
theorem rroot_b (v : Value) (l : List (BitVec 64)) (w : World) (hv : U64At w v l) : Calls Try.prog 8 #[v] w fun e w' => e = .returned (.int .u64 ((rootB l).toNat : Int)) ∧ Below w.heap.size w w' := (rroot_any v l w hv).mono fun e w' ⟨h1, h2⟩ => ⟨h1, below_dn h2⟩
theorem lcheck_m (root leaf : BitVec 64) (n i : Int) (path : List (BitVec 64)) (p : Option Addr) (m c : Nat) (hm : path.length = m) (w : World) (hv : U64At w (.slice p m c) path) :
    Calls Try.prog 10 #[.int .u64 (root.toNat : Int), .int .i64 n, .int .i64 i, .agg #[.int .u64 (leaf.toNat : Int), .slice p m c]] w fun e w' => e = .returned (.int .i64 (checkE root n i leaf path)) ∧ Below w.heap.size w w' := by
  subst hm
  exact lcheck_any root leaf n i path p c w hv
theorem coll_five (Z : Option (Pair × Pair)) : ∃ (v0 v1 v2 v3 : Int) (bb : Bool), collV Z = .tuple #[.agg #[.int .u64 v0, .int .u64 v1, .int .u64 v2, .int .u64 v3], .bool bb] ∧ collR Z = .agg #[.int .u64 v0, .int .u64 v1, .int .u64 v2, .int .u64 v3, .bool bb] := by
  cases Z with
  | none => exact ⟨0, 0, 0, 0, false, rfl, rfl⟩
  | some z => exact ⟨_, _, _, _, true, rfl, rfl⟩
theorem equal_p2f (k : Nat) (a b c d : Int) (w : World) : (Op.equalIn (k + 2) 36 (.agg #[.int .u64 a, .int .u64 b]) (.agg #[.int .u64 c, .int .u64 d])).run Try.prog w = .ok (a == c && b == d) w := by
  have u3 := Try.underlying23
  have a3 := Try.isAgg23
  have z3 := Try.sizeOf23
  rw [show k + 2 = (k + 1) + 1 from rfl, Op.equalIn]
  simp only [Sem.run_bind, run_underlying Try.underlying36, Result.andThen_ok]
  simp only [Std.Legacy.Range.forIn_eq_forIn_range', Std.Legacy.Range.size, Nat.sub_zero, Nat.add_sub_cancel, Nat.div_one, List.range'_succ, List.range'_zero, List.forIn_cons, List.forIn_nil]
  go_simp
  by_cases h1 : a = c <;> by_cases h2 : b = d <;> simp [h1, h2]
theorem equal_p22 (a b c d : Int) (w : World) : (Op.equalIn 10000 37 (.agg #[.int .u64 a, .int .u64 b, .int .u64 c, .int .u64 d]) (.agg #[.int .u64 a, .int .u64 b, .int .u64 c, .int .u64 d])).run Try.prog w = .ok true w := by
  have a3 := Try.isAgg36
  have z3 := Try.sizeOf36
  have e1 := equal_p2f 9997 a b a b
  have e2 := equal_p2f 9997 c d c d
  rw [show (10000 : Nat) = 9999 + 1 from rfl, Op.equalIn]
  simp only [Sem.run_bind, run_underlying Try.underlying37, Result.andThen_ok]
  simp only [Std.Legacy.Range.forIn_eq_forIn_range', Std.Legacy.Range.size, Nat.sub_zero, Nat.add_sub_cancel, Nat.div_one, List.range'_succ, List.range'_zero, List.forIn_cons, List.forIn_nil]
  go_simp
attribute [local go_sem] equal_p22
theorem same_t (L : List (BitVec 64)) (v u : Value) (w : World) (ha : U64At w v L) (hb : U64At w u L) : Calls Try.prog 9 #[v, u] w fun e w' => e = .returned (.bool true) ∧ Below w.heap.size w w' := (same_b L L v u w ha hb).mono fun e w' ⟨h1, h2⟩ => ⟨by rw [h1]; simp, h2⟩
set_option maxRecDepth 100000 in
set_option maxHeartbeats 16000000 in
theorem mm_walk (l P0 P1 : List (BitVec 64)) (u0 u1 : BitVec 64) (k0 k1 k2 : Int) (pl pa pb : Option Addr) (nl cl na ca nb cb : Nat) (w : World) (hl : U64Big w (.slice pl nl cl) l) (ha : U64Big w (.slice pa na ca) P0) (hb : U64Big w (.slice pb nb cb) P1) (enl : l.length = nl) (ena : P0.length = na) (enb : P1.length = nb) :
    Calls Try.prog 3 #[.slice pl nl cl, .agg #[.int .u64 (u0.toNat : Int), .slice pa na ca, .int .u64 (u1.toNat : Int), .slice pb nb cb], .agg #[.int .i64 k0, .int .i64 k1, .int .i64 k2]] w fun e w' => e = .returned (.bool true) ∧ Below w.heap.size w w' := by
  obtain ⟨w0, hw0⟩ : ∃ w0, (w.alloc (.cells #[.int .u64 (u0.toNat : Int), .slice pa na ca, .int .u64 (u1.toNat : Int), .slice pb nb cb] 26)).alloc (.cells #[.int .i64 k0, .int .i64 k1, .int .i64 k2] 27) = w0 := ⟨_, rfl⟩
  have hb0 : Below w.heap.size w w0 := by rw [← hw0]; exact below_a (below_a (Below.refl _ _) _) _
  have PK := hid (fun (W : World) (hW : Below w0.heap.size w0 W) => show W.cell? ⟨w.heap.size, 0, none⟩ = some (.int .u64 (u0.toNat : Int)) ∧ W.cell? ⟨w.heap.size, 1, none⟩ = some (.slice pa na ca) ∧ W.cell? ⟨w.heap.size, 2, none⟩ = some (.int .u64 (u1.toNat : Int)) ∧ W.cell? ⟨w.heap.size, 3, none⟩ = some (.slice pb nb cb) ∧ W.cell? ⟨w.heap.size + 1, 0, none⟩ = some (.int .i64 k0) ∧ W.cell? ⟨w.heap.size + 1, 1, none⟩ = some (.int .i64 k1) ∧ W.cell? ⟨w.heap.size + 1, 2, none⟩ = some (.int .i64 k2) from by
    refine ⟨cell_below hW ?_, cell_below hW ?_, cell_below hW ?_, cell_below hW ?_, cell_below hW ?_, cell_below hW ?_, cell_below hW ?_⟩ <;> (rw [← hw0]; simp [go_sem]))
  have L0 := hid (hl.below hb0)
  have A0 := hid (ha.below hb0)
  have Bb0 := hid (hb.below hb0)
  have B0 := hid hb0
  have EL := hid enl
  have EA := hid ena
  have EB := hid enb
  have Hw := hid hw0
  clear hb0 hl ha hb enl ena enb hw0
  go_enter Try.func3, Try.ntmps3
  go_wp2_with fail
  rw [Hw.out]
  clear Hw
  refine (examples_any _).mono ?_
  rintro e w1 ⟨rfl, hb⟩
  have B1 := hid hb; clear hb
  obtain ⟨c0, c1, c2, c3, q0, q1, q2⟩ := PK.out _ B1.out
  by_cases h1 : 60 < nl
  · go_wp2
    go_ret
    exact ⟨rfl, below_step B0.out B1.out⟩
  by_cases h2 : 60 < na
  · go_wp2
    go_ret
    exact ⟨rfl, below_step B0.out B1.out⟩
  by_cases h3 : 60 < nb
  · go_wp2
    go_ret
    exact ⟨rfl, below_step B0.out B1.out⟩
  have L1 := hid ((L0.out.below B1.out).at_ (by have := EL.out; omega))
  have A1 := hid ((A0.out.below B1.out).at_ (by have := EA.out; omega))
  have B1b := hid ((Bb0.out.below B1.out).at_ (by have := EB.out; omega))
  clear L0 A0 Bb0
  go_upto_region 6 with fail
  have hsd := (Below.refl w1.heap.size w1).drew
  refine wp_region_held_drew (S := fun W' => (W'.cell? ⟨w.heap.size + 1, 0, none⟩ = some (.int .i64 k0) ∧ W'.cell? ⟨w.heap.size + 1, 1, none⟩ = some (.int .i64 k1) ∧ Below w1.heap.size w1 W')) (by kernel_rfl) ?_ (fun hHeld => ?_)
  · exact ⟨q0, q1, hsd⟩
  refine wpAnyH_take (i := 0) (oi := ({ dst := some 38, op := Op.indexAddr 27 (Operand.tmp 5) (Operand.const (Value.int IntKind.i64 0)), type := 0, pos := "law.go:41", after := #[], guard := none } : Oper)) (v := ?_) rfl (by kernel_rfl) (by kernel_rfl) (by kernel_rfl) (fun _ _ _ h => h) (Or.inl ⟨by rfl, ?_⟩) (by assumption) ?_
  rotate_left
  · intro w hSw; (try dsimp only at hSw); go_simp <;> with_reducible rfl
  (try simp only [Act.put, List.setIfInBounds_toArray, List.set_cons_zero, List.set_cons_succ])
  refine wpAnyH_take (i := 1) (oi := ({ dst := some 39, op := Op.load 3 (Operand.tmp 38), type := 3, pos := "law.go:41", after := #[{ on := 0, ground := Ground.data }], guard := none } : Oper)) (v := ?_) rfl (by kernel_rfl) (by kernel_rfl) (by kernel_rfl) (fun _ _ _ h => h) (Or.inl ⟨by rfl, ?_⟩) (by assumption) ?_
  rotate_left
  · intro w hSw; (try dsimp only at hSw); go_simp <;> with_reducible rfl
  (try simp only [Act.put, List.setIfInBounds_toArray, List.set_cons_zero, List.set_cons_succ])
  refine wpAnyH_take (i := 2) (oi := ({ dst := some 40, op := Op.indexAddr 27 (Operand.tmp 5) (Operand.const (Value.int IntKind.i64 1)), type := 0, pos := "law.go:41", after := #[{ on := 4, ground := Ground.gcOnly Departure.lateStores }], guard := none } : Oper)) (v := ?_) rfl (by kernel_rfl) (by kernel_rfl) (by kernel_rfl) (fun _ _ _ h => h) (Or.inl ⟨by rfl, ?_⟩) (by assumption) ?_
  rotate_left
  · intro w hSw; (try dsimp only at hSw); go_simp <;> with_reducible rfl
  (try simp only [Act.put, List.setIfInBounds_toArray, List.set_cons_zero, List.set_cons_succ])
  refine wpAnyH_take (i := 3) (oi := ({ dst := some 41, op := Op.load 3 (Operand.tmp 40), type := 3, pos := "law.go:41", after := #[{ on := 2, ground := Ground.data }, { on := 4, ground := Ground.gcOnly Departure.lateStores }], guard := none } : Oper)) (v := ?_) rfl (by kernel_rfl) (by kernel_rfl) (by kernel_rfl) (fun _ _ _ h => h) (Or.inl ⟨by rfl, ?_⟩) (by assumption) ?_
  rotate_left
  · intro w hSw; (try dsimp only at hSw); go_simp <;> with_reducible rfl
  (try simp only [Act.put, List.setIfInBounds_toArray, List.set_cons_zero, List.set_cons_succ])
  refine wpAnyH_take (i := 4) (oi := ({ dst := some 8, op := Op.assign (Operand.tmp 39), type := 3, pos := "law.go:41", after := #[{ on := 1, ground := Ground.data }, { on := 0, ground := Ground.phase }, { on := 1, ground := Ground.phase }, { on := 2, ground := Ground.textOnly Departure.lateStores }, { on := 3, ground := Ground.textOnly Departure.lateStores }], guard := none } : Oper)) (v := ?_) rfl (by kernel_rfl) (by kernel_rfl) (by kernel_rfl) (fun _ _ _ h => h) (Or.inl ⟨by rfl, ?_⟩) (by assumption) ?_
  rotate_left
  · intro w hSw; (try dsimp only at hSw); go_simp <;> with_reducible rfl
  (try simp only [Act.put, List.setIfInBounds_toArray, List.set_cons_zero, List.set_cons_succ])
  refine wpAnyH_take (i := 5) (oi := ({ dst := some 9, op := Op.assign (Operand.tmp 41), type := 3, pos := "law.go:41", after := #[{ on := 3, ground := Ground.data }, { on := 4, ground := Ground.chain }, { on := 0, ground := Ground.phase }, { on := 1, ground := Ground.phase }, { on := 2, ground := Ground.phase }, { on := 3, ground := Ground.phase }, { on := 4, ground := Ground.phase }], guard := none } : Oper)) (v := ?_) rfl (by kernel_rfl) (by kernel_rfl) (by kernel_rfl) (fun _ _ _ h => h) (Or.inl ⟨by rfl, ?_⟩) (by assumption) ?_
  rotate_left
  · intro w hSw; (try dsimp only at hSw); go_simp <;> with_reducible rfl
  (try simp only [Act.put, List.setIfInBounds_toArray, List.set_cons_zero, List.set_cons_succ])
  refine wpAnyH_done (by kernel_rfl) ?_ _
  have B2 := hid (below_step B1.out hsd)
  have L2 := hid (L1.out.below hsd)
  have A2 := hid (A1.out.below hsd)
  have B2b := hid (B1b.out.below hsd)
  clear hHeld c0 c1 c2 c3 q0 q1 q2 L1 A1 B1b
  obtain ⟨w2, hw2⟩ : ∃ x, w1.drew = x := ⟨_, rfl⟩
  rw [hw2] at B2 L2 A2 B2b ⊢
  clear hw2 hsd
  obtain ⟨R, hR⟩ : ∃ R, rootB l = R := ⟨_, rfl⟩
  obtain ⟨L, hL⟩ : ∃ L, openP l k1 = L := ⟨_, rfl⟩
  obtain ⟨E, hE⟩ : ∃ E, placeE l.length k1 = E := ⟨_, rfl⟩
  have RT := hid (fun (W : World) (hW : Below w2.heap.size w2 W) => hR ▸ root_b (.slice pl nl cl) l W (L2.out.below hW))
  have RR := hid (fun (W : World) (hW : Below w2.heap.size w2 W) => hR ▸ rroot_b (.slice pl nl cl) l W (L2.out.below hW))
  have LO := hid (fun (W : World) (hW : Below w2.heap.size w2 W) => lopen_any l (.slice pl nl cl) k1 W (L2.out.below hW))
  have RO := hid (fun (W : World) (hW : Below w2.heap.size w2 W) => ropen_any l (.slice pl nl cl) k1 W (L2.out.below hW))
  unfold OpenedOk at RO
  rw [hL, hE] at LO RO
  go_wp2_with fail
  refine (RT.out _ (Below.refl _ _)).mono ?_
  rintro e w3 ⟨rfl, hb⟩
  have B3 := hid hb; clear hb
  go_wp2_with fail
  refine (LO.out _ B3.out).mono ?_
  rintro e w4 ⟨p1, c1, rfl, hu1, hb⟩
  have B4 := hid (below_step B3.out hb)
  go_wp2_with fail
  refine (RO.out _ B4.out).mono ?_
  rintro e w5 ⟨p2, c2, rfl, hu2, hb⟩
  have V1 := hid (hu1.below hb)
  have V2 := hid hu2
  have B5 := hid (below_step B4.out hb)
  clear hu1 hu2 hb RT LO RO
  go_upto_region 9 with fail
  obtain ⟨w6, hw6⟩ : ∃ x, (w5.alloc (.cells #[.slice p1 L.length c1, .int .i64 E] 32)).alloc (.cells #[.slice p2 L.length c2, .int .i64 E] 32) = x := ⟨_, rfl⟩
  have hb56 : Below w5.heap.size w5 w6 := by rw [← hw6]; exact below_a (below_a (Below.refl _ _) _) _
  have PO := hid (fun (W : World) (hW : Below w6.heap.size w6 W) => show W.cell? ⟨w5.heap.size, 0, none⟩ = some (.slice p1 L.length c1) ∧ W.cell? ⟨w5.heap.size, 1, none⟩ = some (.int .i64 E) ∧ W.cell? ⟨w5.heap.size + 1, 0, none⟩ = some (.slice p2 L.length c2) ∧ W.cell? ⟨w5.heap.size + 1, 1, none⟩ = some (.int .i64 E) from by
    refine ⟨cell_below hW ?_, cell_below hW ?_, cell_below hW ?_, cell_below hW ?_⟩ <;> (rw [← hw6]; simp [go_sem]))
  have B6 := hid (below_step B5.out hb56)
  have V16 := hid (V1.out.below hb56)
  have V26 := hid (V2.out.below hb56)
  rw [hw6]
  clear hw6 hb56 V1 V2
  go_wp2_with fail
  refine (RR.out _ B6.out).mono ?_
  rintro e w7 ⟨rfl, hb⟩
  have B7 := hid hb; clear hb
  obtain ⟨o0, o1, o2, o3⟩ := PO.out _ B7.out
  go_wp2_with fail
  refine (same_t L _ _ _ (V16.out.below B7.out) (V26.out.below B7.out)).mono ?_
  rintro e w8 ⟨rfl, hb⟩
  have B8 := hid (below_step B7.out hb); clear hb
  clear o0 o1 o2 o3
  have B28 := hid (below_step B6.out B8.out)
  have B08 := hid (below_step B2.out B28.out)
  obtain ⟨o0, o1, o2, o3⟩ := PO.out _ B8.out
  obtain ⟨d0, d1, d2, d3, q0, q1, q2⟩ := PK.out _ B08.out
  go_upto_region 12 with fail
  obtain ⟨w9, hw9⟩ : ∃ x, w8.alloc (.cells #[.int .u64 (u0.toNat : Int), .slice pa na ca] 25) = x := ⟨_, rfl⟩
  have hb89 : Below w8.heap.size w8 w9 := by rw [← hw9]; exact below_a (Below.refl _ _) _
  have HN := hid (show w9.heap[w8.heap.size]? = some (.cells #[.int .u64 (u0.toNat : Int), .slice pa na ca] 25 (0, 0)) from by rw [← hw9]; exact World.alloc_heap_new w8 _)
  have hz9 : w9.heap.size = w8.heap.size + 1 := by rw [← hw9]; simp
  have HZ9 := hid hz9
  rw [hw9]
  have B9 := hid (below_step B28.out hb89)
  have B09 := hid (below_step B08.out hb89)
  have B69 := hid (below_step B8.out hb89)
  clear hw9 hb89 o0 o1 o2 o3 d0 d1 d2 d3 q0 q1 q2 hz9
  obtain ⟨o0, o1, o2, o3⟩ := PO.out _ B69.out
  obtain ⟨d0, d1, d2, d3, q0, q1, q2⟩ := PK.out _ B09.out
  have n0 := blk_cell HN.out (j := 0) (v := .int .u64 (u0.toNat : Int)) rfl
  have n1 := blk_cell HN.out (j := 1) (v := .slice pa na ca) rfl
  have B2x := hid (below_step B2.out B9.out)
  have PY := hid (And.intro EB.out (B2b.out.below B9.out))
  by_cases hE0 : E = 0
  · by_cases hk2 : k2.tmod 2 = 0
    · have t1 : (E == 0) = true := by simpa using hE0
      have t2 : (k2.tmod 2 == 0) = true := by simpa using hk2
      obtain ⟨r1, r2, r3⟩ := place_ok (hE.trans hE0)
      have hb2 := B2.out.size
      have hb3 := B28.out.size
      have hb8 := B8.out.size
      have hL2 := L2.out
      obtain ⟨-, pl', cl', e1, -, -, -, h4⟩ := hL2
      simp only [Value.slice.injEq] at e1
      obtain ⟨rfl, -, rfl⟩ := e1
      obtain ⟨b, o, rfl, hcc⟩ := h4 (by omega)
      have hc0 := hcc k1.toNat (by omega)
      obtain ⟨z, hz⟩ : ∃ z, l[k1.toNat]'(by omega) = z := ⟨_, rfl⟩
      rw [hz] at hc0
      have hbz : b < w2.heap.size := World.block_lt_of_cell? w2 _ hc0
      have g0 := cell_below B9.out hc0
      have r4 : k1 < (nl : Int) := by have := EL.out; omega
      have h56 : w5.heap.size + 1 < w8.heap.size := by
        have h := World.block_lt_of_cell? w8 _ (PO.out _ B8.out).2.2.1
        exact h
      have hn1 : ¬ b = w8.heap.size := by omega
      have hn2 : ¬ w5.heap.size = w8.heap.size := by omega
      have hn3 : ¬ w.heap.size = w8.heap.size := by
        have h : w.heap.size < w8.heap.size := World.block_lt_of_cell? w8 _ (PK.out _ B08.out).1
        omega
      clear hcc h4 hc0 hz hb3
      go_upto_region 13 with fail
      have hsd := (Below.refl w9.heap.size w9).drew
      refine wp_region_held_drew (S := fun W' => (W'.cell? ⟨b, o + k1.toNat, none⟩ = some (.int .u64 (z.toNat : Int)) ∧ W'.cell? ⟨w5.heap.size, 0, none⟩ = some (.slice p1 L.length c1))) (by kernel_rfl) ?_ (fun hHeld => ?_)
      · exact ⟨g0, o0⟩
      refine wpAnyH_take (i := 0) (oi := ({ dst := some 80, op := Op.move (Operand.tmp 0), type := 22, pos := "law.go:49", after := #[], guard := none } : Oper)) (v := ?_) rfl (by kernel_rfl) (by kernel_rfl) (by kernel_rfl) (fun _ _ _ h => h) (Or.inl ⟨by rfl, ?_⟩) (by assumption) ?_
      rotate_left
      · intro w hSw; (try dsimp only at hSw); go_simp <;> with_reducible rfl
      (try simp only [Act.put, List.setIfInBounds_toArray, List.set_cons_zero, List.set_cons_succ])
      refine wpAnyH_take (i := 1) (oi := ({ dst := some 81, op := Op.move (Operand.tmp 9), type := 3, pos := "law.go:49", after := #[], guard := none } : Oper)) (v := ?_) rfl (by kernel_rfl) (by kernel_rfl) (by kernel_rfl) (fun _ _ _ h => h) (Or.inl ⟨by rfl, ?_⟩) (by assumption) ?_
      rotate_left
      · intro w hSw; (try dsimp only at hSw); go_simp <;> with_reducible rfl
      (try simp only [Act.put, List.setIfInBounds_toArray, List.set_cons_zero, List.set_cons_succ])
      refine wpAnyH_take (i := 2) (oi := ({ dst := some 82, op := Op.indexAddr 22 (Operand.tmp 80) (Operand.tmp 81), type := 0, pos := "law.go:49", after := #[{ on := 0, ground := Ground.data }, { on := 1, ground := Ground.data }], guard := none } : Oper)) (v := ?_) rfl (by kernel_rfl) (by kernel_rfl) (by kernel_rfl) (fun _ _ _ h => h) (Or.inl ⟨by rfl, ?_⟩) (by assumption) ?_
      rotate_left
      · intro w hSw; (try dsimp only at hSw); go_simp <;> with_reducible rfl
      (try simp only [Act.put, List.setIfInBounds_toArray, List.set_cons_zero, List.set_cons_succ])
      refine wpAnyH_take (i := 3) (oi := ({ dst := some 83, op := Op.load 23 (Operand.tmp 82), type := 23, pos := "law.go:49", after := #[{ on := 2, ground := Ground.data }], guard := none } : Oper)) (v := ?_) rfl (by kernel_rfl) (by kernel_rfl) (by kernel_rfl) (fun _ _ _ h => h) (Or.inl ⟨by rfl, ?_⟩) (by assumption) ?_
      rotate_left
      · intro w hSw; (try dsimp only at hSw); go_simp <;> with_reducible rfl
      (try simp only [Act.put, List.setIfInBounds_toArray, List.set_cons_zero, List.set_cons_succ])
      refine wpAnyH_take (i := 4) (oi := ({ dst := some 84, op := Op.fieldAddr 32 (Operand.tmp 11) 0, type := 0, pos := "law.go:49", after := #[], guard := none } : Oper)) (v := ?_) rfl (by kernel_rfl) (by kernel_rfl) (by kernel_rfl) (fun _ _ _ h => h) (Or.inl ⟨by rfl, ?_⟩) (by assumption) ?_
      rotate_left
      · intro w hSw; (try dsimp only at hSw); go_simp <;> with_reducible rfl
      (try simp only [Act.put, List.setIfInBounds_toArray, List.set_cons_zero, List.set_cons_succ])
      refine wpAnyH_take (i := 5) (oi := ({ dst := some 85, op := Op.load 22 (Operand.tmp 84), type := 22, pos := "law.go:49", after := #[{ on := 4, ground := Ground.data }], guard := none } : Oper)) (v := ?_) rfl (by kernel_rfl) (by kernel_rfl) (by kernel_rfl) (fun _ _ _ h => h) (Or.inl ⟨by rfl, ?_⟩) (by assumption) ?_
      rotate_left
      · intro w hSw; (try dsimp only at hSw); go_simp <;> with_reducible rfl
      (try simp only [Act.put, List.setIfInBounds_toArray, List.set_cons_zero, List.set_cons_succ])
      refine wpAnyH_take (i := 6) (oi := ({ dst := some 86, op := Op.build 25 #[(0, Operand.tmp 83), (1, Operand.tmp 85)], type := 25, pos := "law.go:49", after := #[{ on := 3, ground := Ground.data }, { on := 5, ground := Ground.data }], guard := none } : Oper)) (v := ?_) rfl (by kernel_rfl) (by kernel_rfl) (by kernel_rfl) (fun _ _ _ h => h) (Or.inl ⟨by rfl, ?_⟩) (by assumption) ?_
      rotate_left
      · intro w hSw; (try dsimp only at hSw); go_simp <;> with_reducible rfl
      (try simp only [Act.put, List.setIfInBounds_toArray, List.set_cons_zero, List.set_cons_succ])
      refine wpAnyH_ready (rs := [7]) (by kernel_rfl) (by simp) ?_
      refine AllReadyH.cons (o := ({ dst := none, op := Op.store 25 (Operand.tmp 13) (Operand.tmp 86), type := 0, pos := "law.go:49", after := #[{ on := 6, ground := Ground.data }, { on := 0, ground := Ground.phase }, { on := 1, ground := Ground.phase }, { on := 2, ground := Ground.phase }, { on := 3, ground := Ground.phase }, { on := 4, ground := Ground.phase }, { on := 5, ground := Ground.phase }, { on := 6, ground := Ground.phase }], guard := none } : Oper)) rfl (fun K hK => ?_) ?_
      rotate_left
      · exact AllReadyH.nil
      have Q1 := grown_set w9 w8.heap.size 0 (.int .u64 (z.toNat : Int))
      have Q2 := grown_set (w9.setCell ⟨w8.heap.size, 0, none⟩ (.int .u64 (z.toNat : Int))) w8.heap.size 1 (.slice p1 L.length c1)
      have up : ∀ (g j : Nat) (v : Value), ¬ g = w8.heap.size → w9.cell? ⟨g, j, none⟩ = some v → ((w9.setCell ⟨w8.heap.size, 0, none⟩ (.int .u64 (z.toNat : Int))).setCell ⟨w8.heap.size, 1, none⟩ (.slice p1 L.length c1)).drew.cell? ⟨g, j, none⟩ = some v := fun g j v hne hc => (drew_cell _ _).trans (Q2.cell (Q1.cell hc (fun e => hne (Option.some.inj e))) (fun e => hne (Option.some.inj e)))
      have hh := blk_set (j := 1) (blk_set (j := 0) HN.out (.int .u64 (z.toNat : Int))) (.slice p1 L.length c1)
      have D10 := hid (And.intro ((drew_cell _ _).trans (blk_cell (j := 0) (v := .int .u64 (z.toNat : Int)) hh rfl)) (And.intro ((drew_cell _ _).trans (blk_cell (j := 1) (v := .slice p1 L.length c1) hh rfl)) (And.intro (up _ _ _ hn3 d0) (And.intro (up _ _ _ hn3 d1) (And.intro (up _ _ _ hn3 d2) (up _ _ _ hn3 d3))))))
      have ES := hid (And.intro (up _ _ _ hn1 g0) (up _ _ _ hn2 o0))
      have HM := hid ((B69.out.setCell (p := ⟨w8.heap.size, 0, none⟩) B8.out.size (.int .u64 (z.toNat : Int))).setCell (p := ⟨w8.heap.size, 1, none⟩) B8.out.size (.slice p1 L.length c1))
      have f0 := blk_free HN.out 0
      have f1 := blk_free HN.out 1
      clear up hh Q1 Q2 d0 d1 d2 d3
      go_simp
      clear hHeld
      first | (with_reducible refine hK.out _ _ ?_ (fun hHeld => ?_)) | (go_wp2_with fail; with_reducible refine hK.out _ _ ?_ (fun hHeld => ?_))
      · exact ES.out
      clear hK K
      (try simp only [Act.put, List.setIfInBounds_toArray, List.set_cons_zero, List.set_cons_succ])
      refine wpAnyH_done (by kernel_rfl) ?_ _
      clear hHeld
      have HM2 := hid HM.out.drew
      obtain ⟨w10, hw10⟩ : ∃ x, ((w9.setCell ⟨w8.heap.size, 0, none⟩ (.int .u64 (z.toNat : Int))).setCell ⟨w8.heap.size, 1, none⟩ (.slice p1 L.length c1)).drew = x := ⟨_, rfl⟩
      rw [hw10] at D10 ⊢
      rw [hw10] at HM2
      have B2y := hid (below_step B6.out HM2.out)
      have B2x := hid (below_step B2.out B2y.out)
      obtain ⟨n0, n1, d0, d1, d2, d3⟩ := D10.out
      have PX := hid (And.intro (rfl : L.length = L.length) (V16.out.below HM2.out))
      have PY := hid (And.intro EB.out (B2b.out.below B2y.out))
      clear hw10 HM HM2 D10
      obtain ⟨E1, hE1⟩ : ∃ E1, checkE R (nl : Int) k1 z L = E1 := ⟨_, rfl⟩
      obtain ⟨E2, hE2⟩ : ∃ E2, checkE u0 (nl : Int) k1 u1 P1 = E2 := ⟨_, rfl⟩
      have C1 := hid (fun (W : World) (hW : Below w10.heap.size w10 W) => hE1 ▸ lcheck_m R z (nl : Int) k1 L p1 L.length c1 PX.out.1 W (PX.out.2.below hW))
      have C2 := hid (fun (W : World) (hW : Below w10.heap.size w10 W) => hE1 ▸ rcheck_any R z (nl : Int) k1 L p1 L.length c1 PX.out.1 W (PX.out.2.below hW))
      have C3 := hid (fun (W : World) (hW : Below w10.heap.size w10 W) => hE2 ▸ lcheck_m u0 u1 (nl : Int) k1 P1 pb nb cb PY.out.1 W (PY.out.2.below hW))
      have C4 := hid (fun (W : World) (hW : Below w10.heap.size w10 W) => hE2 ▸ rcheck_any u0 u1 (nl : Int) k1 P1 pb nb cb PY.out.1 W (PY.out.2.below hW))
      go_upto_region 15 with fail
      have hsd := (Below.refl w10.heap.size w10).drew
      refine wp_region_held_drew (S := fun W' => (W'.cell? ⟨w8.heap.size, 0, none⟩ = some (.int .u64 (z.toNat : Int)) ∧ W'.cell? ⟨w8.heap.size, 1, none⟩ = some (.slice p1 L.length c1) ∧ W'.cell? ⟨w.heap.size, 0, none⟩ = some (.int .u64 (u0.toNat : Int)) ∧ W'.cell? ⟨w.heap.size, 1, none⟩ = some (.slice pa na ca) ∧ W'.cell? ⟨w.heap.size, 2, none⟩ = some (.int .u64 (u1.toNat : Int)) ∧ W'.cell? ⟨w.heap.size, 3, none⟩ = some (.slice pb nb cb) ∧ Below w10.heap.size w10 W')) (by kernel_rfl) ?_ (fun hHeld => ?_)
      · exact ⟨n0, n1, d0, d1, d2, d3, hsd⟩
      refine wpAnyH_take (i := 0) (oi := ({ dst := some 89, op := Op.move (Operand.tmp 10), type := 23, pos := "law.go:52", after := #[], guard := none } : Oper)) (v := ?_) rfl (by kernel_rfl) (by kernel_rfl) (by kernel_rfl) (fun _ _ _ h => h) (Or.inl ⟨by rfl, ?_⟩) (by assumption) ?_
      rotate_left
      · intro w hSw; (try dsimp only at hSw); go_simp <;> with_reducible rfl
      (try simp only [Act.put, List.setIfInBounds_toArray, List.set_cons_zero, List.set_cons_succ])
      refine wpAnyH_take (i := 1) (oi := ({ dst := some 90, op := Op.move (Operand.tmp 8), type := 3, pos := "law.go:52", after := #[], guard := none } : Oper)) (v := ?_) rfl (by kernel_rfl) (by kernel_rfl) (by kernel_rfl) (fun _ _ _ h => h) (Or.inl ⟨by rfl, ?_⟩) (by assumption) ?_
      rotate_left
      · intro w hSw; (try dsimp only at hSw); go_simp <;> with_reducible rfl
      (try simp only [Act.put, List.setIfInBounds_toArray, List.set_cons_zero, List.set_cons_succ])
      refine wpAnyH_take (i := 2) (oi := ({ dst := some 91, op := Op.move (Operand.tmp 9), type := 3, pos := "law.go:52", after := #[], guard := none } : Oper)) (v := ?_) rfl (by kernel_rfl) (by kernel_rfl) (by kernel_rfl) (fun _ _ _ h => h) (Or.inl ⟨by rfl, ?_⟩) (by assumption) ?_
      rotate_left
      · intro w hSw; (try dsimp only at hSw); go_simp <;> with_reducible rfl
      (try simp only [Act.put, List.setIfInBounds_toArray, List.set_cons_zero, List.set_cons_succ])
      refine wpAnyH_take (i := 3) (oi := ({ dst := some 92, op := Op.load 25 (Operand.tmp 13), type := 25, pos := "law.go:52", after := #[], guard := none } : Oper)) (v := ?_) rfl (by kernel_rfl) (by kernel_rfl) (by kernel_rfl) (fun _ _ _ h => h) (Or.inl ⟨by rfl, ?_⟩) (by assumption) ?_
      rotate_left
      · intro w hSw; (try dsimp only at hSw); go_simp <;> with_reducible rfl
      (try simp only [Act.put, List.setIfInBounds_toArray, List.set_cons_zero, List.set_cons_succ])
      refine wpAnyH_take (i := 5) (oi := ({ dst := some 94, op := Op.move (Operand.tmp 10), type := 23, pos := "law.go:52", after := #[], guard := none } : Oper)) (v := ?_) rfl (by kernel_rfl) (by kernel_rfl) (by kernel_rfl) (fun _ _ _ h => h) (Or.inl ⟨by rfl, ?_⟩) (by assumption) ?_
      rotate_left
      · intro w hSw; (try dsimp only at hSw); go_simp <;> with_reducible rfl
      (try simp only [Act.put, List.setIfInBounds_toArray, List.set_cons_zero, List.set_cons_succ])
      refine wpAnyH_take (i := 6) (oi := ({ dst := some 95, op := Op.move (Operand.tmp 8), type := 3, pos := "law.go:52", after := #[], guard := none } : Oper)) (v := ?_) rfl (by kernel_rfl) (by kernel_rfl) (by kernel_rfl) (fun _ _ _ h => h) (Or.inl ⟨by rfl, ?_⟩) (by assumption) ?_
      rotate_left
      · intro w hSw; (try dsimp only at hSw); go_simp <;> with_reducible rfl
      (try simp only [Act.put, List.setIfInBounds_toArray, List.set_cons_zero, List.set_cons_succ])
      refine wpAnyH_take (i := 7) (oi := ({ dst := some 96, op := Op.move (Operand.tmp 9), type := 3, pos := "law.go:52", after := #[], guard := none } : Oper)) (v := ?_) rfl (by kernel_rfl) (by kernel_rfl) (by kernel_rfl) (fun _ _ _ h => h) (Or.inl ⟨by rfl, ?_⟩) (by assumption) ?_
      rotate_left
      · intro w hSw; (try dsimp only at hSw); go_simp <;> with_reducible rfl
      (try simp only [Act.put, List.setIfInBounds_toArray, List.set_cons_zero, List.set_cons_succ])
      refine wpAnyH_take (i := 8) (oi := ({ dst := some 97, op := Op.load 25 (Operand.tmp 13), type := 25, pos := "law.go:52", after := #[], guard := none } : Oper)) (v := ?_) rfl (by kernel_rfl) (by kernel_rfl) (by kernel_rfl) (fun _ _ _ h => h) (Or.inl ⟨by rfl, ?_⟩) (by assumption) ?_
      rotate_left
      · intro w hSw; (try dsimp only at hSw); go_simp <;> with_reducible rfl
      (try simp only [Act.put, List.setIfInBounds_toArray, List.set_cons_zero, List.set_cons_succ])
      refine wpAnyH_ready (rs := [4]) (by kernel_rfl) (by simp) ?_
      refine AllReadyH.cons (o := ({ dst := some 93, op := Op.call { callee := Callee.value (Operand.func 10), args := #[Operand.tmp 89, Operand.tmp 90, Operand.tmp 91, Operand.tmp 92], argTypes := #[23, 3, 3, 25] }, type := 30, pos := "law.go:52", after := #[{ on := 0, ground := Ground.data }, { on := 1, ground := Ground.data }, { on := 2, ground := Ground.data }, { on := 3, ground := Ground.data }], guard := none } : Oper)) rfl (fun K hK => ?_) ?_
      rotate_left
      · exact AllReadyH.nil
      go_simp
      go_at_call 10
      with_reducible refine (C1.out _ hsd).mono ?_
      rintro e y0 ⟨rfl, hq0⟩
      have hB0 := below_step hsd hq0
      clear hHeld
      first | (with_reducible refine hK.out _ _ ?_ (fun hHeld => ?_)) | (go_wp2_with fail; with_reducible refine hK.out _ _ ?_ (fun hHeld => ?_))
      · exact ⟨cell_below hB0 n0, cell_below hB0 n1, cell_below hB0 d0, cell_below hB0 d1, cell_below hB0 d2, cell_below hB0 d3, hB0⟩
      clear hK K
      (try simp only [Act.put, List.setIfInBounds_toArray, List.set_cons_zero, List.set_cons_succ])
      refine wpAnyH_ready (rs := [9]) (by kernel_rfl) (by simp) ?_
      refine AllReadyH.cons (o := ({ dst := some 98, op := Op.call { callee := Callee.value (Operand.func 11), args := #[Operand.tmp 94, Operand.tmp 95, Operand.tmp 96, Operand.tmp 97], argTypes := #[23, 3, 3, 25] }, type := 30, pos := "law.go:52", after := #[{ on := 5, ground := Ground.data }, { on := 6, ground := Ground.data }, { on := 7, ground := Ground.data }, { on := 8, ground := Ground.data }, { on := 4, ground := Ground.chain }], guard := none } : Oper)) rfl (fun K hK => ?_) ?_
      rotate_left
      · exact AllReadyH.nil
      go_simp
      go_at_call 11
      with_reducible refine (C2.out _ hB0).mono ?_
      rintro e y1 ⟨rfl, hq1⟩
      have hB1 := below_step hB0 hq1
      clear hHeld
      first | (with_reducible refine hK.out _ _ ?_ (fun hHeld => ?_)) | (go_wp2_with fail; with_reducible refine hK.out _ _ ?_ (fun hHeld => ?_))
      · exact ⟨cell_below hB1 n0, cell_below hB1 n1, cell_below hB1 d0, cell_below hB1 d1, cell_below hB1 d2, cell_below hB1 d3, hB1⟩
      clear hK K
      (try simp only [Act.put, List.setIfInBounds_toArray, List.set_cons_zero, List.set_cons_succ])
      refine wpAnyH_take (i := 10) (oi := ({ dst := some 99, op := Op.binOp BinOp.neq 30 (Operand.tmp 93) (Operand.tmp 98) 30, type := 4, pos := "law.go:52", after := #[{ on := 4, ground := Ground.data }, { on := 9, ground := Ground.data }], guard := none } : Oper)) (v := ?_) rfl (by kernel_rfl) (by kernel_rfl) (by kernel_rfl) (fun _ _ _ h => h) (Or.inl ⟨by rfl, ?_⟩) (by assumption) ?_
      rotate_left
      · intro w hSw; (try dsimp only at hSw); go_simp <;> with_reducible rfl
      (try simp only [Act.put, List.setIfInBounds_toArray, List.set_cons_zero, List.set_cons_succ])
      refine wpAnyH_take (i := 11) (oi := ({ dst := some 100, op := Op.move (Operand.tmp 99), type := 4, pos := "law.go:52", after := #[{ on := 10, ground := Ground.data }, { on := 9, ground := Ground.chain }], guard := none } : Oper)) (v := ?_) rfl (by kernel_rfl) (by kernel_rfl) (by kernel_rfl) (fun _ _ _ h => h) (Or.inl ⟨by rfl, ?_⟩) (by assumption) ?_
      rotate_left
      · intro w hSw; (try dsimp only at hSw); go_simp <;> with_reducible rfl
      (try simp only [Act.put, List.setIfInBounds_toArray, List.set_cons_zero, List.set_cons_succ])
      refine wpAnyH_take (i := 12) (oi := ({ dst := some 101, op := Op.indexAddr 26 (Operand.tmp 4) (Operand.const (Value.int IntKind.i64 0)), type := 0, pos := "law.go:52", after := #[{ on := 11, ground := Ground.guard }], guard := some (11, false) } : Oper)) (v := ?_) rfl (by kernel_rfl) (by kernel_rfl) (by kernel_rfl) (fun _ _ _ h => h) (Or.inl ⟨by rfl, ?_⟩) (by assumption) ?_
      rotate_left
      · intro w hSw; (try dsimp only at hSw); go_simp <;> with_reducible rfl
      (try simp only [Act.put, List.setIfInBounds_toArray, List.set_cons_zero, List.set_cons_succ])
      refine wpAnyH_take (i := 13) (oi := ({ dst := some 102, op := Op.fieldAddr 25 (Operand.tmp 101) 0, type := 0, pos := "law.go:52", after := #[{ on := 12, ground := Ground.data }, { on := 11, ground := Ground.guard }], guard := some (11, false) } : Oper)) (v := ?_) rfl (by kernel_rfl) (by kernel_rfl) (by kernel_rfl) (fun _ _ _ h => h) (Or.inl ⟨by rfl, ?_⟩) (by assumption) ?_
      rotate_left
      · intro w hSw; (try dsimp only at hSw); go_simp <;> with_reducible rfl
      (try simp only [Act.put, List.setIfInBounds_toArray, List.set_cons_zero, List.set_cons_succ])
      refine wpAnyH_take (i := 14) (oi := ({ dst := some 103, op := Op.load 23 (Operand.tmp 102), type := 23, pos := "law.go:52", after := #[{ on := 13, ground := Ground.data }, { on := 11, ground := Ground.guard }], guard := some (11, false) } : Oper)) (v := ?_) rfl (by kernel_rfl) (by kernel_rfl) (by kernel_rfl) (fun _ _ _ h => h) (Or.inl ⟨by rfl, ?_⟩) (by assumption) ?_
      rotate_left
      · intro w hSw; (try dsimp only at hSw); go_simp <;> with_reducible rfl
      (try simp only [Act.put, List.setIfInBounds_toArray, List.set_cons_zero, List.set_cons_succ])
      refine wpAnyH_take (i := 15) (oi := ({ dst := some 104, op := Op.move (Operand.tmp 8), type := 3, pos := "law.go:52", after := #[{ on := 11, ground := Ground.guard }], guard := some (11, false) } : Oper)) (v := ?_) rfl (by kernel_rfl) (by kernel_rfl) (by kernel_rfl) (fun _ _ _ h => h) (Or.inl ⟨by rfl, ?_⟩) (by assumption) ?_
      rotate_left
      · intro w hSw; (try dsimp only at hSw); go_simp <;> with_reducible rfl
      (try simp only [Act.put, List.setIfInBounds_toArray, List.set_cons_zero, List.set_cons_succ])
      refine wpAnyH_take (i := 16) (oi := ({ dst := some 105, op := Op.move (Operand.tmp 9), type := 3, pos := "law.go:52", after := #[{ on := 11, ground := Ground.guard }], guard := some (11, false) } : Oper)) (v := ?_) rfl (by kernel_rfl) (by kernel_rfl) (by kernel_rfl) (fun _ _ _ h => h) (Or.inl ⟨by rfl, ?_⟩) (by assumption) ?_
      rotate_left
      · intro w hSw; (try dsimp only at hSw); go_simp <;> with_reducible rfl
      (try simp only [Act.put, List.setIfInBounds_toArray, List.set_cons_zero, List.set_cons_succ])
      refine wpAnyH_take (i := 17) (oi := ({ dst := some 106, op := Op.indexAddr 26 (Operand.tmp 4) (Operand.const (Value.int IntKind.i64 1)), type := 0, pos := "law.go:52", after := #[{ on := 11, ground := Ground.guard }], guard := some (11, false) } : Oper)) (v := ?_) rfl (by kernel_rfl) (by kernel_rfl) (by kernel_rfl) (fun _ _ _ h => h) (Or.inl ⟨by rfl, ?_⟩) (by assumption) ?_
      rotate_left
      · intro w hSw; (try dsimp only at hSw); go_simp <;> with_reducible rfl
      (try simp only [Act.put, List.setIfInBounds_toArray, List.set_cons_zero, List.set_cons_succ])
      refine wpAnyH_take (i := 18) (oi := ({ dst := some 107, op := Op.load 25 (Operand.tmp 106), type := 25, pos := "law.go:52", after := #[{ on := 17, ground := Ground.data }, { on := 11, ground := Ground.guard }], guard := some (11, false) } : Oper)) (v := ?_) rfl (by kernel_rfl) (by kernel_rfl) (by kernel_rfl) (fun _ _ _ h => h) (Or.inl ⟨by rfl, ?_⟩) (by assumption) ?_
      rotate_left
      · intro w hSw; (try dsimp only at hSw); go_simp <;> with_reducible rfl
      (try simp only [Act.put, List.setIfInBounds_toArray, List.set_cons_zero, List.set_cons_succ])
      refine wpAnyH_take (i := 20) (oi := ({ dst := some 109, op := Op.indexAddr 26 (Operand.tmp 4) (Operand.const (Value.int IntKind.i64 0)), type := 0, pos := "law.go:52", after := #[{ on := 11, ground := Ground.guard }], guard := some (11, false) } : Oper)) (v := ?_) rfl (by kernel_rfl) (by kernel_rfl) (by kernel_rfl) (fun _ _ _ h => h) (Or.inl ⟨by rfl, ?_⟩) (by assumption) ?_
      rotate_left
      · intro w hSw; (try dsimp only at hSw); go_simp <;> with_reducible rfl
      (try simp only [Act.put, List.setIfInBounds_toArray, List.set_cons_zero, List.set_cons_succ])
      refine wpAnyH_take (i := 21) (oi := ({ dst := some 110, op := Op.fieldAddr 25 (Operand.tmp 109) 0, type := 0, pos := "law.go:52", after := #[{ on := 20, ground := Ground.data }, { on := 11, ground := Ground.guard }], guard := some (11, false) } : Oper)) (v := ?_) rfl (by kernel_rfl) (by kernel_rfl) (by kernel_rfl) (fun _ _ _ h => h) (Or.inl ⟨by rfl, ?_⟩) (by assumption) ?_
      rotate_left
      · intro w hSw; (try dsimp only at hSw); go_simp <;> with_reducible rfl
      (try simp only [Act.put, List.setIfInBounds_toArray, List.set_cons_zero, List.set_cons_succ])
      refine wpAnyH_take (i := 22) (oi := ({ dst := some 111, op := Op.load 23 (Operand.tmp 110), type := 23, pos := "law.go:52", after := #[{ on := 21, ground := Ground.data }, { on := 11, ground := Ground.guard }], guard := some (11, false) } : Oper)) (v := ?_) rfl (by kernel_rfl) (by kernel_rfl) (by kernel_rfl) (fun _ _ _ h => h) (Or.inl ⟨by rfl, ?_⟩) (by assumption) ?_
      rotate_left
      · intro w hSw; (try dsimp only at hSw); go_simp <;> with_reducible rfl
      (try simp only [Act.put, List.setIfInBounds_toArray, List.set_cons_zero, List.set_cons_succ])
      refine wpAnyH_take (i := 23) (oi := ({ dst := some 112, op := Op.move (Operand.tmp 8), type := 3, pos := "law.go:52", after := #[{ on := 11, ground := Ground.guard }], guard := some (11, false) } : Oper)) (v := ?_) rfl (by kernel_rfl) (by kernel_rfl) (by kernel_rfl) (fun _ _ _ h => h) (Or.inl ⟨by rfl, ?_⟩) (by assumption) ?_
      rotate_left
      · intro w hSw; (try dsimp only at hSw); go_simp <;> with_reducible rfl
      (try simp only [Act.put, List.setIfInBounds_toArray, List.set_cons_zero, List.set_cons_succ])
      refine wpAnyH_take (i := 24) (oi := ({ dst := some 113, op := Op.move (Operand.tmp 9), type := 3, pos := "law.go:52", after := #[{ on := 11, ground := Ground.guard }], guard := some (11, false) } : Oper)) (v := ?_) rfl (by kernel_rfl) (by kernel_rfl) (by kernel_rfl) (fun _ _ _ h => h) (Or.inl ⟨by rfl, ?_⟩) (by assumption) ?_
      rotate_left
      · intro w hSw; (try dsimp only at hSw); go_simp <;> with_reducible rfl
      (try simp only [Act.put, List.setIfInBounds_toArray, List.set_cons_zero, List.set_cons_succ])
      refine wpAnyH_take (i := 25) (oi := ({ dst := some 114, op := Op.indexAddr 26 (Operand.tmp 4) (Operand.const (Value.int IntKind.i64 1)), type := 0, pos := "law.go:52", after := #[{ on := 11, ground := Ground.guard }], guard := some (11, false) } : Oper)) (v := ?_) rfl (by kernel_rfl) (by kernel_rfl) (by kernel_rfl) (fun _ _ _ h => h) (Or.inl ⟨by rfl, ?_⟩) (by assumption) ?_
      rotate_left
      · intro w hSw; (try dsimp only at hSw); go_simp <;> with_reducible rfl
      (try simp only [Act.put, List.setIfInBounds_toArray, List.set_cons_zero, List.set_cons_succ])
      refine wpAnyH_take (i := 26) (oi := ({ dst := some 115, op := Op.load 25 (Operand.tmp 114), type := 25, pos := "law.go:52", after := #[{ on := 25, ground := Ground.data }, { on := 11, ground := Ground.guard }], guard := some (11, false) } : Oper)) (v := ?_) rfl (by kernel_rfl) (by kernel_rfl) (by kernel_rfl) (fun _ _ _ h => h) (Or.inl ⟨by rfl, ?_⟩) (by assumption) ?_
      rotate_left
      · intro w hSw; (try dsimp only at hSw); go_simp <;> with_reducible rfl
      (try simp only [Act.put, List.setIfInBounds_toArray, List.set_cons_zero, List.set_cons_succ])
      refine wpAnyH_ready (rs := [19]) (by kernel_rfl) (by simp) ?_
      refine AllReadyH.cons (o := ({ dst := some 108, op := Op.call { callee := Callee.value (Operand.func 10), args := #[Operand.tmp 103, Operand.tmp 104, Operand.tmp 105, Operand.tmp 107], argTypes := #[23, 3, 3, 25] }, type := 30, pos := "law.go:52", after := #[{ on := 14, ground := Ground.data }, { on := 15, ground := Ground.data }, { on := 16, ground := Ground.data }, { on := 18, ground := Ground.data }, { on := 11, ground := Ground.chain }, { on := 11, ground := Ground.guard }], guard := some (11, false) } : Oper)) rfl (fun K hK => ?_) ?_
      rotate_left
      · exact AllReadyH.nil
      go_simp
      go_at_call 10
      with_reducible refine (C3.out _ hB1).mono ?_
      rintro e y2 ⟨rfl, hq2⟩
      have hB2 := below_step hB1 hq2
      clear hHeld
      first | (with_reducible refine hK.out _ _ ?_ (fun hHeld => ?_)) | (go_wp2_with fail; with_reducible refine hK.out _ _ ?_ (fun hHeld => ?_))
      · exact ⟨cell_below hB2 n0, cell_below hB2 n1, cell_below hB2 d0, cell_below hB2 d1, cell_below hB2 d2, cell_below hB2 d3, hB2⟩
      clear hK K
      (try simp only [Act.put, List.setIfInBounds_toArray, List.set_cons_zero, List.set_cons_succ])
      refine wpAnyH_ready (rs := [27]) (by kernel_rfl) (by simp) ?_
      refine AllReadyH.cons (o := ({ dst := some 116, op := Op.call { callee := Callee.value (Operand.func 11), args := #[Operand.tmp 111, Operand.tmp 112, Operand.tmp 113, Operand.tmp 115], argTypes := #[23, 3, 3, 25] }, type := 30, pos := "law.go:52", after := #[{ on := 22, ground := Ground.data }, { on := 23, ground := Ground.data }, { on := 24, ground := Ground.data }, { on := 26, ground := Ground.data }, { on := 19, ground := Ground.chain }, { on := 11, ground := Ground.guard }], guard := some (11, false) } : Oper)) rfl (fun K hK => ?_) ?_
      rotate_left
      · exact AllReadyH.nil
      go_simp
      go_at_call 11
      with_reducible refine (C4.out _ hB2).mono ?_
      rintro e y3 ⟨rfl, hq3⟩
      have hB3 := below_step hB2 hq3
      clear hHeld
      first | (with_reducible refine hK.out _ _ ?_ (fun hHeld => ?_)) | (go_wp2_with fail; with_reducible refine hK.out _ _ ?_ (fun hHeld => ?_))
      · exact ⟨cell_below hB3 n0, cell_below hB3 n1, cell_below hB3 d0, cell_below hB3 d1, cell_below hB3 d2, cell_below hB3 d3, hB3⟩
      clear hK K
      (try simp only [Act.put, List.setIfInBounds_toArray, List.set_cons_zero, List.set_cons_succ])
      refine wpAnyH_take (i := 28) (oi := ({ dst := some 117, op := Op.binOp BinOp.neq 30 (Operand.tmp 108) (Operand.tmp 116) 30, type := 4, pos := "law.go:52", after := #[{ on := 19, ground := Ground.data }, { on := 27, ground := Ground.data }, { on := 11, ground := Ground.guard }], guard := some (11, false) } : Oper)) (v := ?_) rfl (by kernel_rfl) (by kernel_rfl) (by kernel_rfl) (fun _ _ _ h => h) (Or.inl ⟨by rfl, ?_⟩) (by assumption) ?_
      rotate_left
      · intro w hSw; (try dsimp only at hSw); go_simp <;> with_reducible rfl
      (try simp only [Act.put, List.setIfInBounds_toArray, List.set_cons_zero, List.set_cons_succ])
      refine wpAnyH_take (i := 29) (oi := ({ dst := some 118, op := Op.pick (Operand.tmp 100) (Operand.const (Value.bool true)) (Operand.tmp 117), type := 4, pos := "law.go:52", after := #[{ on := 11, ground := Ground.data }, { on := 28, ground := Ground.data }], guard := none } : Oper)) (v := ?_) rfl (by kernel_rfl) (by kernel_rfl) (by kernel_rfl) (fun _ _ _ h => h) (Or.inl ⟨by rfl, ?_⟩) (by assumption) ?_
      rotate_left
      · intro w hSw; (try dsimp only at hSw); go_simp <;> with_reducible rfl
      (try simp only [Act.put, List.setIfInBounds_toArray, List.set_cons_zero, List.set_cons_succ])
      refine wpAnyH_done (by kernel_rfl) ?_ _
      have BB := hid hB3
      clear hHeld
      obtain ⟨Z, hZ⟩ : ∃ Z, collideB (nl : Int) k1 z L u1 P1 = Z := ⟨_, rfl⟩
      obtain ⟨v0, v1, v2, v3, bb, hV, hW⟩ := coll_five Z
      have M1 := hid (fun (W : World) (hW : Below w10.heap.size w10 W) => mcollide_any (nl : Int) k1 z u1 L P1 L.length nb PX.out.1 PY.out.1 p1 pb c1 cb W (PX.out.2.below hW) (PY.out.2.below hW))
      have M2 := hid (fun (W : World) (hW : Below w10.heap.size w10 W) => rcollide_any (nl : Int) k1 z u1 L P1 L.length nb PX.out.1 PY.out.1 p1 pb c1 cb W (PX.out.2.below hW) (PY.out.2.below hW))
      rw [hZ, hV] at M1
      rw [hZ, hW] at M2
      clear hZ hV hW
      have n0 := cell_below BB.out n0
      have n1 := cell_below BB.out n1
      have d0 := cell_below BB.out d0
      have d1 := cell_below BB.out d1
      have d2 := cell_below BB.out d2
      have d3 := cell_below BB.out d3
      obtain ⟨wt, hwt⟩ : ∃ x, y3 = x := ⟨_, rfl⟩
      rw [hwt] at BB n0 n1 d0 d1 d2 d3 ⊢
      clear hwt C1 C2 C3 C4 hsd hB0 hB1 hB2 hB3 hq0 hq1 hq2 hq3
      go_wp2_with fail
      refine (M1.out _ BB.out).mono ?_
      rintro e wu ⟨rfl, hb⟩
      have BU := hid (below_step BB.out hb)
      have n0 := cell_below hb n0
      have n1 := cell_below hb n1
      have d0 := cell_below hb d0
      have d1 := cell_below hb d1
      have d2 := cell_below hb d2
      have d3 := cell_below hb d3
      clear hb
      have n0' := fun o => cell_alloc o n0
      have n1' := fun o => cell_alloc o n1
      have d2' := fun o => cell_alloc o d2
      have d3' := fun o => cell_alloc o d3
      go_wp2_with fail
      refine (M2.out _ (below_a BU.out _)).mono ?_
      rintro e wv ⟨rfl, hb⟩
      have BV := hid (below_step (below_a BU.out _) hb)
      have hx := (hb.block wu.heap.size (by simp)).trans (World.alloc_heap_new wu _)
      have x0 := blk_cell hx (j := 0) (v := .int .u64 v0) rfl
      have x1 := blk_cell hx (j := 1) (v := .int .u64 v1) rfl
      have x2 := blk_cell hx (j := 2) (v := .int .u64 v2) rfl
      have x3 := blk_cell hx (j := 3) (v := .int .u64 v3) rfl
      have x0' := fun o => cell_alloc o x0
      have x1' := fun o => cell_alloc o x1
      have x2' := fun o => cell_alloc o x2
      have x3' := fun o => cell_alloc o x3
      clear hx hb n0' n1' d2' d3' x0 x1 x2 x3
      go_wp2
      go_ret
      exact ⟨rfl, below_a (below_step B0.out (below_step B2x.out BV.out)) _⟩
    · have t1 : (E == 0) = true := by simpa using hE0
      have t2 : (k2.tmod 2 == 0) = false := by simpa using hk2
      have PX := hid (And.intro EA.out (A2.out.below B9.out))
      obtain ⟨E1, hE1⟩ : ∃ E1, checkE R k0 k1 u0 P0 = E1 := ⟨_, rfl⟩
      obtain ⟨E2, hE2⟩ : ∃ E2, checkE u0 k0 k1 u1 P1 = E2 := ⟨_, rfl⟩
      have C1 := hid (fun (W : World) (hW : Below w9.heap.size w9 W) => hE1 ▸ lcheck_m R u0 k0 k1 P0 pa na ca PX.out.1 W (PX.out.2.below hW))
      have C2 := hid (fun (W : World) (hW : Below w9.heap.size w9 W) => hE1 ▸ rcheck_any R u0 k0 k1 P0 pa na ca PX.out.1 W (PX.out.2.below hW))
      have C3 := hid (fun (W : World) (hW : Below w9.heap.size w9 W) => hE2 ▸ lcheck_m u0 u1 k0 k1 P1 pb nb cb PY.out.1 W (PY.out.2.below hW))
      have C4 := hid (fun (W : World) (hW : Below w9.heap.size w9 W) => hE2 ▸ rcheck_any u0 u1 k0 k1 P1 pb nb cb PY.out.1 W (PY.out.2.below hW))
      go_upto_region 15 with fail
      have hsd := (Below.refl w9.heap.size w9).drew
      refine wp_region_held_drew (S := fun W' => (W'.cell? ⟨w8.heap.size, 0, none⟩ = some (.int .u64 (u0.toNat : Int)) ∧ W'.cell? ⟨w8.heap.size, 1, none⟩ = some (.slice pa na ca) ∧ W'.cell? ⟨w.heap.size, 0, none⟩ = some (.int .u64 (u0.toNat : Int)) ∧ W'.cell? ⟨w.heap.size, 1, none⟩ = some (.slice pa na ca) ∧ W'.cell? ⟨w.heap.size, 2, none⟩ = some (.int .u64 (u1.toNat : Int)) ∧ W'.cell? ⟨w.heap.size, 3, none⟩ = some (.slice pb nb cb) ∧ Below w9.heap.size w9 W')) (by kernel_rfl) ?_ (fun hHeld => ?_)
      · exact ⟨n0, n1, d0, d1, d2, d3, hsd⟩
      refine wpAnyH_take (i := 0) (oi := ({ dst := some 89, op := Op.move (Operand.tmp 10), type := 23, pos := "law.go:52", after := #[], guard := none } : Oper)) (v := ?_) rfl (by kernel_rfl) (by kernel_rfl) (by kernel_rfl) (fun _ _ _ h => h) (Or.inl ⟨by rfl, ?_⟩) (by assumption) ?_
      rotate_left
      · intro w hSw; (try dsimp only at hSw); go_simp <;> with_reducible rfl
      (try simp only [Act.put, List.setIfInBounds_toArray, List.set_cons_zero, List.set_cons_succ])
      refine wpAnyH_take (i := 1) (oi := ({ dst := some 90, op := Op.move (Operand.tmp 8), type := 3, pos := "law.go:52", after := #[], guard := none } : Oper)) (v := ?_) rfl (by kernel_rfl) (by kernel_rfl) (by kernel_rfl) (fun _ _ _ h => h) (Or.inl ⟨by rfl, ?_⟩) (by assumption) ?_
      rotate_left
      · intro w hSw; (try dsimp only at hSw); go_simp <;> with_reducible rfl
      (try simp only [Act.put, List.setIfInBounds_toArray, List.set_cons_zero, List.set_cons_succ])
      refine wpAnyH_take (i := 2) (oi := ({ dst := some 91, op := Op.move (Operand.tmp 9), type := 3, pos := "law.go:52", after := #[], guard := none } : Oper)) (v := ?_) rfl (by kernel_rfl) (by kernel_rfl) (by kernel_rfl) (fun _ _ _ h => h) (Or.inl ⟨by rfl, ?_⟩) (by assumption) ?_
      rotate_left
      · intro w hSw; (try dsimp only at hSw); go_simp <;> with_reducible rfl
      (try simp only [Act.put, List.setIfInBounds_toArray, List.set_cons_zero, List.set_cons_succ])
      refine wpAnyH_take (i := 3) (oi := ({ dst := some 92, op := Op.load 25 (Operand.tmp 13), type := 25, pos := "law.go:52", after := #[], guard := none } : Oper)) (v := ?_) rfl (by kernel_rfl) (by kernel_rfl) (by kernel_rfl) (fun _ _ _ h => h) (Or.inl ⟨by rfl, ?_⟩) (by assumption) ?_
      rotate_left
      · intro w hSw; (try dsimp only at hSw); go_simp <;> with_reducible rfl
      (try simp only [Act.put, List.setIfInBounds_toArray, List.set_cons_zero, List.set_cons_succ])
      refine wpAnyH_take (i := 5) (oi := ({ dst := some 94, op := Op.move (Operand.tmp 10), type := 23, pos := "law.go:52", after := #[], guard := none } : Oper)) (v := ?_) rfl (by kernel_rfl) (by kernel_rfl) (by kernel_rfl) (fun _ _ _ h => h) (Or.inl ⟨by rfl, ?_⟩) (by assumption) ?_
      rotate_left
      · intro w hSw; (try dsimp only at hSw); go_simp <;> with_reducible rfl
      (try simp only [Act.put, List.setIfInBounds_toArray, List.set_cons_zero, List.set_cons_succ])
      refine wpAnyH_take (i := 6) (oi := ({ dst := some 95, op := Op.move (Operand.tmp 8), type := 3, pos := "law.go:52", after := #[], guard := none } : Oper)) (v := ?_) rfl (by kernel_rfl) (by kernel_rfl) (by kernel_rfl) (fun _ _ _ h => h) (Or.inl ⟨by rfl, ?_⟩) (by assumption) ?_
      rotate_left
      · intro w hSw; (try dsimp only at hSw); go_simp <;> with_reducible rfl
      (try simp only [Act.put, List.setIfInBounds_toArray, List.set_cons_zero, List.set_cons_succ])
      refine wpAnyH_take (i := 7) (oi := ({ dst := some 96, op := Op.move (Operand.tmp 9), type := 3, pos := "law.go:52", after := #[], guard := none } : Oper)) (v := ?_) rfl (by kernel_rfl) (by kernel_rfl) (by kernel_rfl) (fun _ _ _ h => h) (Or.inl ⟨by rfl, ?_⟩) (by assumption) ?_
      rotate_left
      · intro w hSw; (try dsimp only at hSw); go_simp <;> with_reducible rfl
      (try simp only [Act.put, List.setIfInBounds_toArray, List.set_cons_zero, List.set_cons_succ])
      refine wpAnyH_take (i := 8) (oi := ({ dst := some 97, op := Op.load 25 (Operand.tmp 13), type := 25, pos := "law.go:52", after := #[], guard := none } : Oper)) (v := ?_) rfl (by kernel_rfl) (by kernel_rfl) (by kernel_rfl) (fun _ _ _ h => h) (Or.inl ⟨by rfl, ?_⟩) (by assumption) ?_
      rotate_left
      · intro w hSw; (try dsimp only at hSw); go_simp <;> with_reducible rfl
      (try simp only [Act.put, List.setIfInBounds_toArray, List.set_cons_zero, List.set_cons_succ])
      refine wpAnyH_ready (rs := [4]) (by kernel_rfl) (by simp) ?_
      refine AllReadyH.cons (o := ({ dst := some 93, op := Op.call { callee := Callee.value (Operand.func 10), args := #[Operand.tmp 89, Operand.tmp 90, Operand.tmp 91, Operand.tmp 92], argTypes := #[23, 3, 3, 25] }, type := 30, pos := "law.go:52", after := #[{ on := 0, ground := Ground.data }, { on := 1, ground := Ground.data }, { on := 2, ground := Ground.data }, { on := 3, ground := Ground.data }], guard := none } : Oper)) rfl (fun K hK => ?_) ?_
      rotate_left
      · exact AllReadyH.nil
      go_simp
      go_at_call 10
      with_reducible refine (C1.out _ hsd).mono ?_
      rintro e y0 ⟨rfl, hq0⟩
      have hB0 := below_step hsd hq0
      clear hHeld
      first | (with_reducible refine hK.out _ _ ?_ (fun hHeld => ?_)) | (go_wp2_with fail; with_reducible refine hK.out _ _ ?_ (fun hHeld => ?_))
      · exact ⟨cell_below hB0 n0, cell_below hB0 n1, cell_below hB0 d0, cell_below hB0 d1, cell_below hB0 d2, cell_below hB0 d3, hB0⟩
      clear hK K
      (try simp only [Act.put, List.setIfInBounds_toArray, List.set_cons_zero, List.set_cons_succ])
      refine wpAnyH_ready (rs := [9]) (by kernel_rfl) (by simp) ?_
      refine AllReadyH.cons (o := ({ dst := some 98, op := Op.call { callee := Callee.value (Operand.func 11), args := #[Operand.tmp 94, Operand.tmp 95, Operand.tmp 96, Operand.tmp 97], argTypes := #[23, 3, 3, 25] }, type := 30, pos := "law.go:52", after := #[{ on := 5, ground := Ground.data }, { on := 6, ground := Ground.data }, { on := 7, ground := Ground.data }, { on := 8, ground := Ground.data }, { on := 4, ground := Ground.chain }], guard := none } : Oper)) rfl (fun K hK => ?_) ?_
      rotate_left
      · exact AllReadyH.nil
      go_simp
      go_at_call 11
      with_reducible refine (C2.out _ hB0).mono ?_
      rintro e y1 ⟨rfl, hq1⟩
      have hB1 := below_step hB0 hq1
      clear hHeld
      first | (with_reducible refine hK.out _ _ ?_ (fun hHeld => ?_)) | (go_wp2_with fail; with_reducible refine hK.out _ _ ?_ (fun hHeld => ?_))
      · exact ⟨cell_below hB1 n0, cell_below hB1 n1, cell_below hB1 d0, cell_below hB1 d1, cell_below hB1 d2, cell_below hB1 d3, hB1⟩
      clear hK K
      (try simp only [Act.put, List.setIfInBounds_toArray, List.set_cons_zero, List.set_cons_succ])
      refine wpAnyH_take (i := 10) (oi := ({ dst := some 99, op := Op.binOp BinOp.neq 30 (Operand.tmp 93) (Operand.tmp 98) 30, type := 4, pos := "law.go:52", after := #[{ on := 4, ground := Ground.data }, { on := 9, ground := Ground.data }], guard := none } : Oper)) (v := ?_) rfl (by kernel_rfl) (by kernel_rfl) (by kernel_rfl) (fun _ _ _ h => h) (Or.inl ⟨by rfl, ?_⟩) (by assumption) ?_
      rotate_left
      · intro w hSw; (try dsimp only at hSw); go_simp <;> with_reducible rfl
      (try simp only [Act.put, List.setIfInBounds_toArray, List.set_cons_zero, List.set_cons_succ])
      refine wpAnyH_take (i := 11) (oi := ({ dst := some 100, op := Op.move (Operand.tmp 99), type := 4, pos := "law.go:52", after := #[{ on := 10, ground := Ground.data }, { on := 9, ground := Ground.chain }], guard := none } : Oper)) (v := ?_) rfl (by kernel_rfl) (by kernel_rfl) (by kernel_rfl) (fun _ _ _ h => h) (Or.inl ⟨by rfl, ?_⟩) (by assumption) ?_
      rotate_left
      · intro w hSw; (try dsimp only at hSw); go_simp <;> with_reducible rfl
      (try simp only [Act.put, List.setIfInBounds_toArray, List.set_cons_zero, List.set_cons_succ])
      refine wpAnyH_take (i := 12) (oi := ({ dst := some 101, op := Op.indexAddr 26 (Operand.tmp 4) (Operand.const (Value.int IntKind.i64 0)), type := 0, pos := "law.go:52", after := #[{ on := 11, ground := Ground.guard }], guard := some (11, false) } : Oper)) (v := ?_) rfl (by kernel_rfl) (by kernel_rfl) (by kernel_rfl) (fun _ _ _ h => h) (Or.inl ⟨by rfl, ?_⟩) (by assumption) ?_
      rotate_left
      · intro w hSw; (try dsimp only at hSw); go_simp <;> with_reducible rfl
      (try simp only [Act.put, List.setIfInBounds_toArray, List.set_cons_zero, List.set_cons_succ])
      refine wpAnyH_take (i := 13) (oi := ({ dst := some 102, op := Op.fieldAddr 25 (Operand.tmp 101) 0, type := 0, pos := "law.go:52", after := #[{ on := 12, ground := Ground.data }, { on := 11, ground := Ground.guard }], guard := some (11, false) } : Oper)) (v := ?_) rfl (by kernel_rfl) (by kernel_rfl) (by kernel_rfl) (fun _ _ _ h => h) (Or.inl ⟨by rfl, ?_⟩) (by assumption) ?_
      rotate_left
      · intro w hSw; (try dsimp only at hSw); go_simp <;> with_reducible rfl
      (try simp only [Act.put, List.setIfInBounds_toArray, List.set_cons_zero, List.set_cons_succ])
      refine wpAnyH_take (i := 14) (oi := ({ dst := some 103, op := Op.load 23 (Operand.tmp 102), type := 23, pos := "law.go:52", after := #[{ on := 13, ground := Ground.data }, { on := 11, ground := Ground.guard }], guard := some (11, false) } : Oper)) (v := ?_) rfl (by kernel_rfl) (by kernel_rfl) (by kernel_rfl) (fun _ _ _ h => h) (Or.inl ⟨by rfl, ?_⟩) (by assumption) ?_
      rotate_left
      · intro w hSw; (try dsimp only at hSw); go_simp <;> with_reducible rfl
      (try simp only [Act.put, List.setIfInBounds_toArray, List.set_cons_zero, List.set_cons_succ])
      refine wpAnyH_take (i := 15) (oi := ({ dst := some 104, op := Op.move (Operand.tmp 8), type := 3, pos := "law.go:52", after := #[{ on := 11, ground := Ground.guard }], guard := some (11, false) } : Oper)) (v := ?_) rfl (by kernel_rfl) (by kernel_rfl) (by kernel_rfl) (fun _ _ _ h => h) (Or.inl ⟨by rfl, ?_⟩) (by assumption) ?_
      rotate_left
      · intro w hSw; (try dsimp only at hSw); go_simp <;> with_reducible rfl
      (try simp only [Act.put, List.setIfInBounds_toArray, List.set_cons_zero, List.set_cons_succ])
      refine wpAnyH_take (i := 16) (oi := ({ dst := some 105, op := Op.move (Operand.tmp 9), type := 3, pos := "law.go:52", after := #[{ on := 11, ground := Ground.guard }], guard := some (11, false) } : Oper)) (v := ?_) rfl (by kernel_rfl) (by kernel_rfl) (by kernel_rfl) (fun _ _ _ h => h) (Or.inl ⟨by rfl, ?_⟩) (by assumption) ?_
      rotate_left
      · intro w hSw; (try dsimp only at hSw); go_simp <;> with_reducible rfl
      (try simp only [Act.put, List.setIfInBounds_toArray, List.set_cons_zero, List.set_cons_succ])
      refine wpAnyH_take (i := 17) (oi := ({ dst := some 106, op := Op.indexAddr 26 (Operand.tmp 4) (Operand.const (Value.int IntKind.i64 1)), type := 0, pos := "law.go:52", after := #[{ on := 11, ground := Ground.guard }], guard := some (11, false) } : Oper)) (v := ?_) rfl (by kernel_rfl) (by kernel_rfl) (by kernel_rfl) (fun _ _ _ h => h) (Or.inl ⟨by rfl, ?_⟩) (by assumption) ?_
      rotate_left
      · intro w hSw; (try dsimp only at hSw); go_simp <;> with_reducible rfl
      (try simp only [Act.put, List.setIfInBounds_toArray, List.set_cons_zero, List.set_cons_succ])
      refine wpAnyH_take (i := 18) (oi := ({ dst := some 107, op := Op.load 25 (Operand.tmp 106), type := 25, pos := "law.go:52", after := #[{ on := 17, ground := Ground.data }, { on := 11, ground := Ground.guard }], guard := some (11, false) } : Oper)) (v := ?_) rfl (by kernel_rfl) (by kernel_rfl) (by kernel_rfl) (fun _ _ _ h => h) (Or.inl ⟨by rfl, ?_⟩) (by assumption) ?_
      rotate_left
      · intro w hSw; (try dsimp only at hSw); go_simp <;> with_reducible rfl
      (try simp only [Act.put, List.setIfInBounds_toArray, List.set_cons_zero, List.set_cons_succ])
      refine wpAnyH_take (i := 20) (oi := ({ dst := some 109, op := Op.indexAddr 26 (Operand.tmp 4) (Operand.const (Value.int IntKind.i64 0)), type := 0, pos := "law.go:52", after := #[{ on := 11, ground := Ground.guard }], guard := some (11, false) } : Oper)) (v := ?_) rfl (by kernel_rfl) (by kernel_rfl) (by kernel_rfl) (fun _ _ _ h => h) (Or.inl ⟨by rfl, ?_⟩) (by assumption) ?_
      rotate_left
      · intro w hSw; (try dsimp only at hSw); go_simp <;> with_reducible rfl
      (try simp only [Act.put, List.setIfInBounds_toArray, List.set_cons_zero, List.set_cons_succ])
      refine wpAnyH_take (i := 21) (oi := ({ dst := some 110, op := Op.fieldAddr 25 (Operand.tmp 109) 0, type := 0, pos := "law.go:52", after := #[{ on := 20, ground := Ground.data }, { on := 11, ground := Ground.guard }], guard := some (11, false) } : Oper)) (v := ?_) rfl (by kernel_rfl) (by kernel_rfl) (by kernel_rfl) (fun _ _ _ h => h) (Or.inl ⟨by rfl, ?_⟩) (by assumption) ?_
      rotate_left
      · intro w hSw; (try dsimp only at hSw); go_simp <;> with_reducible rfl
      (try simp only [Act.put, List.setIfInBounds_toArray, List.set_cons_zero, List.set_cons_succ])
      refine wpAnyH_take (i := 22) (oi := ({ dst := some 111, op := Op.load 23 (Operand.tmp 110), type := 23, pos := "law.go:52", after := #[{ on := 21, ground := Ground.data }, { on := 11, ground := Ground.guard }], guard := some (11, false) } : Oper)) (v := ?_) rfl (by kernel_rfl) (by kernel_rfl) (by kernel_rfl) (fun _ _ _ h => h) (Or.inl ⟨by rfl, ?_⟩) (by assumption) ?_
      rotate_left
      · intro w hSw; (try dsimp only at hSw); go_simp <;> with_reducible rfl
      (try simp only [Act.put, List.setIfInBounds_toArray, List.set_cons_zero, List.set_cons_succ])
      refine wpAnyH_take (i := 23) (oi := ({ dst := some 112, op := Op.move (Operand.tmp 8), type := 3, pos := "law.go:52", after := #[{ on := 11, ground := Ground.guard }], guard := some (11, false) } : Oper)) (v := ?_) rfl (by kernel_rfl) (by kernel_rfl) (by kernel_rfl) (fun _ _ _ h => h) (Or.inl ⟨by rfl, ?_⟩) (by assumption) ?_
      rotate_left
      · intro w hSw; (try dsimp only at hSw); go_simp <;> with_reducible rfl
      (try simp only [Act.put, List.setIfInBounds_toArray, List.set_cons_zero, List.set_cons_succ])
      refine wpAnyH_take (i := 24) (oi := ({ dst := some 113, op := Op.move (Operand.tmp 9), type := 3, pos := "law.go:52", after := #[{ on := 11, ground := Ground.guard }], guard := some (11, false) } : Oper)) (v := ?_) rfl (by kernel_rfl) (by kernel_rfl) (by kernel_rfl) (fun _ _ _ h => h) (Or.inl ⟨by rfl, ?_⟩) (by assumption) ?_
      rotate_left
      · intro w hSw; (try dsimp only at hSw); go_simp <;> with_reducible rfl
      (try simp only [Act.put, List.setIfInBounds_toArray, List.set_cons_zero, List.set_cons_succ])
      refine wpAnyH_take (i := 25) (oi := ({ dst := some 114, op := Op.indexAddr 26 (Operand.tmp 4) (Operand.const (Value.int IntKind.i64 1)), type := 0, pos := "law.go:52", after := #[{ on := 11, ground := Ground.guard }], guard := some (11, false) } : Oper)) (v := ?_) rfl (by kernel_rfl) (by kernel_rfl) (by kernel_rfl) (fun _ _ _ h => h) (Or.inl ⟨by rfl, ?_⟩) (by assumption) ?_
      rotate_left
      · intro w hSw; (try dsimp only at hSw); go_simp <;> with_reducible rfl
      (try simp only [Act.put, List.setIfInBounds_toArray, List.set_cons_zero, List.set_cons_succ])
      refine wpAnyH_take (i := 26) (oi := ({ dst := some 115, op := Op.load 25 (Operand.tmp 114), type := 25, pos := "law.go:52", after := #[{ on := 25, ground := Ground.data }, { on := 11, ground := Ground.guard }], guard := some (11, false) } : Oper)) (v := ?_) rfl (by kernel_rfl) (by kernel_rfl) (by kernel_rfl) (fun _ _ _ h => h) (Or.inl ⟨by rfl, ?_⟩) (by assumption) ?_
      rotate_left
      · intro w hSw; (try dsimp only at hSw); go_simp <;> with_reducible rfl
      (try simp only [Act.put, List.setIfInBounds_toArray, List.set_cons_zero, List.set_cons_succ])
      refine wpAnyH_ready (rs := [19]) (by kernel_rfl) (by simp) ?_
      refine AllReadyH.cons (o := ({ dst := some 108, op := Op.call { callee := Callee.value (Operand.func 10), args := #[Operand.tmp 103, Operand.tmp 104, Operand.tmp 105, Operand.tmp 107], argTypes := #[23, 3, 3, 25] }, type := 30, pos := "law.go:52", after := #[{ on := 14, ground := Ground.data }, { on := 15, ground := Ground.data }, { on := 16, ground := Ground.data }, { on := 18, ground := Ground.data }, { on := 11, ground := Ground.chain }, { on := 11, ground := Ground.guard }], guard := some (11, false) } : Oper)) rfl (fun K hK => ?_) ?_
      rotate_left
      · exact AllReadyH.nil
      go_simp
      go_at_call 10
      with_reducible refine (C3.out _ hB1).mono ?_
      rintro e y2 ⟨rfl, hq2⟩
      have hB2 := below_step hB1 hq2
      clear hHeld
      first | (with_reducible refine hK.out _ _ ?_ (fun hHeld => ?_)) | (go_wp2_with fail; with_reducible refine hK.out _ _ ?_ (fun hHeld => ?_))
      · exact ⟨cell_below hB2 n0, cell_below hB2 n1, cell_below hB2 d0, cell_below hB2 d1, cell_below hB2 d2, cell_below hB2 d3, hB2⟩
      clear hK K
      (try simp only [Act.put, List.setIfInBounds_toArray, List.set_cons_zero, List.set_cons_succ])
      refine wpAnyH_ready (rs := [27]) (by kernel_rfl) (by simp) ?_
      refine AllReadyH.cons (o := ({ dst := some 116, op := Op.call { callee := Callee.value (Operand.func 11), args := #[Operand.tmp 111, Operand.tmp 112, Operand.tmp 113, Operand.tmp 115], argTypes := #[23, 3, 3, 25] }, type := 30, pos := "law.go:52", after := #[{ on := 22, ground := Ground.data }, { on := 23, ground := Ground.data }, { on := 24, ground := Ground.data }, { on := 26, ground := Ground.data }, { on := 19, ground := Ground.chain }, { on := 11, ground := Ground.guard }], guard := some (11, false) } : Oper)) rfl (fun K hK => ?_) ?_
      rotate_left
      · exact AllReadyH.nil
      go_simp
      go_at_call 11
      with_reducible refine (C4.out _ hB2).mono ?_
      rintro e y3 ⟨rfl, hq3⟩
      have hB3 := below_step hB2 hq3
      clear hHeld
      first | (with_reducible refine hK.out _ _ ?_ (fun hHeld => ?_)) | (go_wp2_with fail; with_reducible refine hK.out _ _ ?_ (fun hHeld => ?_))
      · exact ⟨cell_below hB3 n0, cell_below hB3 n1, cell_below hB3 d0, cell_below hB3 d1, cell_below hB3 d2, cell_below hB3 d3, hB3⟩
      clear hK K
      (try simp only [Act.put, List.setIfInBounds_toArray, List.set_cons_zero, List.set_cons_succ])
      refine wpAnyH_take (i := 28) (oi := ({ dst := some 117, op := Op.binOp BinOp.neq 30 (Operand.tmp 108) (Operand.tmp 116) 30, type := 4, pos := "law.go:52", after := #[{ on := 19, ground := Ground.data }, { on := 27, ground := Ground.data }, { on := 11, ground := Ground.guard }], guard := some (11, false) } : Oper)) (v := ?_) rfl (by kernel_rfl) (by kernel_rfl) (by kernel_rfl) (fun _ _ _ h => h) (Or.inl ⟨by rfl, ?_⟩) (by assumption) ?_
      rotate_left
      · intro w hSw; (try dsimp only at hSw); go_simp <;> with_reducible rfl
      (try simp only [Act.put, List.setIfInBounds_toArray, List.set_cons_zero, List.set_cons_succ])
      refine wpAnyH_take (i := 29) (oi := ({ dst := some 118, op := Op.pick (Operand.tmp 100) (Operand.const (Value.bool true)) (Operand.tmp 117), type := 4, pos := "law.go:52", after := #[{ on := 11, ground := Ground.data }, { on := 28, ground := Ground.data }], guard := none } : Oper)) (v := ?_) rfl (by kernel_rfl) (by kernel_rfl) (by kernel_rfl) (fun _ _ _ h => h) (Or.inl ⟨by rfl, ?_⟩) (by assumption) ?_
      rotate_left
      · intro w hSw; (try dsimp only at hSw); go_simp <;> with_reducible rfl
      (try simp only [Act.put, List.setIfInBounds_toArray, List.set_cons_zero, List.set_cons_succ])
      refine wpAnyH_done (by kernel_rfl) ?_ _
      have BB := hid hB3
      clear hHeld
      obtain ⟨Z, hZ⟩ : ∃ Z, collideB k0 k1 u0 P0 u1 P1 = Z := ⟨_, rfl⟩
      obtain ⟨v0, v1, v2, v3, bb, hV, hW⟩ := coll_five Z
      have M1 := hid (fun (W : World) (hW : Below w9.heap.size w9 W) => mcollide_any k0 k1 u0 u1 P0 P1 na nb PX.out.1 PY.out.1 pa pb ca cb W (PX.out.2.below hW) (PY.out.2.below hW))
      have M2 := hid (fun (W : World) (hW : Below w9.heap.size w9 W) => rcollide_any k0 k1 u0 u1 P0 P1 na nb PX.out.1 PY.out.1 pa pb ca cb W (PX.out.2.below hW) (PY.out.2.below hW))
      rw [hZ, hV] at M1
      rw [hZ, hW] at M2
      clear hZ hV hW
      have n0 := cell_below BB.out n0
      have n1 := cell_below BB.out n1
      have d0 := cell_below BB.out d0
      have d1 := cell_below BB.out d1
      have d2 := cell_below BB.out d2
      have d3 := cell_below BB.out d3
      obtain ⟨wt, hwt⟩ : ∃ x, y3 = x := ⟨_, rfl⟩
      rw [hwt] at BB n0 n1 d0 d1 d2 d3 ⊢
      clear hwt C1 C2 C3 C4 hsd hB0 hB1 hB2 hB3 hq0 hq1 hq2 hq3
      go_wp2_with fail
      refine (M1.out _ BB.out).mono ?_
      rintro e wu ⟨rfl, hb⟩
      have BU := hid (below_step BB.out hb)
      have n0 := cell_below hb n0
      have n1 := cell_below hb n1
      have d0 := cell_below hb d0
      have d1 := cell_below hb d1
      have d2 := cell_below hb d2
      have d3 := cell_below hb d3
      clear hb
      have n0' := fun o => cell_alloc o n0
      have n1' := fun o => cell_alloc o n1
      have d2' := fun o => cell_alloc o d2
      have d3' := fun o => cell_alloc o d3
      go_wp2_with fail
      refine (M2.out _ (below_a BU.out _)).mono ?_
      rintro e wv ⟨rfl, hb⟩
      have BV := hid (below_step (below_a BU.out _) hb)
      have hx := (hb.block wu.heap.size (by simp)).trans (World.alloc_heap_new wu _)
      have x0 := blk_cell hx (j := 0) (v := .int .u64 v0) rfl
      have x1 := blk_cell hx (j := 1) (v := .int .u64 v1) rfl
      have x2 := blk_cell hx (j := 2) (v := .int .u64 v2) rfl
      have x3 := blk_cell hx (j := 3) (v := .int .u64 v3) rfl
      have x0' := fun o => cell_alloc o x0
      have x1' := fun o => cell_alloc o x1
      have x2' := fun o => cell_alloc o x2
      have x3' := fun o => cell_alloc o x3
      clear hx hb n0' n1' d2' d3' x0 x1 x2 x3
      go_wp2
      go_ret
      exact ⟨rfl, below_a (below_step B0.out (below_step B2x.out BV.out)) _⟩
  · have t1 : (E == 0) = false := by simpa using hE0
    have PX := hid (And.intro EA.out (A2.out.below B9.out))
    obtain ⟨E1, hE1⟩ : ∃ E1, checkE R k0 k1 u0 P0 = E1 := ⟨_, rfl⟩
    obtain ⟨E2, hE2⟩ : ∃ E2, checkE u0 k0 k1 u1 P1 = E2 := ⟨_, rfl⟩
    have C1 := hid (fun (W : World) (hW : Below w9.heap.size w9 W) => hE1 ▸ lcheck_m R u0 k0 k1 P0 pa na ca PX.out.1 W (PX.out.2.below hW))
    have C2 := hid (fun (W : World) (hW : Below w9.heap.size w9 W) => hE1 ▸ rcheck_any R u0 k0 k1 P0 pa na ca PX.out.1 W (PX.out.2.below hW))
    have C3 := hid (fun (W : World) (hW : Below w9.heap.size w9 W) => hE2 ▸ lcheck_m u0 u1 k0 k1 P1 pb nb cb PY.out.1 W (PY.out.2.below hW))
    have C4 := hid (fun (W : World) (hW : Below w9.heap.size w9 W) => hE2 ▸ rcheck_any u0 u1 k0 k1 P1 pb nb cb PY.out.1 W (PY.out.2.below hW))
    go_upto_region 15 with fail
    have hsd := (Below.refl w9.heap.size w9).drew
    refine wp_region_held_drew (S := fun W' => (W'.cell? ⟨w8.heap.size, 0, none⟩ = some (.int .u64 (u0.toNat : Int)) ∧ W'.cell? ⟨w8.heap.size, 1, none⟩ = some (.slice pa na ca) ∧ W'.cell? ⟨w.heap.size, 0, none⟩ = some (.int .u64 (u0.toNat : Int)) ∧ W'.cell? ⟨w.heap.size, 1, none⟩ = some (.slice pa na ca) ∧ W'.cell? ⟨w.heap.size, 2, none⟩ = some (.int .u64 (u1.toNat : Int)) ∧ W'.cell? ⟨w.heap.size, 3, none⟩ = some (.slice pb nb cb) ∧ Below w9.heap.size w9 W')) (by kernel_rfl) ?_ (fun hHeld => ?_)
    · exact ⟨n0, n1, d0, d1, d2, d3, hsd⟩
    refine wpAnyH_take (i := 0) (oi := ({ dst := some 89, op := Op.move (Operand.tmp 10), type := 23, pos := "law.go:52", after := #[], guard := none } : Oper)) (v := ?_) rfl (by kernel_rfl) (by kernel_rfl) (by kernel_rfl) (fun _ _ _ h => h) (Or.inl ⟨by rfl, ?_⟩) (by assumption) ?_
    rotate_left
    · intro w hSw; (try dsimp only at hSw); go_simp <;> with_reducible rfl
    (try simp only [Act.put, List.setIfInBounds_toArray, List.set_cons_zero, List.set_cons_succ])
    refine wpAnyH_take (i := 1) (oi := ({ dst := some 90, op := Op.move (Operand.tmp 8), type := 3, pos := "law.go:52", after := #[], guard := none } : Oper)) (v := ?_) rfl (by kernel_rfl) (by kernel_rfl) (by kernel_rfl) (fun _ _ _ h => h) (Or.inl ⟨by rfl, ?_⟩) (by assumption) ?_
    rotate_left
    · intro w hSw; (try dsimp only at hSw); go_simp <;> with_reducible rfl
    (try simp only [Act.put, List.setIfInBounds_toArray, List.set_cons_zero, List.set_cons_succ])
    refine wpAnyH_take (i := 2) (oi := ({ dst := some 91, op := Op.move (Operand.tmp 9), type := 3, pos := "law.go:52", after := #[], guard := none } : Oper)) (v := ?_) rfl (by kernel_rfl) (by kernel_rfl) (by kernel_rfl) (fun _ _ _ h => h) (Or.inl ⟨by rfl, ?_⟩) (by assumption) ?_
    rotate_left
    · intro w hSw; (try dsimp only at hSw); go_simp <;> with_reducible rfl
    (try simp only [Act.put, List.setIfInBounds_toArray, List.set_cons_zero, List.set_cons_succ])
    refine wpAnyH_take (i := 3) (oi := ({ dst := some 92, op := Op.load 25 (Operand.tmp 13), type := 25, pos := "law.go:52", after := #[], guard := none } : Oper)) (v := ?_) rfl (by kernel_rfl) (by kernel_rfl) (by kernel_rfl) (fun _ _ _ h => h) (Or.inl ⟨by rfl, ?_⟩) (by assumption) ?_
    rotate_left
    · intro w hSw; (try dsimp only at hSw); go_simp <;> with_reducible rfl
    (try simp only [Act.put, List.setIfInBounds_toArray, List.set_cons_zero, List.set_cons_succ])
    refine wpAnyH_take (i := 5) (oi := ({ dst := some 94, op := Op.move (Operand.tmp 10), type := 23, pos := "law.go:52", after := #[], guard := none } : Oper)) (v := ?_) rfl (by kernel_rfl) (by kernel_rfl) (by kernel_rfl) (fun _ _ _ h => h) (Or.inl ⟨by rfl, ?_⟩) (by assumption) ?_
    rotate_left
    · intro w hSw; (try dsimp only at hSw); go_simp <;> with_reducible rfl
    (try simp only [Act.put, List.setIfInBounds_toArray, List.set_cons_zero, List.set_cons_succ])
    refine wpAnyH_take (i := 6) (oi := ({ dst := some 95, op := Op.move (Operand.tmp 8), type := 3, pos := "law.go:52", after := #[], guard := none } : Oper)) (v := ?_) rfl (by kernel_rfl) (by kernel_rfl) (by kernel_rfl) (fun _ _ _ h => h) (Or.inl ⟨by rfl, ?_⟩) (by assumption) ?_
    rotate_left
    · intro w hSw; (try dsimp only at hSw); go_simp <;> with_reducible rfl
    (try simp only [Act.put, List.setIfInBounds_toArray, List.set_cons_zero, List.set_cons_succ])
    refine wpAnyH_take (i := 7) (oi := ({ dst := some 96, op := Op.move (Operand.tmp 9), type := 3, pos := "law.go:52", after := #[], guard := none } : Oper)) (v := ?_) rfl (by kernel_rfl) (by kernel_rfl) (by kernel_rfl) (fun _ _ _ h => h) (Or.inl ⟨by rfl, ?_⟩) (by assumption) ?_
    rotate_left
    · intro w hSw; (try dsimp only at hSw); go_simp <;> with_reducible rfl
    (try simp only [Act.put, List.setIfInBounds_toArray, List.set_cons_zero, List.set_cons_succ])
    refine wpAnyH_take (i := 8) (oi := ({ dst := some 97, op := Op.load 25 (Operand.tmp 13), type := 25, pos := "law.go:52", after := #[], guard := none } : Oper)) (v := ?_) rfl (by kernel_rfl) (by kernel_rfl) (by kernel_rfl) (fun _ _ _ h => h) (Or.inl ⟨by rfl, ?_⟩) (by assumption) ?_
    rotate_left
    · intro w hSw; (try dsimp only at hSw); go_simp <;> with_reducible rfl
    (try simp only [Act.put, List.setIfInBounds_toArray, List.set_cons_zero, List.set_cons_succ])
    refine wpAnyH_ready (rs := [4]) (by kernel_rfl) (by simp) ?_
    refine AllReadyH.cons (o := ({ dst := some 93, op := Op.call { callee := Callee.value (Operand.func 10), args := #[Operand.tmp 89, Operand.tmp 90, Operand.tmp 91, Operand.tmp 92], argTypes := #[23, 3, 3, 25] }, type := 30, pos := "law.go:52", after := #[{ on := 0, ground := Ground.data }, { on := 1, ground := Ground.data }, { on := 2, ground := Ground.data }, { on := 3, ground := Ground.data }], guard := none } : Oper)) rfl (fun K hK => ?_) ?_
    rotate_left
    · exact AllReadyH.nil
    go_simp
    go_at_call 10
    with_reducible refine (C1.out _ hsd).mono ?_
    rintro e y0 ⟨rfl, hq0⟩
    have hB0 := below_step hsd hq0
    clear hHeld
    first | (with_reducible refine hK.out _ _ ?_ (fun hHeld => ?_)) | (go_wp2_with fail; with_reducible refine hK.out _ _ ?_ (fun hHeld => ?_))
    · exact ⟨cell_below hB0 n0, cell_below hB0 n1, cell_below hB0 d0, cell_below hB0 d1, cell_below hB0 d2, cell_below hB0 d3, hB0⟩
    clear hK K
    (try simp only [Act.put, List.setIfInBounds_toArray, List.set_cons_zero, List.set_cons_succ])
    refine wpAnyH_ready (rs := [9]) (by kernel_rfl) (by simp) ?_
    refine AllReadyH.cons (o := ({ dst := some 98, op := Op.call { callee := Callee.value (Operand.func 11), args := #[Operand.tmp 94, Operand.tmp 95, Operand.tmp 96, Operand.tmp 97], argTypes := #[23, 3, 3, 25] }, type := 30, pos := "law.go:52", after := #[{ on := 5, ground := Ground.data }, { on := 6, ground := Ground.data }, { on := 7, ground := Ground.data }, { on := 8, ground := Ground.data }, { on := 4, ground := Ground.chain }], guard := none } : Oper)) rfl (fun K hK => ?_) ?_
    rotate_left
    · exact AllReadyH.nil
    go_simp
    go_at_call 11
    with_reducible refine (C2.out _ hB0).mono ?_
    rintro e y1 ⟨rfl, hq1⟩
    have hB1 := below_step hB0 hq1
    clear hHeld
    first | (with_reducible refine hK.out _ _ ?_ (fun hHeld => ?_)) | (go_wp2_with fail; with_reducible refine hK.out _ _ ?_ (fun hHeld => ?_))
    · exact ⟨cell_below hB1 n0, cell_below hB1 n1, cell_below hB1 d0, cell_below hB1 d1, cell_below hB1 d2, cell_below hB1 d3, hB1⟩
    clear hK K
    (try simp only [Act.put, List.setIfInBounds_toArray, List.set_cons_zero, List.set_cons_succ])
    refine wpAnyH_take (i := 10) (oi := ({ dst := some 99, op := Op.binOp BinOp.neq 30 (Operand.tmp 93) (Operand.tmp 98) 30, type := 4, pos := "law.go:52", after := #[{ on := 4, ground := Ground.data }, { on := 9, ground := Ground.data }], guard := none } : Oper)) (v := ?_) rfl (by kernel_rfl) (by kernel_rfl) (by kernel_rfl) (fun _ _ _ h => h) (Or.inl ⟨by rfl, ?_⟩) (by assumption) ?_
    rotate_left
    · intro w hSw; (try dsimp only at hSw); go_simp <;> with_reducible rfl
    (try simp only [Act.put, List.setIfInBounds_toArray, List.set_cons_zero, List.set_cons_succ])
    refine wpAnyH_take (i := 11) (oi := ({ dst := some 100, op := Op.move (Operand.tmp 99), type := 4, pos := "law.go:52", after := #[{ on := 10, ground := Ground.data }, { on := 9, ground := Ground.chain }], guard := none } : Oper)) (v := ?_) rfl (by kernel_rfl) (by kernel_rfl) (by kernel_rfl) (fun _ _ _ h => h) (Or.inl ⟨by rfl, ?_⟩) (by assumption) ?_
    rotate_left
    · intro w hSw; (try dsimp only at hSw); go_simp <;> with_reducible rfl
    (try simp only [Act.put, List.setIfInBounds_toArray, List.set_cons_zero, List.set_cons_succ])
    refine wpAnyH_take (i := 12) (oi := ({ dst := some 101, op := Op.indexAddr 26 (Operand.tmp 4) (Operand.const (Value.int IntKind.i64 0)), type := 0, pos := "law.go:52", after := #[{ on := 11, ground := Ground.guard }], guard := some (11, false) } : Oper)) (v := ?_) rfl (by kernel_rfl) (by kernel_rfl) (by kernel_rfl) (fun _ _ _ h => h) (Or.inl ⟨by rfl, ?_⟩) (by assumption) ?_
    rotate_left
    · intro w hSw; (try dsimp only at hSw); go_simp <;> with_reducible rfl
    (try simp only [Act.put, List.setIfInBounds_toArray, List.set_cons_zero, List.set_cons_succ])
    refine wpAnyH_take (i := 13) (oi := ({ dst := some 102, op := Op.fieldAddr 25 (Operand.tmp 101) 0, type := 0, pos := "law.go:52", after := #[{ on := 12, ground := Ground.data }, { on := 11, ground := Ground.guard }], guard := some (11, false) } : Oper)) (v := ?_) rfl (by kernel_rfl) (by kernel_rfl) (by kernel_rfl) (fun _ _ _ h => h) (Or.inl ⟨by rfl, ?_⟩) (by assumption) ?_
    rotate_left
    · intro w hSw; (try dsimp only at hSw); go_simp <;> with_reducible rfl
    (try simp only [Act.put, List.setIfInBounds_toArray, List.set_cons_zero, List.set_cons_succ])
    refine wpAnyH_take (i := 14) (oi := ({ dst := some 103, op := Op.load 23 (Operand.tmp 102), type := 23, pos := "law.go:52", after := #[{ on := 13, ground := Ground.data }, { on := 11, ground := Ground.guard }], guard := some (11, false) } : Oper)) (v := ?_) rfl (by kernel_rfl) (by kernel_rfl) (by kernel_rfl) (fun _ _ _ h => h) (Or.inl ⟨by rfl, ?_⟩) (by assumption) ?_
    rotate_left
    · intro w hSw; (try dsimp only at hSw); go_simp <;> with_reducible rfl
    (try simp only [Act.put, List.setIfInBounds_toArray, List.set_cons_zero, List.set_cons_succ])
    refine wpAnyH_take (i := 15) (oi := ({ dst := some 104, op := Op.move (Operand.tmp 8), type := 3, pos := "law.go:52", after := #[{ on := 11, ground := Ground.guard }], guard := some (11, false) } : Oper)) (v := ?_) rfl (by kernel_rfl) (by kernel_rfl) (by kernel_rfl) (fun _ _ _ h => h) (Or.inl ⟨by rfl, ?_⟩) (by assumption) ?_
    rotate_left
    · intro w hSw; (try dsimp only at hSw); go_simp <;> with_reducible rfl
    (try simp only [Act.put, List.setIfInBounds_toArray, List.set_cons_zero, List.set_cons_succ])
    refine wpAnyH_take (i := 16) (oi := ({ dst := some 105, op := Op.move (Operand.tmp 9), type := 3, pos := "law.go:52", after := #[{ on := 11, ground := Ground.guard }], guard := some (11, false) } : Oper)) (v := ?_) rfl (by kernel_rfl) (by kernel_rfl) (by kernel_rfl) (fun _ _ _ h => h) (Or.inl ⟨by rfl, ?_⟩) (by assumption) ?_
    rotate_left
    · intro w hSw; (try dsimp only at hSw); go_simp <;> with_reducible rfl
    (try simp only [Act.put, List.setIfInBounds_toArray, List.set_cons_zero, List.set_cons_succ])
    refine wpAnyH_take (i := 17) (oi := ({ dst := some 106, op := Op.indexAddr 26 (Operand.tmp 4) (Operand.const (Value.int IntKind.i64 1)), type := 0, pos := "law.go:52", after := #[{ on := 11, ground := Ground.guard }], guard := some (11, false) } : Oper)) (v := ?_) rfl (by kernel_rfl) (by kernel_rfl) (by kernel_rfl) (fun _ _ _ h => h) (Or.inl ⟨by rfl, ?_⟩) (by assumption) ?_
    rotate_left
    · intro w hSw; (try dsimp only at hSw); go_simp <;> with_reducible rfl
    (try simp only [Act.put, List.setIfInBounds_toArray, List.set_cons_zero, List.set_cons_succ])
    refine wpAnyH_take (i := 18) (oi := ({ dst := some 107, op := Op.load 25 (Operand.tmp 106), type := 25, pos := "law.go:52", after := #[{ on := 17, ground := Ground.data }, { on := 11, ground := Ground.guard }], guard := some (11, false) } : Oper)) (v := ?_) rfl (by kernel_rfl) (by kernel_rfl) (by kernel_rfl) (fun _ _ _ h => h) (Or.inl ⟨by rfl, ?_⟩) (by assumption) ?_
    rotate_left
    · intro w hSw; (try dsimp only at hSw); go_simp <;> with_reducible rfl
    (try simp only [Act.put, List.setIfInBounds_toArray, List.set_cons_zero, List.set_cons_succ])
    refine wpAnyH_take (i := 20) (oi := ({ dst := some 109, op := Op.indexAddr 26 (Operand.tmp 4) (Operand.const (Value.int IntKind.i64 0)), type := 0, pos := "law.go:52", after := #[{ on := 11, ground := Ground.guard }], guard := some (11, false) } : Oper)) (v := ?_) rfl (by kernel_rfl) (by kernel_rfl) (by kernel_rfl) (fun _ _ _ h => h) (Or.inl ⟨by rfl, ?_⟩) (by assumption) ?_
    rotate_left
    · intro w hSw; (try dsimp only at hSw); go_simp <;> with_reducible rfl
    (try simp only [Act.put, List.setIfInBounds_toArray, List.set_cons_zero, List.set_cons_succ])
    refine wpAnyH_take (i := 21) (oi := ({ dst := some 110, op := Op.fieldAddr 25 (Operand.tmp 109) 0, type := 0, pos := "law.go:52", after := #[{ on := 20, ground := Ground.data }, { on := 11, ground := Ground.guard }], guard := some (11, false) } : Oper)) (v := ?_) rfl (by kernel_rfl) (by kernel_rfl) (by kernel_rfl) (fun _ _ _ h => h) (Or.inl ⟨by rfl, ?_⟩) (by assumption) ?_
    rotate_left
    · intro w hSw; (try dsimp only at hSw); go_simp <;> with_reducible rfl
    (try simp only [Act.put, List.setIfInBounds_toArray, List.set_cons_zero, List.set_cons_succ])
    refine wpAnyH_take (i := 22) (oi := ({ dst := some 111, op := Op.load 23 (Operand.tmp 110), type := 23, pos := "law.go:52", after := #[{ on := 21, ground := Ground.data }, { on := 11, ground := Ground.guard }], guard := some (11, false) } : Oper)) (v := ?_) rfl (by kernel_rfl) (by kernel_rfl) (by kernel_rfl) (fun _ _ _ h => h) (Or.inl ⟨by rfl, ?_⟩) (by assumption) ?_
    rotate_left
    · intro w hSw; (try dsimp only at hSw); go_simp <;> with_reducible rfl
    (try simp only [Act.put, List.setIfInBounds_toArray, List.set_cons_zero, List.set_cons_succ])
    refine wpAnyH_take (i := 23) (oi := ({ dst := some 112, op := Op.move (Operand.tmp 8), type := 3, pos := "law.go:52", after := #[{ on := 11, ground := Ground.guard }], guard := some (11, false) } : Oper)) (v := ?_) rfl (by kernel_rfl) (by kernel_rfl) (by kernel_rfl) (fun _ _ _ h => h) (Or.inl ⟨by rfl, ?_⟩) (by assumption) ?_
    rotate_left
    · intro w hSw; (try dsimp only at hSw); go_simp <;> with_reducible rfl
    (try simp only [Act.put, List.setIfInBounds_toArray, List.set_cons_zero, List.set_cons_succ])
    refine wpAnyH_take (i := 24) (oi := ({ dst := some 113, op := Op.move (Operand.tmp 9), type := 3, pos := "law.go:52", after := #[{ on := 11, ground := Ground.guard }], guard := some (11, false) } : Oper)) (v := ?_) rfl (by kernel_rfl) (by kernel_rfl) (by kernel_rfl) (fun _ _ _ h => h) (Or.inl ⟨by rfl, ?_⟩) (by assumption) ?_
    rotate_left
    · intro w hSw; (try dsimp only at hSw); go_simp <;> with_reducible rfl
    (try simp only [Act.put, List.setIfInBounds_toArray, List.set_cons_zero, List.set_cons_succ])
    refine wpAnyH_take (i := 25) (oi := ({ dst := some 114, op := Op.indexAddr 26 (Operand.tmp 4) (Operand.const (Value.int IntKind.i64 1)), type := 0, pos := "law.go:52", after := #[{ on := 11, ground := Ground.guard }], guard := some (11, false) } : Oper)) (v := ?_) rfl (by kernel_rfl) (by kernel_rfl) (by kernel_rfl) (fun _ _ _ h => h) (Or.inl ⟨by rfl, ?_⟩) (by assumption) ?_
    rotate_left
    · intro w hSw; (try dsimp only at hSw); go_simp <;> with_reducible rfl
    (try simp only [Act.put, List.setIfInBounds_toArray, List.set_cons_zero, List.set_cons_succ])
    refine wpAnyH_take (i := 26) (oi := ({ dst := some 115, op := Op.load 25 (Operand.tmp 114), type := 25, pos := "law.go:52", after := #[{ on := 25, ground := Ground.data }, { on := 11, ground := Ground.guard }], guard := some (11, false) } : Oper)) (v := ?_) rfl (by kernel_rfl) (by kernel_rfl) (by kernel_rfl) (fun _ _ _ h => h) (Or.inl ⟨by rfl, ?_⟩) (by assumption) ?_
    rotate_left
    · intro w hSw; (try dsimp only at hSw); go_simp <;> with_reducible rfl
    (try simp only [Act.put, List.setIfInBounds_toArray, List.set_cons_zero, List.set_cons_succ])
    refine wpAnyH_ready (rs := [19]) (by kernel_rfl) (by simp) ?_
    refine AllReadyH.cons (o := ({ dst := some 108, op := Op.call { callee := Callee.value (Operand.func 10), args := #[Operand.tmp 103, Operand.tmp 104, Operand.tmp 105, Operand.tmp 107], argTypes := #[23, 3, 3, 25] }, type := 30, pos := "law.go:52", after := #[{ on := 14, ground := Ground.data }, { on := 15, ground := Ground.data }, { on := 16, ground := Ground.data }, { on := 18, ground := Ground.data }, { on := 11, ground := Ground.chain }, { on := 11, ground := Ground.guard }], guard := some (11, false) } : Oper)) rfl (fun K hK => ?_) ?_
    rotate_left
    · exact AllReadyH.nil
    go_simp
    go_at_call 10
    with_reducible refine (C3.out _ hB1).mono ?_
    rintro e y2 ⟨rfl, hq2⟩
    have hB2 := below_step hB1 hq2
    clear hHeld
    first | (with_reducible refine hK.out _ _ ?_ (fun hHeld => ?_)) | (go_wp2_with fail; with_reducible refine hK.out _ _ ?_ (fun hHeld => ?_))
    · exact ⟨cell_below hB2 n0, cell_below hB2 n1, cell_below hB2 d0, cell_below hB2 d1, cell_below hB2 d2, cell_below hB2 d3, hB2⟩
    clear hK K
    (try simp only [Act.put, List.setIfInBounds_toArray, List.set_cons_zero, List.set_cons_succ])
    refine wpAnyH_ready (rs := [27]) (by kernel_rfl) (by simp) ?_
    refine AllReadyH.cons (o := ({ dst := some 116, op := Op.call { callee := Callee.value (Operand.func 11), args := #[Operand.tmp 111, Operand.tmp 112, Operand.tmp 113, Operand.tmp 115], argTypes := #[23, 3, 3, 25] }, type := 30, pos := "law.go:52", after := #[{ on := 22, ground := Ground.data }, { on := 23, ground := Ground.data }, { on := 24, ground := Ground.data }, { on := 26, ground := Ground.data }, { on := 19, ground := Ground.chain }, { on := 11, ground := Ground.guard }], guard := some (11, false) } : Oper)) rfl (fun K hK => ?_) ?_
    rotate_left
    · exact AllReadyH.nil
    go_simp
    go_at_call 11
    with_reducible refine (C4.out _ hB2).mono ?_
    rintro e y3 ⟨rfl, hq3⟩
    have hB3 := below_step hB2 hq3
    clear hHeld
    first | (with_reducible refine hK.out _ _ ?_ (fun hHeld => ?_)) | (go_wp2_with fail; with_reducible refine hK.out _ _ ?_ (fun hHeld => ?_))
    · exact ⟨cell_below hB3 n0, cell_below hB3 n1, cell_below hB3 d0, cell_below hB3 d1, cell_below hB3 d2, cell_below hB3 d3, hB3⟩
    clear hK K
    (try simp only [Act.put, List.setIfInBounds_toArray, List.set_cons_zero, List.set_cons_succ])
    refine wpAnyH_take (i := 28) (oi := ({ dst := some 117, op := Op.binOp BinOp.neq 30 (Operand.tmp 108) (Operand.tmp 116) 30, type := 4, pos := "law.go:52", after := #[{ on := 19, ground := Ground.data }, { on := 27, ground := Ground.data }, { on := 11, ground := Ground.guard }], guard := some (11, false) } : Oper)) (v := ?_) rfl (by kernel_rfl) (by kernel_rfl) (by kernel_rfl) (fun _ _ _ h => h) (Or.inl ⟨by rfl, ?_⟩) (by assumption) ?_
    rotate_left
    · intro w hSw; (try dsimp only at hSw); go_simp <;> with_reducible rfl
    (try simp only [Act.put, List.setIfInBounds_toArray, List.set_cons_zero, List.set_cons_succ])
    refine wpAnyH_take (i := 29) (oi := ({ dst := some 118, op := Op.pick (Operand.tmp 100) (Operand.const (Value.bool true)) (Operand.tmp 117), type := 4, pos := "law.go:52", after := #[{ on := 11, ground := Ground.data }, { on := 28, ground := Ground.data }], guard := none } : Oper)) (v := ?_) rfl (by kernel_rfl) (by kernel_rfl) (by kernel_rfl) (fun _ _ _ h => h) (Or.inl ⟨by rfl, ?_⟩) (by assumption) ?_
    rotate_left
    · intro w hSw; (try dsimp only at hSw); go_simp <;> with_reducible rfl
    (try simp only [Act.put, List.setIfInBounds_toArray, List.set_cons_zero, List.set_cons_succ])
    refine wpAnyH_done (by kernel_rfl) ?_ _
    have BB := hid hB3
    clear hHeld
    obtain ⟨Z, hZ⟩ : ∃ Z, collideB k0 k1 u0 P0 u1 P1 = Z := ⟨_, rfl⟩
    obtain ⟨v0, v1, v2, v3, bb, hV, hW⟩ := coll_five Z
    have M1 := hid (fun (W : World) (hW : Below w9.heap.size w9 W) => mcollide_any k0 k1 u0 u1 P0 P1 na nb PX.out.1 PY.out.1 pa pb ca cb W (PX.out.2.below hW) (PY.out.2.below hW))
    have M2 := hid (fun (W : World) (hW : Below w9.heap.size w9 W) => rcollide_any k0 k1 u0 u1 P0 P1 na nb PX.out.1 PY.out.1 pa pb ca cb W (PX.out.2.below hW) (PY.out.2.below hW))
    rw [hZ, hV] at M1
    rw [hZ, hW] at M2
    clear hZ hV hW
    have n0 := cell_below BB.out n0
    have n1 := cell_below BB.out n1
    have d0 := cell_below BB.out d0
    have d1 := cell_below BB.out d1
    have d2 := cell_below BB.out d2
    have d3 := cell_below BB.out d3
    obtain ⟨wt, hwt⟩ : ∃ x, y3 = x := ⟨_, rfl⟩
    rw [hwt] at BB n0 n1 d0 d1 d2 d3 ⊢
    clear hwt C1 C2 C3 C4 hsd hB0 hB1 hB2 hB3 hq0 hq1 hq2 hq3
    go_wp2_with fail
    refine (M1.out _ BB.out).mono ?_
    rintro e wu ⟨rfl, hb⟩
    have BU := hid (below_step BB.out hb)
    have n0 := cell_below hb n0
    have n1 := cell_below hb n1
    have d0 := cell_below hb d0
    have d1 := cell_below hb d1
    have d2 := cell_below hb d2
    have d3 := cell_below hb d3
    clear hb
    have n0' := fun o => cell_alloc o n0
    have n1' := fun o => cell_alloc o n1
    have d2' := fun o => cell_alloc o d2
    have d3' := fun o => cell_alloc o d3
    go_wp2_with fail
    refine (M2.out _ (below_a BU.out _)).mono ?_
    rintro e wv ⟨rfl, hb⟩
    have BV := hid (below_step (below_a BU.out _) hb)
    have hx := (hb.block wu.heap.size (by simp)).trans (World.alloc_heap_new wu _)
    have x0 := blk_cell hx (j := 0) (v := .int .u64 v0) rfl
    have x1 := blk_cell hx (j := 1) (v := .int .u64 v1) rfl
    have x2 := blk_cell hx (j := 2) (v := .int .u64 v2) rfl
    have x3 := blk_cell hx (j := 3) (v := .int .u64 v3) rfl
    have x0' := fun o => cell_alloc o x0
    have x1' := fun o => cell_alloc o x1
    have x2' := fun o => cell_alloc o x2
    have x3' := fun o => cell_alloc o x3
    clear hx hb n0' n1' d2' d3' x0 x1 x2 x3
    go_wp2
    go_ret
    exact ⟨rfl, below_a (below_step B0.out (below_step B2x.out BV.out)) _⟩

end Go.Proofs.Ytchmiaeajkpijaa

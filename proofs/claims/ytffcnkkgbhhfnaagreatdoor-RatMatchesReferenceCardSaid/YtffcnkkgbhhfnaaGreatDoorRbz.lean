import Derived.Test.YtffcnkkgbhhfnaaGreatDoorRbx
namespace Go.Proofs.YtffcnkkgbhhfnaaGreatDoor
open Go.RowKit Go.Instr
set_option linter.unusedVariables false

/-! The reference's 'MulIn'. -/
theorem wrap_tdiv (a : Int) (g : Nat) (h : a.natAbs ≤ 4611686018427387904) : IntKind.i64.wrap (a.tdiv (g : Int)) = a.tdiv (g : Int) := by
  have := Int.natAbs_tdiv_le_natAbs a g
  obtain ⟨q, hq⟩ : ∃ q, a.tdiv (g : Int) = q := ⟨_, rfl⟩
  rw [hq] at this ⊢
  rw [IntKind.wrap_i64]
  omega
set_option maxRecDepth 100000 in
set_option maxHeartbeats 16000000 in
theorem mulin_bits {aN bN : Int} {da db : Nat} (a : Fr aN da) (b : Fr bN db) (w : World) :
    Calls Tryz.prog 15 #[.agg #[.int .i64 aN, .int .i64 (da : Int)], .agg #[.int .i64 bN, .int .i64 (db : Int)]] w fun e w' => e = .returned (fr3 (Rat.divInt aN da * Rat.divInt bN db)) ∧ Below w.heap.size w w' := by
  have a1 := a.pos; have a2 := a.le; have a3 := a.lo; have a4 := a.hi
  have b1 := b.pos; have b2 := b.le; have b3 := b.lo; have b4 := b.hi
  have SA := hid (fun w => size_any aN (by omega) (by omega) w)
  have SB := hid (fun w => size_any bN (by omega) (by omega) w)
  have GA := hid (fun w => rgcd_any aN.natAbs db (by omega) (by omega) w)
  have GB := hid (fun w => rgcd_any bN.natAbs da (by omega) (by omega) w)
  obtain ⟨g, hg⟩ : ∃ g, Nat.gcd aN.natAbs db = g := ⟨_, rfl⟩
  obtain ⟨h, hh⟩ : ∃ h, Nat.gcd bN.natAbs da = h := ⟨_, rfl⟩
  have MM := fun bt nt hs => mul_math a b g h hg.symm hh.symm bt nt hs
  obtain ⟨hg0, hh0, m0, -⟩ := MM (decide (aN.tdiv g < 0) != decide (bN.tdiv h < 0)) ((aN.tdiv g).natAbs * (bN.tdiv h).natAbs) (sv_mul _ _)
  have M0 := hid m0
  have MV := hid (fun bt nt hs => (MM bt nt hs).2.2.2)
  rw [hg] at GA
  rw [hh] at GB
  obtain ⟨ua, hua⟩ : ∃ u : Int, (aN.natAbs : Int) = u := ⟨_, rfl⟩
  obtain ⟨ub, hub⟩ : ∃ u : Int, (bN.natAbs : Int) = u := ⟨_, rfl⟩
  rw [hua] at SA GA
  rw [hub] at SB GB
  clear hg hh m0 MM a b hua hub
  have hda : da / h ≤ da := Nat.div_le_self _ _
  have hdb : db / g ≤ db := Nat.div_le_self _ _
  have hqa := Int.natAbs_tdiv_le_natAbs aN g
  have hqb := Int.natAbs_tdiv_le_natAbs bN h
  have e1 := hid (wrap_tdiv aN g (by omega))
  have e2 := hid (wrap_tdiv bN h (by omega))
  have e3 := hid (wrap_div da h (by omega))
  have e4 := hid (wrap_div db g (by omega))
  obtain ⟨w0, hw0⟩ : ∃ w0, ((w.alloc (.cells #[.int .i64 aN, .int .i64 (da : Int)] 25)).alloc (.cells #[.int .i64 bN, .int .i64 (db : Int)] 25)).alloc (.cells #[.int .i64 0, .int .i64 0, .int .i64 0] 28) = w0 := ⟨_, rfl⟩
  have A0 := hid (show Box2 w0 w.heap.size (.int .i64 aN) (.int .i64 (da : Int)) by
    rw [← hw0]; exact ((box2_new w _ _ _).below (below_a0 _ _)).below (below_a0 _ _))
  have C0 := hid (show Box2 w0 (w.heap.size + 1) (.int .i64 bN) (.int .i64 (db : Int)) by
    have h := (box2_new (w.alloc (.cells #[.int .i64 aN, .int .i64 (da : Int)] 25)) (.int .i64 bN) (.int .i64 (db : Int)) 25).below (below_a0 _ (.cells #[.int .i64 0, .int .i64 0, .int .i64 0] 28))
    rw [World.size_alloc] at h
    rw [← hw0]; exact h)
  have R0 := hid (show Box3 w0 (w.heap.size + 2) (.int .i64 0) (.int .i64 0) (.int .i64 0) by
    have h := box3_new ((w.alloc (.cells #[.int .i64 aN, .int .i64 (da : Int)] 25)).alloc (.cells #[.int .i64 bN, .int .i64 (db : Int)] 25)) (.int .i64 0) (.int .i64 0) (.int .i64 0) 28
    rw [World.size_alloc, World.size_alloc] at h
    rw [← hw0]; exact h)
  have B0 := hid (show Below w.heap.size w w0 by rw [← hw0]; exact below_a (below_a (below_a0 _ _) _) _)
  have hz0 : w.heap.size + 3 ≤ w0.heap.size := by rw [← hw0]; simp
  have Hw := hid hw0
  clear hw0
  obtain ⟨c0, c1, -, -, -⟩ := A0.out
  obtain ⟨d0, d1, -, -, -⟩ := C0.out
  have x1 : ¬ (g : Int) = 0 := by omega
  have x2 : ((g : Int) == 0) = false := by rw [beq_eq_false_iff_ne]; omega
  have x3 : (1 : Int) ≤ (g : Int) := by omega
  have x6 : ¬ g = 0 := by omega
  have y1 : ¬ (h : Int) = 0 := by omega
  have y2 : ((h : Int) == 0) = false := by rw [beq_eq_false_iff_ne]; omega
  have y3 : (1 : Int) ≤ (h : Int) := by omega
  have y6 : ¬ h = 0 := by omega
  have x4 : (0 : Int) ≤ (da : Int) := by omega
  have x5 : (0 : Int) ≤ (db : Int) := by omega
  by_cases q1 : aN = 0
  · subst q1
    obtain ⟨z1, z2, z3⟩ := zero_res (M0.out (Or.inl rfl))
    have HR := hid (show fr3 (Rat.divInt 0 da * Rat.divInt bN db) = .agg #[.int .i64 0, .int .i64 1, .int .i64 0] by unfold fr3; rw [z1, z2, z3])
    clear z1 z2 z3
    go_enter Tryz.func15, Tryz.ntmps15
    go_wp2_with fail
    rw [Hw.out]
    go_quiet (first | (go_at_call 31; exact Calls.quiet_of_same (SA.out _)) | (go_at_call 30; exact Calls.quiet_of_same (GA.out _)))
    go_wp2_with fail
    have hb1 : Below w0.heap.size w0 (w0.drewN nq) := below_drewN (Below.refl _ _) _
    obtain ⟨w1, hw1⟩ : ∃ w1, w0.drewN nq = w1 := ⟨_, rfl⟩
    rw [hw1] at hb1 ⊢
    have c0 := cell_below hb1 c0
    have c1 := cell_below hb1 c1
    have d0 := cell_below hb1 d0
    have d1 := cell_below hb1 d1
    have RB1 := hid (R0.out.below hb1)
    have HB1 := hid (below_step B0.out hb1)
    have hz1 : w.heap.size + 3 ≤ w1.heap.size := by have := hb1.size; omega
    clear hb1 hw1
    go_quiet (first | (go_at_call 31; exact Calls.quiet_of_same (SB.out _)) | (go_at_call 30; exact Calls.quiet_of_same (GB.out _)))
    obtain ⟨⟨r0, r1, r2⟩, ⟨f0, f1, f2⟩, -⟩ := RB1.out.below (below_drewN (Below.refl w1.heap.size w1) nq)
    go_wp2_with fail
    exact bodyPost_ret (v := .agg #[.int .i64 0, .int .i64 1, .int .i64 0]) (by simp [results, Tryz.results15, go_sem, r0, r1, r2]) rfl ⟨by rw [HR.out], ((((below_drewN HB1.out _).setCell (p := ⟨w.heap.size + 2, 0, none⟩) (by show w.heap.size ≤ w.heap.size + 2; omega) _).setCell (p := ⟨w.heap.size + 2, 1, none⟩) (by show w.heap.size ≤ w.heap.size + 2; omega) _).setCell (p := ⟨w.heap.size + 2, 2, none⟩) (by show w.heap.size ≤ w.heap.size + 2; omega) _)⟩
  have t1 : (aN == 0) = false := by rw [beq_eq_false_iff_ne]; exact q1
  by_cases q2 : bN = 0
  · subst q2
    obtain ⟨z1, z2, z3⟩ := zero_res (M0.out (Or.inr rfl))
    have HR := hid (show fr3 (Rat.divInt aN da * Rat.divInt 0 db) = .agg #[.int .i64 0, .int .i64 1, .int .i64 0] by unfold fr3; rw [z1, z2, z3])
    clear z1 z2 z3
    go_enter Tryz.func15, Tryz.ntmps15
    go_wp2_with fail
    rw [Hw.out]
    go_quiet (first | (go_at_call 31; exact Calls.quiet_of_same (SA.out _)) | (go_at_call 30; exact Calls.quiet_of_same (GA.out _)))
    go_wp2_with fail
    have hb1 : Below w0.heap.size w0 (w0.drewN nq) := below_drewN (Below.refl _ _) _
    obtain ⟨w1, hw1⟩ : ∃ w1, w0.drewN nq = w1 := ⟨_, rfl⟩
    rw [hw1] at hb1 ⊢
    have c0 := cell_below hb1 c0
    have c1 := cell_below hb1 c1
    have d0 := cell_below hb1 d0
    have d1 := cell_below hb1 d1
    have RB1 := hid (R0.out.below hb1)
    have HB1 := hid (below_step B0.out hb1)
    have hz1 : w.heap.size + 3 ≤ w1.heap.size := by have := hb1.size; omega
    clear hb1 hw1
    go_quiet (first | (go_at_call 31; exact Calls.quiet_of_same (SB.out _)) | (go_at_call 30; exact Calls.quiet_of_same (GB.out _)))
    obtain ⟨⟨r0, r1, r2⟩, ⟨f0, f1, f2⟩, -⟩ := RB1.out.below (below_drewN (Below.refl w1.heap.size w1) nq)
    go_wp2_with fail
    exact bodyPost_ret (v := .agg #[.int .i64 0, .int .i64 1, .int .i64 0]) (by simp [results, Tryz.results15, go_sem, r0, r1, r2]) rfl ⟨by rw [HR.out], ((((below_drewN HB1.out _).setCell (p := ⟨w.heap.size + 2, 0, none⟩) (by show w.heap.size ≤ w.heap.size + 2; omega) _).setCell (p := ⟨w.heap.size + 2, 1, none⟩) (by show w.heap.size ≤ w.heap.size + 2; omega) _).setCell (p := ⟨w.heap.size + 2, 2, none⟩) (by show w.heap.size ≤ w.heap.size + 2; omega) _)⟩
  have t2 : (bN == 0) = false := by rw [beq_eq_false_iff_ne]; exact q2
  clear q1 q2
  have PR := hid (fun W => product_sl (aN.tdiv g) (bN.tdiv h) (by omega) (by omega) W)
  have hpn := prod_lt (show (aN.tdiv g).natAbs ≤ 4611686018427387904 by omega) (show (bN.tdiv h).natAbs ≤ 4611686018427387904 by omega)
  obtain ⟨nt, hnt⟩ : ∃ nt, (aN.tdiv g).natAbs * (bN.tdiv h).natAbs = nt := ⟨_, rfl⟩
  rw [hnt] at PR hpn
  have hpd := prod_lt (show da / h ≤ 4611686018427387904 by omega) (show db / g ≤ 4611686018427387904 by omega)
  have hp250 := Nat.pow_lt_pow_right (show 1 < 2 by omega) (show 126 < 250 by omega)
  have h63 : (9223372036854775808 : Nat) < 2 ^ 200 := by decide +kernel
  have BA := hid (fun w => bits_sl (da / h) (by omega) w)
  have BB := hid (fun w => bits_sl (db / g) (by omega) w)
  have TM := hid (fun (x y : Value) (W : World) (hx : BitsAt W x (bitsN (da / h))) (hy : BitsAt W y (bitsN (db / g))) => times_sl x y _ _ (by omega) (by omega) W hx hy)
  obtain ⟨N, hN⟩ : ∃ N, numR (Rat.divInt aN da * Rat.divInt bN db) = N := ⟨_, rfl⟩
  obtain ⟨D, hD⟩ : ∃ D, denR (Rat.divInt aN da * Rat.divInt bN db) = D := ⟨_, rfl⟩
  obtain ⟨E, hE⟩ : ∃ E, errR (Rat.divInt aN da * Rat.divInt bN db) = E := ⟨_, rfl⟩
  have HFR := hid (show fr3 (Rat.divInt aN da * Rat.divInt bN db) = .agg #[.int .i64 N, .int .i64 D, .int .i64 E] by unfold fr3; rw [hN, hD, hE])
  rw [hN, hD, hE] at MV
  have MD := hid (fun (s : Bool) (hs : sv s nt = aN.tdiv g * bN.tdiv h) (x y : Value) (W : World) (hx : BitsAt W x (bitsN nt)) (hy : BitsAt W y (bitsN ((da / h) * (db / g)))) => by
    have := made_bits s x y _ _ (by omega) (by omega) W hx hy
    rw [MV.out s nt hs] at this
    exact this)
  clear hN hD hE hqa hqb hda hdb hpn hpd hp250 h63 hnt
  go_enter Tryz.func15, Tryz.ntmps15
  go_wp2_with fail
  rw [Hw.out]
  go_quiet (first | (go_at_call 31; exact Calls.quiet_of_same (SA.out _)) | (go_at_call 30; exact Calls.quiet_of_same (GA.out _)))
  go_wp2_with fail
  have hb1 : Below w0.heap.size w0 (w0.drewN nq) := below_drewN (Below.refl _ _) _
  obtain ⟨w1, hw1⟩ : ∃ w1, w0.drewN nq = w1 := ⟨_, rfl⟩
  rw [hw1] at hb1 ⊢
  have c0 := cell_below hb1 c0
  have c1 := cell_below hb1 c1
  have d0 := cell_below hb1 d0
  have d1 := cell_below hb1 d1
  have RB1 := hid (R0.out.below hb1)
  have HB1 := hid (below_step B0.out hb1)
  have hz1 : w.heap.size + 3 ≤ w1.heap.size := by have := hb1.size; omega
  clear hb1 hw1
  go_quiet (first | (go_at_call 31; exact Calls.quiet_of_same (SB.out _)) | (go_at_call 30; exact Calls.quiet_of_same (GB.out _)))
  go_upto_region 5 with fail
  obtain ⟨w2, hw2⟩ : ∃ w2, w1.drewN nq = w2 := ⟨_, rfl⟩
  have hb1 : Below w1.heap.size w1 w2 := by rw [← hw2]; exact below_drewN (Below.refl _ _) _
  rw [hw2]
  clear hw2
  have g0 := cell_below hb1 c0
  have g1 := cell_below hb1 c1
  have g2 := cell_below hb1 d0
  have g3 := cell_below hb1 d1
  have RB := hid (RB1.out.below hb1)
  have HB1 := hid (below_step HB1.out hb1)
  have hz1 : w.heap.size + 3 ≤ w2.heap.size := by have := hb1.size; omega
  clear hb1 c0 c1 d0 d1
  have hsd := (Below.refl w2.heap.size w2).drew
  refine wp_region_held_drew (S := fun W' => (W'.cell? ⟨w.heap.size, 0, none⟩ = some (.int .i64 aN) ∧ W'.cell? ⟨w.heap.size, 1, none⟩ = some (.int .i64 (da : Int)) ∧ W'.cell? ⟨w.heap.size + 1, 0, none⟩ = some (.int .i64 bN) ∧ W'.cell? ⟨w.heap.size + 1, 1, none⟩ = some (.int .i64 (db : Int)))) (by kernel_rfl) ?_ (fun hHeld => ?_)
  · exact ⟨g0, g1, g2, g3⟩
  have hB := hsd
  obtain ⟨wD, hwD⟩ : ∃ wD, w2.drew = wD := ⟨_, rfl⟩
  rw [hwD] at hHeld hB ⊢
  clear hwD
  refine wpAnyH_take (i := 0) (oi := ({ dst := some 29, op := Op.fieldAddr 25 (Operand.tmp 2) 0, type := 0, pos := "ref.go:239", after := #[], guard := none } : Oper)) (v := ?_) rfl (by kernel_rfl) (by kernel_rfl) (by kernel_rfl) (fun _ _ _ h => h) (Or.inl ⟨by rfl, ?_⟩) (by assumption) ?_
  rotate_left
  · intro w hSw; (try dsimp only at hSw); go_simp <;> with_reducible rfl
  (try simp only [Act.put, List.setIfInBounds_toArray, List.set_cons_zero, List.set_cons_succ])
  refine wpAnyH_take (i := 1) (oi := ({ dst := some 30, op := Op.load 3 (Operand.tmp 29), type := 3, pos := "ref.go:239", after := #[{ on := 0, ground := Ground.data }], guard := none } : Oper)) (v := ?_) rfl (by kernel_rfl) (by kernel_rfl) (by kernel_rfl) (fun _ _ _ h => h) (Or.inl ⟨by rfl, ?_⟩) (by assumption) ?_
  rotate_left
  · intro w hSw; (try dsimp only at hSw); go_simp <;> with_reducible rfl
  (try simp only [Act.put, List.setIfInBounds_toArray, List.set_cons_zero, List.set_cons_succ])
  refine wpAnyH_take (i := 2) (oi := ({ dst := some 31, op := Op.move (Operand.tmp 5), type := 3, pos := "ref.go:239", after := #[], guard := none } : Oper)) (v := ?_) rfl (by kernel_rfl) (by kernel_rfl) (by kernel_rfl) (fun _ _ _ h => h) (Or.inl ⟨by rfl, ?_⟩) (by assumption) ?_
  rotate_left
  · intro w hSw; (try dsimp only at hSw); go_simp <;> with_reducible rfl
  (try simp only [Act.put, List.setIfInBounds_toArray, List.set_cons_zero, List.set_cons_succ])
  refine wpAnyH_take (i := 3) (oi := ({ dst := some 32, op := Op.binOp BinOp.quo 3 (Operand.tmp 30) (Operand.tmp 31) 3, type := 3, pos := "ref.go:239", after := #[{ on := 1, ground := Ground.data }, { on := 2, ground := Ground.data }], guard := none } : Oper)) (v := ?_) rfl (by kernel_rfl) (by kernel_rfl) (by kernel_rfl) (fun _ _ _ h => h) (Or.inl ⟨by rfl, ?_⟩) (by assumption) ?_
  rotate_left
  · intro w hSw; (try dsimp only at hSw); go_simp <;> with_reducible rfl
  (try simp only [Act.put, List.setIfInBounds_toArray, List.set_cons_zero, List.set_cons_succ])
  refine wpAnyH_take (i := 4) (oi := ({ dst := some 33, op := Op.fieldAddr 25 (Operand.tmp 3) 0, type := 0, pos := "ref.go:239", after := #[], guard := none } : Oper)) (v := ?_) rfl (by kernel_rfl) (by kernel_rfl) (by kernel_rfl) (fun _ _ _ h => h) (Or.inl ⟨by rfl, ?_⟩) (by assumption) ?_
  rotate_left
  · intro w hSw; (try dsimp only at hSw); go_simp <;> with_reducible rfl
  (try simp only [Act.put, List.setIfInBounds_toArray, List.set_cons_zero, List.set_cons_succ])
  refine wpAnyH_take (i := 5) (oi := ({ dst := some 34, op := Op.load 3 (Operand.tmp 33), type := 3, pos := "ref.go:239", after := #[{ on := 4, ground := Ground.data }], guard := none } : Oper)) (v := ?_) rfl (by kernel_rfl) (by kernel_rfl) (by kernel_rfl) (fun _ _ _ h => h) (Or.inl ⟨by rfl, ?_⟩) (by assumption) ?_
  rotate_left
  · intro w hSw; (try dsimp only at hSw); go_simp <;> with_reducible rfl
  (try simp only [Act.put, List.setIfInBounds_toArray, List.set_cons_zero, List.set_cons_succ])
  refine wpAnyH_take (i := 6) (oi := ({ dst := some 35, op := Op.move (Operand.tmp 6), type := 3, pos := "ref.go:239", after := #[], guard := none } : Oper)) (v := ?_) rfl (by kernel_rfl) (by kernel_rfl) (by kernel_rfl) (fun _ _ _ h => h) (Or.inl ⟨by rfl, ?_⟩) (by assumption) ?_
  rotate_left
  · intro w hSw; (try dsimp only at hSw); go_simp <;> with_reducible rfl
  (try simp only [Act.put, List.setIfInBounds_toArray, List.set_cons_zero, List.set_cons_succ])
  refine wpAnyH_take (i := 7) (oi := ({ dst := some 36, op := Op.binOp BinOp.quo 3 (Operand.tmp 34) (Operand.tmp 35) 3, type := 3, pos := "ref.go:239", after := #[{ on := 5, ground := Ground.data }, { on := 6, ground := Ground.data }], guard := none } : Oper)) (v := ?_) rfl (by kernel_rfl) (by kernel_rfl) (by kernel_rfl) (fun _ _ _ h => h) (Or.inl ⟨by rfl, ?_⟩) (by assumption) ?_
  rotate_left
  · intro w hSw; (try dsimp only at hSw); go_simp <;> with_reducible rfl
  (try simp only [Act.put, List.setIfInBounds_toArray, List.set_cons_zero, List.set_cons_succ])
  refine wpAnyH_take (i := 9) (oi := ({ dst := some 38, op := Op.fieldAddr 25 (Operand.tmp 2) 1, type := 0, pos := "ref.go:239", after := #[], guard := none } : Oper)) (v := ?_) rfl (by kernel_rfl) (by kernel_rfl) (by kernel_rfl) (fun _ _ _ h => h) (Or.inl ⟨by rfl, ?_⟩) (by assumption) ?_
  rotate_left
  · intro w hSw; (try dsimp only at hSw); go_simp <;> with_reducible rfl
  (try simp only [Act.put, List.setIfInBounds_toArray, List.set_cons_zero, List.set_cons_succ])
  refine wpAnyH_take (i := 10) (oi := ({ dst := some 39, op := Op.load 3 (Operand.tmp 38), type := 3, pos := "ref.go:239", after := #[{ on := 9, ground := Ground.data }], guard := none } : Oper)) (v := ?_) rfl (by kernel_rfl) (by kernel_rfl) (by kernel_rfl) (fun _ _ _ h => h) (Or.inl ⟨by rfl, ?_⟩) (by assumption) ?_
  rotate_left
  · intro w hSw; (try dsimp only at hSw); go_simp <;> with_reducible rfl
  (try simp only [Act.put, List.setIfInBounds_toArray, List.set_cons_zero, List.set_cons_succ])
  refine wpAnyH_take (i := 11) (oi := ({ dst := some 40, op := Op.move (Operand.tmp 6), type := 3, pos := "ref.go:239", after := #[], guard := none } : Oper)) (v := ?_) rfl (by kernel_rfl) (by kernel_rfl) (by kernel_rfl) (fun _ _ _ h => h) (Or.inl ⟨by rfl, ?_⟩) (by assumption) ?_
  rotate_left
  · intro w hSw; (try dsimp only at hSw); go_simp <;> with_reducible rfl
  (try simp only [Act.put, List.setIfInBounds_toArray, List.set_cons_zero, List.set_cons_succ])
  refine wpAnyH_take (i := 12) (oi := ({ dst := some 41, op := Op.binOp BinOp.quo 3 (Operand.tmp 39) (Operand.tmp 40) 3, type := 3, pos := "ref.go:239", after := #[{ on := 10, ground := Ground.data }, { on := 11, ground := Ground.data }], guard := none } : Oper)) (v := ?_) rfl (by kernel_rfl) (by kernel_rfl) (by kernel_rfl) (fun _ _ _ h => h) (Or.inl ⟨by rfl, ?_⟩) (by assumption) ?_
  rotate_left
  · intro w hSw; (try dsimp only at hSw); go_simp <;> with_reducible rfl
  (try simp only [Act.put, List.setIfInBounds_toArray, List.set_cons_zero, List.set_cons_succ])
  refine wpAnyH_take (i := 14) (oi := ({ dst := some 43, op := Op.fieldAddr 25 (Operand.tmp 3) 1, type := 0, pos := "ref.go:239", after := #[], guard := none } : Oper)) (v := ?_) rfl (by kernel_rfl) (by kernel_rfl) (by kernel_rfl) (fun _ _ _ h => h) (Or.inl ⟨by rfl, ?_⟩) (by assumption) ?_
  rotate_left
  · intro w hSw; (try dsimp only at hSw); go_simp <;> with_reducible rfl
  (try simp only [Act.put, List.setIfInBounds_toArray, List.set_cons_zero, List.set_cons_succ])
  refine wpAnyH_take (i := 15) (oi := ({ dst := some 44, op := Op.load 3 (Operand.tmp 43), type := 3, pos := "ref.go:239", after := #[{ on := 14, ground := Ground.data }], guard := none } : Oper)) (v := ?_) rfl (by kernel_rfl) (by kernel_rfl) (by kernel_rfl) (fun _ _ _ h => h) (Or.inl ⟨by rfl, ?_⟩) (by assumption) ?_
  rotate_left
  · intro w hSw; (try dsimp only at hSw); go_simp <;> with_reducible rfl
  (try simp only [Act.put, List.setIfInBounds_toArray, List.set_cons_zero, List.set_cons_succ])
  refine wpAnyH_take (i := 16) (oi := ({ dst := some 45, op := Op.move (Operand.tmp 5), type := 3, pos := "ref.go:239", after := #[], guard := none } : Oper)) (v := ?_) rfl (by kernel_rfl) (by kernel_rfl) (by kernel_rfl) (fun _ _ _ h => h) (Or.inl ⟨by rfl, ?_⟩) (by assumption) ?_
  rotate_left
  · intro w hSw; (try dsimp only at hSw); go_simp <;> with_reducible rfl
  (try simp only [Act.put, List.setIfInBounds_toArray, List.set_cons_zero, List.set_cons_succ])
  refine wpAnyH_take (i := 17) (oi := ({ dst := some 46, op := Op.binOp BinOp.quo 3 (Operand.tmp 44) (Operand.tmp 45) 3, type := 3, pos := "ref.go:239", after := #[{ on := 15, ground := Ground.data }, { on := 16, ground := Ground.data }], guard := none } : Oper)) (v := ?_) rfl (by kernel_rfl) (by kernel_rfl) (by kernel_rfl) (fun _ _ _ h => h) (Or.inl ⟨by rfl, ?_⟩) (by assumption) ?_
  rotate_left
  · intro w hSw; (try dsimp only at hSw); go_simp <;> with_reducible rfl
  (try simp only [Act.put, List.setIfInBounds_toArray, List.set_cons_zero, List.set_cons_succ])
  refine wpAnyH_ready (rs := [8]) (by kernel_rfl) (by simp) ?_
  refine (AllReadyH.cons (o := ({ dst := some 37, op := Op.call { callee := Callee.value (Operand.func 35), args := #[Operand.tmp 32, Operand.tmp 36], argTypes := #[3, 3] }, type := 48, pos := "ref.go:239", after := #[{ on := 3, ground := Ground.data }, { on := 7, ground := Ground.data }], guard := none } : Oper)) rfl (fun K hK => ?_) AllReadyH.nil)
  go_simp
  rw [e1.out, e2.out]
  go_at_call 35
  with_reducible refine (PR.out _).mono ?_
  rintro e y37 ⟨s1, p1, k1, l1, rfl, hzqr, hs1, hst⟩
  have hzq := hid hzqr
  clear hzqr
  have hB := below_step hB hst
  clear hst hHeld
  first | (with_reducible refine hK.out _ _ ?_ (fun hHeld => ?_)) | (go_wp2_with fail; with_reducible refine hK.out _ _ ?_ (fun hHeld => ?_))
  · exact ⟨cell_below hB g0, cell_below hB g1, cell_below hB g2, cell_below hB g3⟩
  clear hK K
  (try simp only [Act.put, List.setIfInBounds_toArray, List.set_cons_zero, List.set_cons_succ])
  refine wpAnyH_ready (rs := [13]) (by kernel_rfl) (by simp) ?_
  refine (AllReadyH.cons (o := ({ dst := some 42, op := Op.call { callee := Callee.value (Operand.func 39), args := #[Operand.tmp 41], argTypes := #[3] }, type := 46, pos := "ref.go:239", after := #[{ on := 12, ground := Ground.data }, { on := 8, ground := Ground.chain }], guard := none } : Oper)) rfl (fun K hK => ?_) AllReadyH.nil)
  go_simp
  rw [e3.out]
  go_at_call 39
  with_reducible refine (BA.out _).mono ?_
  rintro e y42 ⟨pa, qa, ca, rfl, hzar, hst⟩
  have hzq := hid (hzq.out.below hst)
  have hza := hid hzar
  clear hzar
  have hB := below_step hB hst
  clear hst hHeld
  first | (with_reducible refine hK.out _ _ ?_ (fun hHeld => ?_)) | (go_wp2_with fail; with_reducible refine hK.out _ _ ?_ (fun hHeld => ?_))
  · exact ⟨cell_below hB g0, cell_below hB g1, cell_below hB g2, cell_below hB g3⟩
  clear hK K
  (try simp only [Act.put, List.setIfInBounds_toArray, List.set_cons_zero, List.set_cons_succ])
  refine wpAnyH_ready (rs := [18]) (by kernel_rfl) (by simp) ?_
  refine (AllReadyH.cons (o := ({ dst := some 47, op := Op.call { callee := Callee.value (Operand.func 39), args := #[Operand.tmp 46], argTypes := #[3] }, type := 46, pos := "ref.go:239", after := #[{ on := 17, ground := Ground.data }, { on := 13, ground := Ground.chain }], guard := none } : Oper)) rfl (fun K hK => ?_) AllReadyH.nil)
  go_simp
  rw [e4.out]
  go_at_call 39
  with_reducible refine (BB.out _).mono ?_
  rintro e y47 ⟨pb, qb, cb, rfl, hzbr, hst⟩
  have hzq := hid (hzq.out.below hst)
  have hza := hid (hza.out.below hst)
  have hzb := hid hzbr
  clear hzbr
  have hB := below_step hB hst
  clear hst hHeld
  first | (with_reducible refine hK.out _ _ ?_ (fun hHeld => ?_)) | (go_wp2_with fail; with_reducible refine hK.out _ _ ?_ (fun hHeld => ?_))
  · exact ⟨cell_below hB g0, cell_below hB g1, cell_below hB g2, cell_below hB g3⟩
  clear hK K
  (try simp only [Act.put, List.setIfInBounds_toArray, List.set_cons_zero, List.set_cons_succ])
  refine wpAnyH_ready (rs := [19]) (by kernel_rfl) (by simp) ?_
  refine (AllReadyH.cons (o := ({ dst := some 48, op := Op.call { callee := Callee.value (Operand.func 38), args := #[Operand.tmp 42, Operand.tmp 47], argTypes := #[46, 46] }, type := 46, pos := "ref.go:239", after := #[{ on := 13, ground := Ground.data }, { on := 18, ground := Ground.data }, { on := 18, ground := Ground.chain }], guard := none } : Oper)) rfl (fun K hK => ?_) AllReadyH.nil)
  go_simp
  go_at_call 38
  with_reducible refine (TM.out _ _ _ hza.out hzb.out).mono ?_
  rintro e y48 ⟨pc, qc, cc, rfl, hzcr, hst⟩
  have hzq := hid (hzq.out.below hst)
  have hza := hid (hza.out.below hst)
  have hzb := hid (hzb.out.below hst)
  have hzc := hid hzcr
  clear hzcr
  have hB := below_step hB hst
  clear hst hHeld
  first | (with_reducible refine hK.out _ _ ?_ (fun hHeld => ?_)) | (go_wp2_with fail; with_reducible refine hK.out _ _ ?_ (fun hHeld => ?_))
  · exact ⟨cell_below hB g0, cell_below hB g1, cell_below hB g2, cell_below hB g3⟩
  clear hK K
  (try simp only [Act.put, List.setIfInBounds_toArray, List.set_cons_zero, List.set_cons_succ])
  refine wpAnyH_ready (rs := [20]) (by kernel_rfl) (by simp) ?_
  refine (AllReadyH.cons (o := ({ dst := some 49, op := Op.call { callee := Callee.value (Operand.func 37), args := #[Operand.tmp 37, Operand.tmp 48], argTypes := #[48, 46] }, type := 28, pos := "ref.go:239", after := #[{ on := 8, ground := Ground.data }, { on := 19, ground := Ground.data }, { on := 19, ground := Ground.chain }], guard := none } : Oper)) rfl (fun K hK => ?_) AllReadyH.nil)
  go_simp
  go_at_call 37
  with_reducible refine (MD.out s1 hs1 _ _ _ hzq.out hzc.out).mono ?_
  rintro e y49 ⟨rfl, hst⟩
  have hzq := hid (hzq.out.below hst)
  have hza := hid (hza.out.below hst)
  have hzb := hid (hzb.out.below hst)
  have hzc := hid (hzc.out.below hst)
  have hB := below_step hB hst
  clear hst hHeld
  first | (with_reducible refine hK.out _ _ ?_ (fun hHeld => ?_)) | (go_wp2_with fail; with_reducible refine hK.out _ _ ?_ (fun hHeld => ?_))
  · exact ⟨cell_below hB g0, cell_below hB g1, cell_below hB g2, cell_below hB g3⟩
  clear hK K
  (try simp only [Act.put, List.setIfInBounds_toArray, List.set_cons_zero, List.set_cons_succ])
  refine wpAnyH_ready (rs := [21]) (by kernel_rfl) (by simp) ?_
  refine (AllReadyH.cons (o := ({ dst := none, op := Op.store 28 (Operand.tmp 4) (Operand.tmp 49), type := 0, pos := "ref.go:239", after := #[{ on := 20, ground := Ground.data }, { on := 20, ground := Ground.chain }, { on := 0, ground := Ground.phase }, { on := 1, ground := Ground.phase }, { on := 2, ground := Ground.phase }, { on := 3, ground := Ground.phase }, { on := 4, ground := Ground.phase }, { on := 5, ground := Ground.phase }, { on := 6, ground := Ground.phase }, { on := 7, ground := Ground.phase }, { on := 8, ground := Ground.phase }, { on := 9, ground := Ground.phase }, { on := 10, ground := Ground.phase }, { on := 11, ground := Ground.phase }, { on := 12, ground := Ground.phase }, { on := 13, ground := Ground.phase }, { on := 14, ground := Ground.phase }, { on := 15, ground := Ground.phase }, { on := 16, ground := Ground.phase }, { on := 17, ground := Ground.phase }, { on := 18, ground := Ground.phase }, { on := 19, ground := Ground.phase }, { on := 20, ground := Ground.phase }], guard := none } : Oper)) rfl (fun K hK => ?_) AllReadyH.nil)
  go_simp
  obtain ⟨⟨r0, r1, r2⟩, ⟨f0, f1, f2⟩, -⟩ := RB.out.below hB
  have ES := hid (show (((y49.setCell ⟨w.heap.size + 2, 0, none⟩ (.int .i64 N)).setCell ⟨w.heap.size + 2, 1, none⟩ (.int .i64 D)).setCell ⟨w.heap.size + 2, 2, none⟩ (.int .i64 E)).cell? ⟨w.heap.size, 0, none⟩ = some (.int .i64 aN) ∧ (((y49.setCell ⟨w.heap.size + 2, 0, none⟩ (.int .i64 N)).setCell ⟨w.heap.size + 2, 1, none⟩ (.int .i64 D)).setCell ⟨w.heap.size + 2, 2, none⟩ (.int .i64 E)).cell? ⟨w.heap.size, 1, none⟩ = some (.int .i64 (da : Int)) ∧ (((y49.setCell ⟨w.heap.size + 2, 0, none⟩ (.int .i64 N)).setCell ⟨w.heap.size + 2, 1, none⟩ (.int .i64 D)).setCell ⟨w.heap.size + 2, 2, none⟩ (.int .i64 E)).cell? ⟨w.heap.size + 1, 0, none⟩ = some (.int .i64 bN) ∧ (((y49.setCell ⟨w.heap.size + 2, 0, none⟩ (.int .i64 N)).setCell ⟨w.heap.size + 2, 1, none⟩ (.int .i64 D)).setCell ⟨w.heap.size + 2, 2, none⟩ (.int .i64 E)).cell? ⟨w.heap.size + 1, 1, none⟩ = some (.int .i64 (db : Int)) from ⟨far3 _ _ _ _ _ _ _ (by omega) (cell_below hB g0), far3 _ _ _ _ _ _ _ (by omega) (cell_below hB g1), far3 _ _ _ _ _ _ _ (by omega) (cell_below hB g2), far3 _ _ _ _ _ _ _ (by omega) (cell_below hB g3)⟩)
  have HEND := hid (below_step HB1.out hB)
  go_simp
  clear hHeld
  first | (with_reducible refine hK.out _ _ ?_ (fun hHeld => ?_)) | (go_wp2_with fail; with_reducible refine hK.out _ _ ?_ (fun hHeld => ?_))
  · exact ES.out
  clear hK K
  (try simp only [Act.put, List.setIfInBounds_toArray, List.set_cons_zero, List.set_cons_succ])
  refine wpAnyH_done (by kernel_rfl) ?_ _
  skip
  go_wp2_with fail
  exact bodyPost_ret (v := .agg #[.int .i64 N, .int .i64 D, .int .i64 E]) (by simp [results, Tryz.results15, go_sem, r0, r1, r2]) rfl ⟨by rw [HFR.out], (((HEND.out.setCell (p := ⟨w.heap.size + 2, 0, none⟩) (by show w.heap.size ≤ w.heap.size + 2; omega) _).setCell (p := ⟨w.heap.size + 2, 1, none⟩) (by show w.heap.size ≤ w.heap.size + 2; omega) _).setCell (p := ⟨w.heap.size + 2, 2, none⟩) (by show w.heap.size ≤ w.heap.size + 2; omega) _)⟩

end Go.Proofs.YtffcnkkgbhhfnaaGreatDoor

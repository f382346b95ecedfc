import Derived.Test.YtffcnkkgbhhfnaaGreatDoorRbz
namespace Go.Proofs.YtffcnkkgbhhfnaaGreatDoor
open Go.RowKit Go.Instr
set_option linter.unusedVariables false

/-! The reference's 'SubIn', 'DivIn', 'Cmp'. -/
theorem Fr.neg {n d : Int} (a : Fr n d) : Fr (-n) d := ⟨a.pos, a.le, by have := a.hi; omega, by have := a.lo; omega, by rw [Int.natAbs_neg]; exact a.cop⟩
theorem Fr.inv {n d : Int} (a : Fr n d) (h : 0 < n) : Fr d n := ⟨by omega, a.hi, by have := a.pos; omega, a.le, by rw [Nat.gcd_comm]; exact a.cop⟩
theorem Fr.invneg {n d : Int} (a : Fr n d) (h : n < 0) : Fr (-d) (-n) := ⟨by omega, by have := a.lo; omega, by have := a.le; omega, by have := a.pos; omega, by rw [Int.natAbs_neg, Int.natAbs_neg, Nat.gcd_comm]; exact a.cop⟩
theorem neg_cast (d : Int) : ((-d).toNat : Int) = if 0 ≤ -d then -d else 0 := by split <;> omega
theorem addin_any {aN aD bN bD : Int} (a : Fr aN aD) (b : Fr bN bD) (w : World) :
    Calls Tryz.prog 11 #[.agg #[.int .i64 aN, .int .i64 aD], .agg #[.int .i64 bN, .int .i64 bD]] w fun e w' => e = .returned (fr3 (Rat.divInt aN aD + Rat.divInt bN bD)) ∧ Below w.heap.size w w' := by
  obtain ⟨da, rfl⟩ : ∃ da : Nat, aD = (da : Int) := ⟨aD.toNat, by have := a.pos; omega⟩
  obtain ⟨db, rfl⟩ : ∃ db : Nat, bD = (db : Int) := ⟨bD.toNat, by have := b.pos; omega⟩
  exact addin_bits a b w
theorem mulin_any {aN aD bN bD : Int} (a : Fr aN aD) (b : Fr bN bD) (w : World) :
    Calls Tryz.prog 15 #[.agg #[.int .i64 aN, .int .i64 aD], .agg #[.int .i64 bN, .int .i64 bD]] w fun e w' => e = .returned (fr3 (Rat.divInt aN aD * Rat.divInt bN bD)) ∧ Below w.heap.size w w' := by
  obtain ⟨da, rfl⟩ : ∃ da : Nat, aD = (da : Int) := ⟨aD.toNat, by have := a.pos; omega⟩
  obtain ⟨db, rfl⟩ : ∃ db : Nat, bD = (db : Int) := ⟨bD.toNat, by have := b.pos; omega⟩
  exact mulin_bits a b w
theorem fr3_form (r : Rat) : ∃ N D E : Int, fr3 r = .agg #[.int .i64 N, .int .i64 D, .int .i64 E] := ⟨_, _, _, rfl⟩
theorem inv_eq {n d : Int} (b : Fr n d) : Rat.divInt d n = (Rat.divInt n d)⁻¹ := by rw [Rat.inv_def, b.num, b.den]
set_option maxRecDepth 100000 in
set_option maxHeartbeats 4000000 in
theorem subin_any {aN da bN db : Int} (a : Fr aN da) (b : Fr bN db) (w : World) :
    Calls Tryz.prog 13 #[.agg #[.int .i64 aN, .int .i64 da], .agg #[.int .i64 bN, .int .i64 db]] w fun e w' => e = .returned (fr3 (Rat.divInt aN da - Rat.divInt bN db)) ∧ Below w.heap.size w w' := by
  have e1 : Rat.divInt aN da - Rat.divInt bN db = Rat.divInt aN da + Rat.divInt (-bN) db := by rw [← Rat.neg_divInt, ← Rat.sub_eq_add_neg]
  have AD := hid (fun w => addin_any a b.neg w)
  rw [e1]
  obtain ⟨N, D, E, hF⟩ := fr3_form (Rat.divInt aN da + Rat.divInt (-bN) db)
  rw [hF] at AD ⊢
  have b3 := b.lo; have b4 := b.hi
  clear e1 hF a b
  obtain ⟨w0, hw0⟩ : ∃ w0, ((w.alloc (.cells #[.int .i64 aN, .int .i64 da] 25)).alloc (.cells #[.int .i64 bN, .int .i64 db] 25)).alloc (.cells #[.int .i64 0, .int .i64 0, .int .i64 0] 28) = w0 := ⟨_, rfl⟩
  have A0 := hid (show Box2 w0 w.heap.size (.int .i64 aN) (.int .i64 da) by
    rw [← hw0]; exact ((box2_new w _ _ _).below (below_a0 _ _)).below (below_a0 _ _))
  have C0 := hid (show Box2 w0 (w.heap.size + 1) (.int .i64 bN) (.int .i64 db) by
    have h := (box2_new (w.alloc (.cells #[.int .i64 aN, .int .i64 da] 25)) (.int .i64 bN) (.int .i64 db) 25).below (below_a0 _ (.cells #[.int .i64 0, .int .i64 0, .int .i64 0] 28))
    rw [World.size_alloc] at h
    rw [← hw0]; exact h)
  have R0 := hid (show Box3 w0 (w.heap.size + 2) (.int .i64 0) (.int .i64 0) (.int .i64 0) by
    have h := box3_new ((w.alloc (.cells #[.int .i64 aN, .int .i64 da] 25)).alloc (.cells #[.int .i64 bN, .int .i64 db] 25)) (.int .i64 0) (.int .i64 0) (.int .i64 0) 28
    rw [World.size_alloc, World.size_alloc] at h
    rw [← hw0]; exact h)
  have B0 := hid (show Below w.heap.size w w0 by rw [← hw0]; exact below_a (below_a (below_a0 _ _) _) _)
  have hz0 : w.heap.size + 3 ≤ w0.heap.size := by rw [← hw0]; simp
  have Hw := hid hw0
  clear hw0
  obtain ⟨c0, c1, -, -, -⟩ := A0.out
  obtain ⟨d0, d1, -, -, -⟩ := C0.out
  obtain ⟨⟨r0, r1, r2⟩, ⟨f0, f1, f2⟩, -⟩ := R0.out
  go_enter Tryz.func13, Tryz.ntmps13
  go_wp2_with fail
  rw [Hw.out]
  refine (AD.out _).mono ?_
  rintro e w5 ⟨rfl, hb5⟩
  obtain ⟨⟨r0, r1, r2⟩, ⟨f0, f1, f2⟩, -⟩ := R0.out.below hb5
  have HE := hid (below_step B0.out hb5)
  clear hb5
  go_wp2_with fail
  exact bodyPost_ret (v := .agg #[.int .i64 N, .int .i64 D, .int .i64 E]) (by simp [results, Tryz.results13, go_sem, r0, r1, r2]) rfl ⟨rfl, (((HE.out.setCell (p := ⟨w.heap.size + 2, 0, none⟩) (by show w.heap.size ≤ w.heap.size + 2; omega) _).setCell (p := ⟨w.heap.size + 2, 1, none⟩) (by show w.heap.size ≤ w.heap.size + 2; omega) _).setCell (p := ⟨w.heap.size + 2, 2, none⟩) (by show w.heap.size ≤ w.heap.size + 2; omega) _)⟩

set_option maxRecDepth 100000 in
set_option maxHeartbeats 4000000 in
theorem divin_zero {aN da db : Int} (w : World) :
    Calls Tryz.prog 17 #[.agg #[.int .i64 aN, .int .i64 da], .agg #[.int .i64 0, .int .i64 db]] w fun e w' => e = .returned (.agg #[.int .i64 0, .int .i64 0, .int .i64 20]) ∧ Below w.heap.size w w' := by
  go_enter Tryz.func17, Tryz.ntmps17
  go_wp2_with fail
  exact bodyPost_ret (v := .agg #[.int .i64 0, .int .i64 0, .int .i64 20]) (by simp [results, Tryz.results17, go_sem]) rfl ⟨rfl, by repeat (first | exact Below.refl _ _ | refine Below.setCell ?_ (by first | exact Nat.le_refl _ | (simp; done) | (simp; omega) | omega) _ | refine Below.alloc ?_ (by first | exact Nat.le_refl _ | (simp; done) | (simp; omega) | omega) _)⟩
set_option maxRecDepth 100000 in
set_option maxHeartbeats 4000000 in
theorem divin_any {aN da bN db : Int} (a : Fr aN da) (b : Fr bN db) (h0 : bN ≠ 0) (w : World) :
    Calls Tryz.prog 17 #[.agg #[.int .i64 aN, .int .i64 da], .agg #[.int .i64 bN, .int .i64 db]] w fun e w' => e = .returned (fr3 (Rat.divInt aN da / Rat.divInt bN db)) ∧ Below w.heap.size w w' := by
  have t1 : (bN == 0) = false := by rw [beq_eq_false_iff_ne]; exact h0
  have b1 := b.pos; have b2 := b.le; have b3 := b.lo; have b4 := b.hi
  by_cases hn : bN < 0
  · have MD := hid (fun w => mulin_any a (b.invneg hn) w)
    rw [Rat.neg_divInt_neg, inv_eq b, ← Rat.div_def] at MD
    obtain ⟨N, D, E, hF⟩ := fr3_form (Rat.divInt aN da / Rat.divInt bN db)
    rw [hF] at MD ⊢
    clear hF a b
    obtain ⟨w0, hw0⟩ : ∃ w0, ((w.alloc (.cells #[.int .i64 aN, .int .i64 da] 25)).alloc (.cells #[.int .i64 bN, .int .i64 db] 25)).alloc (.cells #[.int .i64 0, .int .i64 0, .int .i64 0] 28) = w0 := ⟨_, rfl⟩
    have A0 := hid (show Box2 w0 w.heap.size (.int .i64 aN) (.int .i64 da) by
      rw [← hw0]; exact ((box2_new w _ _ _).below (below_a0 _ _)).below (below_a0 _ _))
    have C0 := hid (show Box2 w0 (w.heap.size + 1) (.int .i64 bN) (.int .i64 db) by
      have h := (box2_new (w.alloc (.cells #[.int .i64 aN, .int .i64 da] 25)) (.int .i64 bN) (.int .i64 db) 25).below (below_a0 _ (.cells #[.int .i64 0, .int .i64 0, .int .i64 0] 28))
      rw [World.size_alloc] at h
      rw [← hw0]; exact h)
    have R0 := hid (show Box3 w0 (w.heap.size + 2) (.int .i64 0) (.int .i64 0) (.int .i64 0) by
      have h := box3_new ((w.alloc (.cells #[.int .i64 aN, .int .i64 da] 25)).alloc (.cells #[.int .i64 bN, .int .i64 db] 25)) (.int .i64 0) (.int .i64 0) (.int .i64 0) 28
      rw [World.size_alloc, World.size_alloc] at h
      rw [← hw0]; exact h)
    have B0 := hid (show Below w.heap.size w w0 by rw [← hw0]; exact below_a (below_a (below_a0 _ _) _) _)
    have hz0 : w.heap.size + 3 ≤ w0.heap.size := by rw [← hw0]; simp
    have Hw := hid hw0
    clear hw0
    obtain ⟨c0, c1, -, -, -⟩ := A0.out
    obtain ⟨d0, d1, -, -, -⟩ := C0.out
    go_enter Tryz.func17, Tryz.ntmps17
    go_wp2_with fail
    rw [Hw.out]
    refine (MD.out _).mono ?_
    rintro e w5 ⟨rfl, hb5⟩
    obtain ⟨⟨r0, r1, r2⟩, ⟨f0, f1, f2⟩, -⟩ := R0.out.below hb5
    have HE := hid (below_step B0.out hb5)
    clear hb5
    go_wp2_with fail
    exact bodyPost_ret (v := .agg #[.int .i64 N, .int .i64 D, .int .i64 E]) (by simp [results, Tryz.results17, go_sem, r0, r1, r2]) rfl ⟨rfl, (((HE.out.setCell (p := ⟨w.heap.size + 2, 0, none⟩) (by show w.heap.size ≤ w.heap.size + 2; omega) _).setCell (p := ⟨w.heap.size + 2, 1, none⟩) (by show w.heap.size ≤ w.heap.size + 2; omega) _).setCell (p := ⟨w.heap.size + 2, 2, none⟩) (by show w.heap.size ≤ w.heap.size + 2; omega) _)⟩
  · have MD := hid (fun w => mulin_any a (b.inv (by omega)) w)
    rw [inv_eq b, ← Rat.div_def] at MD
    obtain ⟨N, D, E, hF⟩ := fr3_form (Rat.divInt aN da / Rat.divInt bN db)
    rw [hF] at MD ⊢
    clear hF a b
    obtain ⟨w0, hw0⟩ : ∃ w0, ((w.alloc (.cells #[.int .i64 aN, .int .i64 da] 25)).alloc (.cells #[.int .i64 bN, .int .i64 db] 25)).alloc (.cells #[.int .i64 0, .int .i64 0, .int .i64 0] 28) = w0 := ⟨_, rfl⟩
    have A0 := hid (show Box2 w0 w.heap.size (.int .i64 aN) (.int .i64 da) by
      rw [← hw0]; exact ((box2_new w _ _ _).below (below_a0 _ _)).below (below_a0 _ _))
    have C0 := hid (show Box2 w0 (w.heap.size + 1) (.int .i64 bN) (.int .i64 db) by
      have h := (box2_new (w.alloc (.cells #[.int .i64 aN, .int .i64 da] 25)) (.int .i64 bN) (.int .i64 db) 25).below (below_a0 _ (.cells #[.int .i64 0, .int .i64 0, .int .i64 0] 28))
      rw [World.size_alloc] at h
      rw [← hw0]; exact h)
    have R0 := hid (show Box3 w0 (w.heap.size + 2) (.int .i64 0) (.int .i64 0) (.int .i64 0) by
      have h := box3_new ((w.alloc (.cells #[.int .i64 aN, .int .i64 da] 25)).alloc (.cells #[.int .i64 bN, .int .i64 db] 25)) (.int .i64 0) (.int .i64 0) (.int .i64 0) 28
      rw [World.size_alloc, World.size_alloc] at h
      rw [← hw0]; exact h)
    have B0 := hid (show Below w.heap.size w w0 by rw [← hw0]; exact below_a (below_a (below_a0 _ _) _) _)
    have hz0 : w.heap.size + 3 ≤ w0.heap.size := by rw [← hw0]; simp
    have Hw := hid hw0
    clear hw0
    obtain ⟨c0, c1, -, -, -⟩ := A0.out
    obtain ⟨d0, d1, -, -, -⟩ := C0.out
    go_enter Tryz.func17, Tryz.ntmps17
    go_wp2_with fail
    rw [Hw.out]
    refine (MD.out _).mono ?_
    rintro e w5 ⟨rfl, hb5⟩
    obtain ⟨⟨r0, r1, r2⟩, ⟨f0, f1, f2⟩, -⟩ := R0.out.below hb5
    have HE := hid (below_step B0.out hb5)
    clear hb5
    go_wp2_with fail
    exact bodyPost_ret (v := .agg #[.int .i64 N, .int .i64 D, .int .i64 E]) (by simp [results, Tryz.results17, go_sem, r0, r1, r2]) rfl ⟨rfl, (((HE.out.setCell (p := ⟨w.heap.size + 2, 0, none⟩) (by show w.heap.size ≤ w.heap.size + 2; omega) _).setCell (p := ⟨w.heap.size + 2, 1, none⟩) (by show w.heap.size ≤ w.heap.size + 2; omega) _).setCell (p := ⟨w.heap.size + 2, 2, none⟩) (by show w.heap.size ≤ w.heap.size + 2; omega) _)⟩

theorem sv_not (s : Bool) (m : Nat) : sv (!s) m = -sv s m := by unfold sv; cases s <;> simp
theorem cmp_sv {aN da bN db : Int} (a : Fr aN da) (b : Fr bN db) (bt : Bool) (nt : Nat) (h : sv bt nt = aN * db - bN * da) : cmpV (Rat.divInt aN da) (Rat.divInt bN db) = if nt = 0 then 0 else if bt = true then -1 else 1 := by
  have l := fr_lt a b
  have l2 := fr_lt b a
  unfold cmpV
  by_cases h0 : nt = 0
  · rw [if_pos h0]
    have h1 : aN * db = bN * da := by rw [h0] at h; have : sv bt 0 = 0 := by (unfold sv; split <;> rfl)
                                      omega
    rw [if_neg (fun h2 => by have := l.1 h2; omega)]
    rw [if_pos]
    exact Rat.le_antisymm (Rat.not_lt.1 (fun h2 => by have := l2.1 h2; omega)) (Rat.not_lt.1 (fun h2 => by have := l.1 h2; omega))
  · rw [if_neg h0]
    cases bt
    · have h1 : 0 < aN * db - bN * da := by rw [← h]; unfold sv; simp; omega
      have h3 : Rat.divInt bN db < Rat.divInt aN da := l2.2 (by omega)
      rw [if_neg (fun h2 => by have := l.1 h2; omega), if_neg (fun h2 => by rw [h2] at h3; exact Rat.lt_irrefl h3)]; rfl
    · have h1 : aN * db - bN * da < 0 := by rw [← h]; unfold sv; simp; omega
      rw [if_pos (l.2 (by omega))]; rfl
set_option maxRecDepth 100000 in
set_option maxHeartbeats 8000000 in
theorem rcmp_any {aN da bN db : Int} (a : Fr aN da) (b : Fr bN db) (w : World) :
    Calls Tryz.prog 19 #[.agg #[.int .i64 aN, .int .i64 da], .agg #[.int .i64 bN, .int .i64 db]] w fun e w' => e = .returned (.int .i64 (cmpV (Rat.divInt aN da) (Rat.divInt bN db))) ∧ Below w.heap.size w w' := by
  have a1 := a.pos; have a2 := a.le; have a3 := a.lo; have a4 := a.hi
  have b1 := b.pos; have b2 := b.le; have b3 := b.lo; have b4 := b.hi
  have P1 := hid (fun w => product_sl aN db (by omega) (by omega) w)
  have P2 := hid (fun w => product_sl bN da (by omega) (by omega) w)
  have hp1 := prod_lt (show aN.natAbs ≤ 4611686018427387904 by omega) (show db.natAbs ≤ 4611686018427387904 by omega)
  have hp2 := prod_lt (show bN.natAbs ≤ 4611686018427387904 by omega) (show da.natAbs ≤ 4611686018427387904 by omega)
  have h126 := Nat.pow_lt_pow_right (show 1 < 2 by omega) (show 126 < 240 by omega)
  obtain ⟨m1, hm1⟩ : ∃ m, aN.natAbs * db.natAbs = m := ⟨_, rfl⟩
  obtain ⟨m2, hm2⟩ : ∃ m, bN.natAbs * da.natAbs = m := ⟨_, rfl⟩
  rw [hm1] at P1 hp1
  rw [hm2] at P2 hp2
  have HP1 := hid (Nat.lt_trans hp1 h126)
  have HP2 := hid (Nat.lt_trans hp2 h126)
  have CV := hid (fun bt nt h => cmp_sv a b bt nt h)
  clear hm1 hm2 hp1 hp2 h126 a b
  go_enter Tryz.func19, Tryz.ntmps19
  have A0 := hid ((box2_new w (.int .i64 aN) (.int .i64 da) 25).below (below_a0 _ (.cells #[.int .i64 bN, .int .i64 db] 25)))
  have C0 := hid (box2_new (w.alloc (.cells #[.int .i64 aN, .int .i64 da] 25)) (.int .i64 bN) (.int .i64 db) 25)
  rw [World.size_alloc] at C0
  have B0 := hid (below_a (below_a0 w (.cells #[.int .i64 aN, .int .i64 da] 25)) (.cells #[.int .i64 bN, .int .i64 db] 25))
  go_wp2_with fail
  refine (P1.out _).mono ?_
  rintro e w1 ⟨s1, p1, q1, c1, rfl, hz1, hs1, hb1⟩
  have HZ1 := hid (hz1.below (below_a0 w1 (.cells #[.bool s1, .slice p1 q1 c1] 48)))
  have X1 := hid (box2_new w1 (.bool s1) (.slice p1 q1 c1) 48)
  have A1 := hid ((A0.out.below hb1).below (below_a0 _ (.cells #[.bool s1, .slice p1 q1 c1] 48)))
  have C1 := hid ((C0.out.below hb1).below (below_a0 _ (.cells #[.bool s1, .slice p1 q1 c1] 48)))
  have B1 := hid (below_a (below_step B0.out hb1) (.cells #[.bool s1, .slice p1 q1 c1] 48))
  clear hz1 hb1
  obtain ⟨k0, k1, -, -, -⟩ := A1.out
  obtain ⟨j0, j1, -, -, -⟩ := C1.out
  go_wp2_with fail
  refine (P2.out _).mono ?_
  rintro e w2 ⟨s2, p2, q2, c2, rfl, hz2, hs2, hb2⟩
  have hb2' := below_a hb2 (.cells #[.bool s2, .slice p2 q2 c2] 48)
  have HZ2 := hid (hz2.below (below_a0 w2 (.cells #[.bool s2, .slice p2 q2 c2] 48)))
  have HZ12 := hid (HZ1.out.below hb2')
  have X2 := hid (box2_new w2 (.bool s2) (.slice p2 q2 c2) 48)
  have X12 := hid (X1.out.below hb2')
  have B2 := hid (below_step B1.out hb2')
  clear hz2 hb2 hb2' k0 k1 j0 j1
  obtain ⟨k0, k1, -, -, -⟩ := X12.out
  obtain ⟨j0, j1, -, -, -⟩ := X2.out
  go_wp2_with fail
  refine (sum_sl s1 (!s2) _ _ m1 m2 HP1.out HP2.out _ HZ12.out HZ2.out).mono ?_
  rintro e w3 ⟨bt, nt, pt, ct, rfl, hzt, hst, -, -, hb3⟩
  rw [hs1, sv_not, hs2] at hst
  have HC := hid (CV.out bt nt (by omega))
  have B3 := hid (below_a (below_step B2.out hb3) (.cells #[.bool bt, .slice pt (bitsN nt).length ct] 48))
  clear hzt hst hb3 k0 k1 j0 j1
  by_cases h0 : nt = 0
  · have t1 : (((bitsN nt).length : Int) == 0) = true := by rw [h0, bitsN_zero]; rfl
    have HR := hid (HC.out.trans (if_pos h0))
    clear h0
    go_wp2_with fail
    go_ret
    exact ⟨by rw [HR.out]; rfl, B3.out⟩
  · have t1 : (((bitsN nt).length : Int) == 0) = false := by
      rw [beq_eq_false_iff_ne]
      intro e
      exact h0 (bitsN_nil.1 (List.eq_nil_of_length_eq_zero (by omega)))
    have HR := hid (HC.out.trans (if_neg h0))
    clear h0
    cases bt
    · have HR2 := hid (HR.out.trans (if_neg (by simp)))
      go_wp2_with fail
      go_ret
      exact ⟨by rw [HR2.out]; rfl, B3.out⟩
    · have HR2 := hid (HR.out.trans (if_pos rfl))
      go_wp2_with fail
      go_ret
      exact ⟨by rw [HR2.out]; rfl, B3.out⟩

end Go.Proofs.YtffcnkkgbhhfnaaGreatDoor

import Derived.Test.YtgkbefkgkpjmgaaDoorRoc
namespace Go.Proofs.YtgkbefkgkpjmgaaDoor
open Go.RowKit Go.Instr
set_option linter.unusedVariables false

set_option maxRecDepth 100000 in
set_option maxHeartbeats 16000000 in
theorem order_any (x0 x1 y0 y1 z0 z1 : Int) (hx0 : I64 x0) (hx1 : I64 x1) (hy0 : I64 y0) (hy1 : I64 y1) (hz0 : I64 z0) (hz1 : I64 z1) (w : World) (g : Glob w) :
    Calls Tryd.prog 4 #[.agg #[.int .i64 (x0), .int .i64 (x1)], .agg #[.int .i64 (y0), .int .i64 (y1)], .agg #[.int .i64 (z0), .int .i64 (z1)]] w fun e w' => e = .returned (.bool true) ∧ Below w.heap.size w w' := by
  have EXA := hid (fun o1 o2 o3 => examples_any (((w.alloc o1).alloc o2).alloc o3) (glob_below (((((Below.refl _ _).alloc (by first | exact Nat.le_refl _ | (simp; done) | (simp; omega) | omega | (simp [World.drewN]; omega)) _).alloc (by first | exact Nat.le_refl _ | (simp; done) | (simp; omega) | omega | (simp [World.drewN]; omega)) _).alloc (by first | exact Nat.le_refl _ | (simp; done) | (simp; omega) | omega | (simp [World.drewN]; omega)) _)) g))
  have MA := hid (fun w => made_any x0 x1 hx0 hx1 w)
  have MB := hid (fun w => made_any y0 y1 hy0 hy1 w)
  have MC := hid (fun w => made_any z0 z1 hz0 hz1 w)
  clear hx0 hx1 hy0 hy1 hz0 hz1 g
  go_enter Tryd.func4, Tryd.ntmps4
  go_wp2_with fail
  refine (EXA.out _ _ _).mono ?_
  rintro e w1 ⟨rfl, hb⟩
  have hzP : w.heap.size + 3 ≤ w1.heap.size := by have := hb.size; simp at this; omega
  have P0 : ∀ W, Below w1.heap.size w1 W → W.cell? ⟨w.heap.size, 0, none⟩ = some (.int .i64 x0) ∧ W.cell? ⟨w.heap.size, 1, none⟩ = some (.int .i64 x1) ∧ W.cell? ⟨w.heap.size + 1, 0, none⟩ = some (.int .i64 y0) ∧ W.cell? ⟨w.heap.size + 1, 1, none⟩ = some (.int .i64 y1) ∧ W.cell? ⟨w.heap.size + 1 + 1, 0, none⟩ = some (.int .i64 z0) ∧ W.cell? ⟨w.heap.size + 1 + 1, 1, none⟩ = some (.int .i64 z1) ∧ w1.heap.size ≤ W.heap.size := by
    intro W hW
    exact ⟨cell_below hW (cell_below hb (by simp [go_sem])), cell_below hW (cell_below hb (by simp [go_sem])), cell_below hW (cell_below hb (by simp [go_sem])), cell_below hW (cell_below hb (by simp [go_sem])), cell_below hW (cell_below hb (by simp [go_sem])), cell_below hW (cell_below hb (by simp [go_sem])), hW.size⟩
  have P := hid P0
  clear P0
  have HP := hid hb
  clear hb
  have BW := hid ((((((Below.refl _ _).alloc (by first | exact Nat.le_refl _ | (simp; done) | (simp; omega) | omega | (simp [World.drewN]; omega)) _).alloc (by first | exact Nat.le_refl _ | (simp; done) | (simp; omega) | omega | (simp [World.drewN]; omega)) _).alloc (by first | exact Nat.le_refl _ | (simp; done) | (simp; omega) | omega | (simp [World.drewN]; omega)) _).trans (HP.out.mono (by first | exact Nat.le_refl _ | (simp; done) | (simp; omega) | omega | (simp [World.drewN]; omega)))))
  obtain ⟨q0, q1, q2, q3, q4, q5, zq⟩ := P.out w1 (Below.refl _ _)
  go_wp2_with fail
  refine (MA.out _).mono ?_
  rintro e w2 ⟨aN, aD, fa, rfl, hb⟩
  have FA := hid fa
  have B2 := hid hb
  clear hb fa q0 q1 q2 q3 q4 q5 zq
  have k2 := fun o => (P.out (w2.alloc o) (below_a B2.out o)).2.2.1
  have k3 := fun o => (P.out (w2.alloc o) (below_a B2.out o)).2.2.2.1
  go_wp2_with fail
  refine (MB.out _).mono ?_
  rintro e w3 ⟨bN, bD, fb, rfl, hb⟩
  have FB := hid fb
  have B3 := hid (below_step (below_a B2.out _) hb)
  have ca := cell_below hb (x := .int .i64 aN) (a := ⟨w2.heap.size, 0, none⟩) (by simp [go_sem])
  have ca' := cell_below hb (x := .int .i64 aD) (a := ⟨w2.heap.size, 1, none⟩) (by simp [go_sem])
  have CA := hid (And.intro ca ca')
  clear hb fb k2 k3 ca ca'
  have k4 := fun o => (P.out (w3.alloc o) (below_a B3.out o)).2.2.2.2.1
  have k5 := fun o => (P.out (w3.alloc o) (below_a B3.out o)).2.2.2.2.2.1
  go_wp2_with fail
  refine (MC.out _).mono ?_
  rintro e w4 ⟨cN, cD, fc, rfl, hb⟩
  have FC := hid fc
  have ca := cell_below hb (cell_below (below_a (Below.refl _ _) _) CA.out.1)
  have ca' := cell_below hb (cell_below (below_a (Below.refl _ _) _) CA.out.2)
  have cb := cell_below hb (x := .int .i64 bN) (a := ⟨w3.heap.size, 0, none⟩) (by simp [go_sem])
  have cb' := cell_below hb (x := .int .i64 bD) (a := ⟨w3.heap.size, 1, none⟩) (by simp [go_sem])
  have B4 := hid (below_step (below_a B3.out _) hb)
  have CB := hid (And.intro (And.intro ca ca') (And.intro cb cb'))
  clear hb fc k4 k5 ca ca' cb cb'
  go_upto_region 7 with fail
  generalize hwA : w4.alloc (.cells #[.int .i64 cN, .int .i64 cD] 25) = wA
  have hA : Below w4.heap.size w4 wA := by rw [← hwA]; exact ((Below.refl _ _).alloc (by first | exact Nat.le_refl _ | (simp; done) | (simp; omega) | omega | (simp [World.drewN]; omega)) _)
  have fa := FA.out
  have fb := FB.out
  have fc := FC.out
  have PA := hid (fun V (hV : Below wA.heap.size wA V) => show V.cell? ⟨w2.heap.size, 0, none⟩ = some (.int .i64 aN) ∧ V.cell? ⟨w2.heap.size, 1, none⟩ = some (.int .i64 aD) ∧ V.cell? ⟨w3.heap.size, 0, none⟩ = some (.int .i64 bN) ∧ V.cell? ⟨w3.heap.size, 1, none⟩ = some (.int .i64 bD) ∧ V.cell? ⟨w4.heap.size, 0, none⟩ = some (.int .i64 cN) ∧ V.cell? ⟨w4.heap.size, 1, none⟩ = some (.int .i64 cD) ∧ wA.heap.size ≤ V.heap.size from ⟨cell_below hV (cell_below hA CB.out.1.1), cell_below hV (cell_below hA CB.out.1.2), cell_below hV (cell_below hA CB.out.2.1), cell_below hV (cell_below hA CB.out.2.2), cell_below hV (show wA.cell? ⟨w4.heap.size, 0, none⟩ = some (.int .i64 cN) by rw [← hwA]; simp [go_sem]), cell_below hV (show wA.cell? ⟨w4.heap.size, 1, none⟩ = some (.int .i64 cD) by rw [← hwA]; simp [go_sem]), hV.size⟩)
  have BA := hid (BW.out.trans ((B4.out.trans (hA.mono B4.out.size)).mono BW.out.size))
  clear hwA hA
  -- the numbers
  obtain ⟨ab, hab⟩ : ∃ n, cmpV (Rat.divInt aN aD) (Rat.divInt bN bD) = n := ⟨_, rfl⟩
  obtain ⟨bc, hbc⟩ : ∃ n, cmpV (Rat.divInt bN bD) (Rat.divInt cN cD) = n := ⟨_, rfl⟩
  obtain ⟨ac, hac⟩ : ∃ n, cmpV (Rat.divInt aN aD) (Rat.divInt cN cD) = n := ⟨_, rfl⟩
  have C1 := hid (fun w => cmpF fa fb w)
  have C2 := hid (fun w => cmpF fb fc w)
  have C3 := hid (fun w => cmpF fa fa w)
  have C4 := hid (fun w => cmpF fb fa w)
  have C5 := hid (fun w => cmpF fa fc w)
  rw [hab] at C1
  rw [hbc] at C2
  rw [cmpV_self] at C3
  rw [cmpV_neg, hab] at C4
  rw [hac] at C5
  obtain ⟨dN, dD, dE, Td⟩ := trip_ex ((Rat.divInt aN aD) - (Rat.divInt bN bD))
  obtain ⟨sN, sD, sE, Ts⟩ := trip_ex ((Rat.divInt aN aD) + (Rat.divInt cN cD))
  obtain ⟨tN, tD, tE, Tt⟩ := trip_ex ((Rat.divInt bN bD) + (Rat.divInt cN cD))
  obtain ⟨pN, pD, pE, Tp⟩ := trip_ex ((Rat.divInt aN aD) * (Rat.divInt cN cD))
  obtain ⟨qN, qD, qE, Tq⟩ := trip_ex ((Rat.divInt bN bD) * (Rat.divInt cN cD))
  have D1 := hid (fun w => subT fa fb Td w)
  have S1 := hid (fun w => addT fa fc Ts w)
  have T1 := hid (fun w => addT fb fc Tt w)
  have P1 := hid (fun w => mulT fa fc Tp w)
  have Q1 := hid (fun w => mulT fb fc Tq w)
  have b1 := cmpV_bd (Rat.divInt aN aD) (Rat.divInt bN bD)
  have b2 := cmpV_bd (Rat.divInt bN bD) (Rat.divInt cN cD)
  rw [hab] at b1
  rw [hbc] at b2
  have TR1 := hid (fun (h : ab ≤ 0) (h2 : bc ≤ 0) => show ac ≤ 0 by rw [← hac]; exact cmpV_le_trans (by rw [hab]; exact h) (by rw [hbc]; exact h2))
  have TR2 := hid (fun (h : 0 ≤ ab) (h2 : 0 ≤ bc) => show 0 ≤ ac by rw [← hac]; exact cmpV_ge_trans (by rw [hab]; exact h) (by rw [hbc]; exact h2))
  have EQ0 := hid (show ab = 0 ↔ aN = bN ∧ aD = bD by rw [← hab, cmpV_zero, fr_eq fa fb])
  have SG := hid (fun (h : dE = 0) => show (0 < dN ↔ 0 < ab) ∧ (dN < 0 ↔ ab < 0) by rw [← hab]; subst h; exact sub_signs Td)
  have US := hid (fun (h : sE = 0) => (trip_cases Ts).resolve_right (fun k => by omega))
  have UT := hid (fun (h : tE = 0) => (trip_cases Tt).resolve_right (fun k => by omega))
  have UP := hid (fun (h : pE = 0) => (trip_cases Tp).resolve_right (fun k => by omega))
  have UQ := hid (fun (h : qE = 0) => (trip_cases Tq).resolve_right (fun k => by omega))
  have XA := hid (fun (h : sE = 0) (h2 : tE = 0) w => by have k := cmpF (US.out h).2.1 (UT.out h2).2.1 w; rw [(US.out h).2.2, (UT.out h2).2.2, cmpV_add, hab] at k; exact k)
  have XM := hid (fun (h : pE = 0) (h2 : qE = 0) (h3 : 0 < cN) w => by have k := cmpF (UP.out h).2.1 (UQ.out h2).2.1 w; rw [(UP.out h).2.2, (UQ.out h2).2.2, cmpV_mul _ _ _ ((fr_pos fc).1 h3), hab] at k; exact k)
  have ED := hid (show dE = 0 ∨ dE = 2 from (trip_cases Td).elim (fun h => Or.inl h.1) (fun h => Or.inr h.1))
  have ES := hid (show sE = 0 ∨ sE = 2 from (trip_cases Ts).elim (fun h => Or.inl h.1) (fun h => Or.inr h.1))
  have ET := hid (show tE = 0 ∨ tE = 2 from (trip_cases Tt).elim (fun h => Or.inl h.1) (fun h => Or.inr h.1))
  have EP := hid (show pE = 0 ∨ pE = 2 from (trip_cases Tp).elim (fun h => Or.inl h.1) (fun h => Or.inr h.1))
  have EQ := hid (show qE = 0 ∨ qE = 2 from (trip_cases Tq).elim (fun h => Or.inl h.1) (fun h => Or.inr h.1))
  have MI1 := hid (fun (h : decide (0 < ab) = true) w => min_b fa fb (by rw [hab]; exact h) w)
  have MI2 := hid (fun (h : decide (0 < ab) = false) w => min_a fa fb (by rw [hab]; exact h) w)
  have MX1 := hid (fun (h : decide (ab < 0) = true) w => max_b fa fb (by rw [hab]; exact h) w)
  have MX2 := hid (fun (h : decide (ab < 0) = false) w => max_a fa fb (by rw [hab]; exact h) w)
  obtain ⟨b1, b1'⟩ := b1
  obtain ⟨b2, b2'⟩ := b2
  have BB1 := hid b1
  have BB1' := hid b1'
  have BB2 := hid b2
  have BB2' := hid b2'
  clear Td Ts Tt Tp Tq fa fb fc US UT UP UQ hab hbc hac b1 b1' b2 b2'
  obtain ⟨ha0, ha1, hb0, hb1, hc0, hc1, hz⟩ := PA.out wA (Below.refl _ _)
  go_wp2_with fail
  refine (C1.out _).mono ?_
  rintro e v1 ⟨rfl, hb⟩
  have BV1 := hid hb
  clear hb ha0 ha1 hb0 hb1 hc0 hc1 hz
  obtain ⟨ha0, ha1, hb0, hb1, hc0, hc1, hz⟩ := PA.out v1 BV1.out
  go_wp2_with fail
  refine (C2.out _).mono ?_
  rintro e v2 ⟨rfl, hb⟩
  have BV2 := hid (below_step BV1.out hb)
  clear hb ha0 ha1 hb0 hb1 hc0 hc1 hz
  obtain ⟨ha0, ha1, hb0, hb1, hc0, hc1, hz⟩ := PA.out v2 BV2.out
  go_upto_region 9 with fail
  have TV2 := hid (below_step BA.out BV2.out)
  go_cut [99] (fun s wx => s = .bool false ∧ Below v2.heap.size v2 wx)
  case first =>
    have tr1 := TR1.out
    have tr2 := TR2.out
    have e0 := EQ0.out
    have g1 := BB1.out
    have g2 := BB1'.out
    have g3 := BB2.out
    have g4 := BB2'.out
    rcases (show ab = -1 ∨ ab = 0 ∨ ab = 1 by omega) with ha | ha | ha
    · have hne : ¬ (aN = bN ∧ aD = bD) := fun k => by have := e0.2 k; omega
      by_cases hN : aN = bN
      · skip
        have hD : ¬ aD = bD := fun k => hne ⟨hN, k⟩
        have yy0 : (aN == bN) = true := by simpa using hN
        have yy1 : decide (aN = bN) = true := by simpa using hN
        have yy2 : (aD == bD) = false := by simpa using hD
        have yy3 : decide (aD = bD) = false := by simpa using hD
        clear hN hne hD
        by_cases hc : bc ≤ 0
        · skip
          as_aux_lemma =>
          have lac := tr1 (by omega) hc
          have q0 : decide (ab < -1) = false := by simp; omega
          have q1 : decide (1 < ab) = false := by simp; omega
          have q2 : (ab == 0) = false := by simp; omega
          have q3 : decide (ab ≤ 0) = true := by simp; omega
          have q4 : decide (0 ≤ ab) = false := by simp; omega
          have q5 : IntKind.i64.wrap (-ab) = -ab := by rw [IntKind.wrap_i64]; omega
          have q6 : wrap64 (-ab) = -ab := by unfold wrap64; omega
          have q7 : decide (bc ≤ 0) = true := by simp; omega
          have q8 : decide (0 < ac) = false := by simp; omega
          clear tr1 tr2 e0 g1 g2 g3 g4 ha hc lac
          go_wp2_with fail
          refine (C3.out _).mono ?_
          rintro e u1 ⟨rfl, hb⟩
          have Lu1 := hid (hb)
          clear hb ha0 ha1 hb0 hb1 hc0 hc1 hz
          obtain ⟨ha0, ha1, hb0, hb1, hc0, hc1, hz⟩ := PA.out u1 (below_step BV2.out Lu1.out)
          go_wp2_with fail
          refine (C4.out _).mono ?_
          rintro e u2 ⟨rfl, hb⟩
          have Lu2 := hid (below_step Lu1.out hb)
          clear hb ha0 ha1 hb0 hb1 hc0 hc1 hz
          obtain ⟨ha0, ha1, hb0, hb1, hc0, hc1, hz⟩ := PA.out u2 (below_step BV2.out Lu2.out)
          go_wp2_with fail
          refine (C5.out _).mono ?_
          rintro e u3 ⟨rfl, hb⟩
          have Lu3 := hid (below_step Lu2.out hb)
          clear hb ha0 ha1 hb0 hb1 hc0 hc1 hz
          obtain ⟨ha0, ha1, hb0, hb1, hc0, hc1, hz⟩ := PA.out u3 (below_step BV2.out Lu3.out)
          go_wp2_with fail
          go_meet
          exact ⟨rfl, Lu3.out⟩
        · skip
          as_aux_lemma =>
          have q0 : decide (ab < -1) = false := by simp; omega
          have q1 : decide (1 < ab) = false := by simp; omega
          have q2 : (ab == 0) = false := by simp; omega
          have q3 : decide (ab ≤ 0) = true := by simp; omega
          have q4 : decide (0 ≤ ab) = false := by simp; omega
          have q5 : IntKind.i64.wrap (-ab) = -ab := by rw [IntKind.wrap_i64]; omega
          have q6 : wrap64 (-ab) = -ab := by unfold wrap64; omega
          have q7 : decide (bc ≤ 0) = false := by simp; omega
          clear tr1 tr2 e0 g1 g2 g3 g4 ha hc
          go_wp2_with fail
          refine (C3.out _).mono ?_
          rintro e u1 ⟨rfl, hb⟩
          have Lu1 := hid (hb)
          clear hb ha0 ha1 hb0 hb1 hc0 hc1 hz
          obtain ⟨ha0, ha1, hb0, hb1, hc0, hc1, hz⟩ := PA.out u1 (below_step BV2.out Lu1.out)
          go_wp2_with fail
          refine (C4.out _).mono ?_
          rintro e u2 ⟨rfl, hb⟩
          have Lu2 := hid (below_step Lu1.out hb)
          clear hb ha0 ha1 hb0 hb1 hc0 hc1 hz
          obtain ⟨ha0, ha1, hb0, hb1, hc0, hc1, hz⟩ := PA.out u2 (below_step BV2.out Lu2.out)
          go_wp2_with fail
          go_meet
          exact ⟨rfl, Lu2.out⟩
      · skip
        have yy0 : (aN == bN) = false := by simpa using hN
        have yy1 : decide (aN = bN) = false := by simpa using hN
        clear hN hne
        by_cases hc : bc ≤ 0
        · skip
          as_aux_lemma =>
          have lac := tr1 (by omega) hc
          have q0 : decide (ab < -1) = false := by simp; omega
          have q1 : decide (1 < ab) = false := by simp; omega
          have q2 : (ab == 0) = false := by simp; omega
          have q3 : decide (ab ≤ 0) = true := by simp; omega
          have q4 : decide (0 ≤ ab) = false := by simp; omega
          have q5 : IntKind.i64.wrap (-ab) = -ab := by rw [IntKind.wrap_i64]; omega
          have q6 : wrap64 (-ab) = -ab := by unfold wrap64; omega
          have q7 : decide (bc ≤ 0) = true := by simp; omega
          have q8 : decide (0 < ac) = false := by simp; omega
          clear tr1 tr2 e0 g1 g2 g3 g4 ha hc lac
          go_wp2_with fail
          refine (C3.out _).mono ?_
          rintro e u1 ⟨rfl, hb⟩
          have Lu1 := hid (hb)
          clear hb ha0 ha1 hb0 hb1 hc0 hc1 hz
          obtain ⟨ha0, ha1, hb0, hb1, hc0, hc1, hz⟩ := PA.out u1 (below_step BV2.out Lu1.out)
          go_wp2_with fail
          refine (C4.out _).mono ?_
          rintro e u2 ⟨rfl, hb⟩
          have Lu2 := hid (below_step Lu1.out hb)
          clear hb ha0 ha1 hb0 hb1 hc0 hc1 hz
          obtain ⟨ha0, ha1, hb0, hb1, hc0, hc1, hz⟩ := PA.out u2 (below_step BV2.out Lu2.out)
          go_wp2_with fail
          refine (C5.out _).mono ?_
          rintro e u3 ⟨rfl, hb⟩
          have Lu3 := hid (below_step Lu2.out hb)
          clear hb ha0 ha1 hb0 hb1 hc0 hc1 hz
          obtain ⟨ha0, ha1, hb0, hb1, hc0, hc1, hz⟩ := PA.out u3 (below_step BV2.out Lu3.out)
          go_wp2_with fail
          go_meet
          exact ⟨rfl, Lu3.out⟩
        · skip
          as_aux_lemma =>
          have q0 : decide (ab < -1) = false := by simp; omega
          have q1 : decide (1 < ab) = false := by simp; omega
          have q2 : (ab == 0) = false := by simp; omega
          have q3 : decide (ab ≤ 0) = true := by simp; omega
          have q4 : decide (0 ≤ ab) = false := by simp; omega
          have q5 : IntKind.i64.wrap (-ab) = -ab := by rw [IntKind.wrap_i64]; omega
          have q6 : wrap64 (-ab) = -ab := by unfold wrap64; omega
          have q7 : decide (bc ≤ 0) = false := by simp; omega
          clear tr1 tr2 e0 g1 g2 g3 g4 ha hc
          go_wp2_with fail
          refine (C3.out _).mono ?_
          rintro e u1 ⟨rfl, hb⟩
          have Lu1 := hid (hb)
          clear hb ha0 ha1 hb0 hb1 hc0 hc1 hz
          obtain ⟨ha0, ha1, hb0, hb1, hc0, hc1, hz⟩ := PA.out u1 (below_step BV2.out Lu1.out)
          go_wp2_with fail
          refine (C4.out _).mono ?_
          rintro e u2 ⟨rfl, hb⟩
          have Lu2 := hid (below_step Lu1.out hb)
          clear hb ha0 ha1 hb0 hb1 hc0 hc1 hz
          obtain ⟨ha0, ha1, hb0, hb1, hc0, hc1, hz⟩ := PA.out u2 (below_step BV2.out Lu2.out)
          go_wp2_with fail
          go_meet
          exact ⟨rfl, Lu2.out⟩
    · have hN := (e0.1 ha).1
      have hD := (e0.1 ha).2
      have yy0 : (aN == bN) = true := by simpa using hN
      have yy1 : decide (aN = bN) = true := by simpa using hN
      have yy2 : (aD == bD) = true := by simpa using hD
      have yy3 : decide (aD = bD) = true := by simpa using hD
      clear hN hD
      rcases (show bc = -1 ∨ bc = 0 ∨ bc = 1 by omega) with hc | hc | hc
      · skip
        as_aux_lemma =>
        have lac := tr1 (by omega) (by omega)
        have q0 : decide (ab < -1) = false := by simp; omega
        have q1 : decide (1 < ab) = false := by simp; omega
        have q2 : (ab == 0) = true := by simp; omega
        have q3 : decide (ab ≤ 0) = true := by simp; omega
        have q4 : decide (0 ≤ ab) = true := by simp; omega
        have q5 : IntKind.i64.wrap (-ab) = -ab := by rw [IntKind.wrap_i64]; omega
        have q6 : wrap64 (-ab) = -ab := by unfold wrap64; omega
        have q7 : decide (bc ≤ 0) = true := by simp; omega
        have q8 : decide (0 ≤ bc) = false := by simp; omega
        have q9 : decide (0 < ac) = false := by simp; omega
        clear tr1 tr2 e0 g1 g2 g3 g4 ha hc lac
        go_wp2_with fail
        refine (C3.out _).mono ?_
        rintro e u1 ⟨rfl, hb⟩
        have Lu1 := hid (hb)
        clear hb ha0 ha1 hb0 hb1 hc0 hc1 hz
        obtain ⟨ha0, ha1, hb0, hb1, hc0, hc1, hz⟩ := PA.out u1 (below_step BV2.out Lu1.out)
        go_wp2_with fail
        refine (C4.out _).mono ?_
        rintro e u2 ⟨rfl, hb⟩
        have Lu2 := hid (below_step Lu1.out hb)
        clear hb ha0 ha1 hb0 hb1 hc0 hc1 hz
        obtain ⟨ha0, ha1, hb0, hb1, hc0, hc1, hz⟩ := PA.out u2 (below_step BV2.out Lu2.out)
        go_wp2_with fail
        refine (C5.out _).mono ?_
        rintro e u3 ⟨rfl, hb⟩
        have Lu3 := hid (below_step Lu2.out hb)
        clear hb ha0 ha1 hb0 hb1 hc0 hc1 hz
        obtain ⟨ha0, ha1, hb0, hb1, hc0, hc1, hz⟩ := PA.out u3 (below_step BV2.out Lu3.out)
        go_wp2_with fail
        go_meet
        exact ⟨rfl, Lu3.out⟩
      · skip
        as_aux_lemma =>
        have lac := tr1 (by omega) (by omega)
        have gac := tr2 (by omega) (by omega)
        have q0 : decide (ab < -1) = false := by simp; omega
        have q1 : decide (1 < ab) = false := by simp; omega
        have q2 : (ab == 0) = true := by simp; omega
        have q3 : decide (ab ≤ 0) = true := by simp; omega
        have q4 : decide (0 ≤ ab) = true := by simp; omega
        have q5 : IntKind.i64.wrap (-ab) = -ab := by rw [IntKind.wrap_i64]; omega
        have q6 : wrap64 (-ab) = -ab := by unfold wrap64; omega
        have q7 : decide (bc ≤ 0) = true := by simp; omega
        have q8 : decide (0 ≤ bc) = true := by simp; omega
        have q9 : decide (0 < ac) = false := by simp; omega
        have q10 : decide (ac < 0) = false := by simp; omega
        clear tr1 tr2 e0 g1 g2 g3 g4 ha hc lac gac
        go_wp2_with fail
        refine (C3.out _).mono ?_
        rintro e u1 ⟨rfl, hb⟩
        have Lu1 := hid (hb)
        clear hb ha0 ha1 hb0 hb1 hc0 hc1 hz
        obtain ⟨ha0, ha1, hb0, hb1, hc0, hc1, hz⟩ := PA.out u1 (below_step BV2.out Lu1.out)
        go_wp2_with fail
        refine (C4.out _).mono ?_
        rintro e u2 ⟨rfl, hb⟩
        have Lu2 := hid (below_step Lu1.out hb)
        clear hb ha0 ha1 hb0 hb1 hc0 hc1 hz
        obtain ⟨ha0, ha1, hb0, hb1, hc0, hc1, hz⟩ := PA.out u2 (below_step BV2.out Lu2.out)
        go_wp2_with fail
        refine (C5.out _).mono ?_
        rintro e u3 ⟨rfl, hb⟩
        have Lu3 := hid (below_step Lu2.out hb)
        clear hb ha0 ha1 hb0 hb1 hc0 hc1 hz
        obtain ⟨ha0, ha1, hb0, hb1, hc0, hc1, hz⟩ := PA.out u3 (below_step BV2.out Lu3.out)
        go_wp2_with fail
        refine (C5.out _).mono ?_
        rintro e u4 ⟨rfl, hb⟩
        have Lu4 := hid (below_step Lu3.out hb)
        clear hb ha0 ha1 hb0 hb1 hc0 hc1 hz
        obtain ⟨ha0, ha1, hb0, hb1, hc0, hc1, hz⟩ := PA.out u4 (below_step BV2.out Lu4.out)
        go_wp2_with fail
        go_meet
        exact ⟨rfl, Lu4.out⟩
      · skip
        as_aux_lemma =>
        have gac := tr2 (by omega) (by omega)
        have q0 : decide (ab < -1) = false := by simp; omega
        have q1 : decide (1 < ab) = false := by simp; omega
        have q2 : (ab == 0) = true := by simp; omega
        have q3 : decide (ab ≤ 0) = true := by simp; omega
        have q4 : decide (0 ≤ ab) = true := by simp; omega
        have q5 : IntKind.i64.wrap (-ab) = -ab := by rw [IntKind.wrap_i64]; omega
        have q6 : wrap64 (-ab) = -ab := by unfold wrap64; omega
        have q7 : decide (bc ≤ 0) = false := by simp; omega
        have q8 : decide (0 ≤ bc) = true := by simp; omega
        have q9 : decide (ac < 0) = false := by simp; omega
        clear tr1 tr2 e0 g1 g2 g3 g4 ha hc gac
        go_wp2_with fail
        refine (C3.out _).mono ?_
        rintro e u1 ⟨rfl, hb⟩
        have Lu1 := hid (hb)
        clear hb ha0 ha1 hb0 hb1 hc0 hc1 hz
        obtain ⟨ha0, ha1, hb0, hb1, hc0, hc1, hz⟩ := PA.out u1 (below_step BV2.out Lu1.out)
        go_wp2_with fail
        refine (C4.out _).mono ?_
        rintro e u2 ⟨rfl, hb⟩
        have Lu2 := hid (below_step Lu1.out hb)
        clear hb ha0 ha1 hb0 hb1 hc0 hc1 hz
        obtain ⟨ha0, ha1, hb0, hb1, hc0, hc1, hz⟩ := PA.out u2 (below_step BV2.out Lu2.out)
        go_wp2_with fail
        refine (C5.out _).mono ?_
        rintro e u3 ⟨rfl, hb⟩
        have Lu3 := hid (below_step Lu2.out hb)
        clear hb ha0 ha1 hb0 hb1 hc0 hc1 hz
        obtain ⟨ha0, ha1, hb0, hb1, hc0, hc1, hz⟩ := PA.out u3 (below_step BV2.out Lu3.out)
        go_wp2_with fail
        go_meet
        exact ⟨rfl, Lu3.out⟩
    · have hne : ¬ (aN = bN ∧ aD = bD) := fun k => by have := e0.2 k; omega
      by_cases hN : aN = bN
      · skip
        have hD : ¬ aD = bD := fun k => hne ⟨hN, k⟩
        have yy0 : (aN == bN) = true := by simpa using hN
        have yy1 : decide (aN = bN) = true := by simpa using hN
        have yy2 : (aD == bD) = false := by simpa using hD
        have yy3 : decide (aD = bD) = false := by simpa using hD
        clear hN hne hD
        by_cases hc : 0 ≤ bc
        · skip
          as_aux_lemma =>
          have lac := tr2 (by omega) hc
          have q0 : decide (ab < -1) = false := by simp; omega
          have q1 : decide (1 < ab) = false := by simp; omega
          have q2 : (ab == 0) = false := by simp; omega
          have q3 : decide (ab ≤ 0) = false := by simp; omega
          have q4 : decide (0 ≤ ab) = true := by simp; omega
          have q5 : IntKind.i64.wrap (-ab) = -ab := by rw [IntKind.wrap_i64]; omega
          have q6 : wrap64 (-ab) = -ab := by unfold wrap64; omega
          have q7 : decide (0 ≤ bc) = true := by simp; omega
          have q8 : decide (ac < 0) = false := by simp; omega
          clear tr1 tr2 e0 g1 g2 g3 g4 ha hc lac
          go_wp2_with fail
          refine (C3.out _).mono ?_
          rintro e u1 ⟨rfl, hb⟩
          have Lu1 := hid (hb)
          clear hb ha0 ha1 hb0 hb1 hc0 hc1 hz
          obtain ⟨ha0, ha1, hb0, hb1, hc0, hc1, hz⟩ := PA.out u1 (below_step BV2.out Lu1.out)
          go_wp2_with fail
          refine (C4.out _).mono ?_
          rintro e u2 ⟨rfl, hb⟩
          have Lu2 := hid (below_step Lu1.out hb)
          clear hb ha0 ha1 hb0 hb1 hc0 hc1 hz
          obtain ⟨ha0, ha1, hb0, hb1, hc0, hc1, hz⟩ := PA.out u2 (below_step BV2.out Lu2.out)
          go_wp2_with fail
          refine (C5.out _).mono ?_
          rintro e u3 ⟨rfl, hb⟩
          have Lu3 := hid (below_step Lu2.out hb)
          clear hb ha0 ha1 hb0 hb1 hc0 hc1 hz
          obtain ⟨ha0, ha1, hb0, hb1, hc0, hc1, hz⟩ := PA.out u3 (below_step BV2.out Lu3.out)
          go_wp2_with fail
          go_meet
          exact ⟨rfl, Lu3.out⟩
        · skip
          as_aux_lemma =>
          have q0 : decide (ab < -1) = false := by simp; omega
          have q1 : decide (1 < ab) = false := by simp; omega
          have q2 : (ab == 0) = false := by simp; omega
          have q3 : decide (ab ≤ 0) = false := by simp; omega
          have q4 : decide (0 ≤ ab) = true := by simp; omega
          have q5 : IntKind.i64.wrap (-ab) = -ab := by rw [IntKind.wrap_i64]; omega
          have q6 : wrap64 (-ab) = -ab := by unfold wrap64; omega
          have q7 : decide (0 ≤ bc) = false := by simp; omega
          clear tr1 tr2 e0 g1 g2 g3 g4 ha hc
          go_wp2_with fail
          refine (C3.out _).mono ?_
          rintro e u1 ⟨rfl, hb⟩
          have Lu1 := hid (hb)
          clear hb ha0 ha1 hb0 hb1 hc0 hc1 hz
          obtain ⟨ha0, ha1, hb0, hb1, hc0, hc1, hz⟩ := PA.out u1 (below_step BV2.out Lu1.out)
          go_wp2_with fail
          refine (C4.out _).mono ?_
          rintro e u2 ⟨rfl, hb⟩
          have Lu2 := hid (below_step Lu1.out hb)
          clear hb ha0 ha1 hb0 hb1 hc0 hc1 hz
          obtain ⟨ha0, ha1, hb0, hb1, hc0, hc1, hz⟩ := PA.out u2 (below_step BV2.out Lu2.out)
          go_wp2_with fail
          go_meet
          exact ⟨rfl, Lu2.out⟩
      · skip
        have yy0 : (aN == bN) = false := by simpa using hN
        have yy1 : decide (aN = bN) = false := by simpa using hN
        clear hN hne
        by_cases hc : 0 ≤ bc
        · skip
          as_aux_lemma =>
          have lac := tr2 (by omega) hc
          have q0 : decide (ab < -1) = false := by simp; omega
          have q1 : decide (1 < ab) = false := by simp; omega
          have q2 : (ab == 0) = false := by simp; omega
          have q3 : decide (ab ≤ 0) = false := by simp; omega
          have q4 : decide (0 ≤ ab) = true := by simp; omega
          have q5 : IntKind.i64.wrap (-ab) = -ab := by rw [IntKind.wrap_i64]; omega
          have q6 : wrap64 (-ab) = -ab := by unfold wrap64; omega
          have q7 : decide (0 ≤ bc) = true := by simp; omega
          have q8 : decide (ac < 0) = false := by simp; omega
          clear tr1 tr2 e0 g1 g2 g3 g4 ha hc lac
          go_wp2_with fail
          refine (C3.out _).mono ?_
          rintro e u1 ⟨rfl, hb⟩
          have Lu1 := hid (hb)
          clear hb ha0 ha1 hb0 hb1 hc0 hc1 hz
          obtain ⟨ha0, ha1, hb0, hb1, hc0, hc1, hz⟩ := PA.out u1 (below_step BV2.out Lu1.out)
          go_wp2_with fail
          refine (C4.out _).mono ?_
          rintro e u2 ⟨rfl, hb⟩
          have Lu2 := hid (below_step Lu1.out hb)
          clear hb ha0 ha1 hb0 hb1 hc0 hc1 hz
          obtain ⟨ha0, ha1, hb0, hb1, hc0, hc1, hz⟩ := PA.out u2 (below_step BV2.out Lu2.out)
          go_wp2_with fail
          refine (C5.out _).mono ?_
          rintro e u3 ⟨rfl, hb⟩
          have Lu3 := hid (below_step Lu2.out hb)
          clear hb ha0 ha1 hb0 hb1 hc0 hc1 hz
          obtain ⟨ha0, ha1, hb0, hb1, hc0, hc1, hz⟩ := PA.out u3 (below_step BV2.out Lu3.out)
          go_wp2_with fail
          go_meet
          exact ⟨rfl, Lu3.out⟩
        · skip
          as_aux_lemma =>
          have q0 : decide (ab < -1) = false := by simp; omega
          have q1 : decide (1 < ab) = false := by simp; omega
          have q2 : (ab == 0) = false := by simp; omega
          have q3 : decide (ab ≤ 0) = false := by simp; omega
          have q4 : decide (0 ≤ ab) = true := by simp; omega
          have q5 : IntKind.i64.wrap (-ab) = -ab := by rw [IntKind.wrap_i64]; omega
          have q6 : wrap64 (-ab) = -ab := by unfold wrap64; omega
          have q7 : decide (0 ≤ bc) = false := by simp; omega
          clear tr1 tr2 e0 g1 g2 g3 g4 ha hc
          go_wp2_with fail
          refine (C3.out _).mono ?_
          rintro e u1 ⟨rfl, hb⟩
          have Lu1 := hid (hb)
          clear hb ha0 ha1 hb0 hb1 hc0 hc1 hz
          obtain ⟨ha0, ha1, hb0, hb1, hc0, hc1, hz⟩ := PA.out u1 (below_step BV2.out Lu1.out)
          go_wp2_with fail
          refine (C4.out _).mono ?_
          rintro e u2 ⟨rfl, hb⟩
          have Lu2 := hid (below_step Lu1.out hb)
          clear hb ha0 ha1 hb0 hb1 hc0 hc1 hz
          obtain ⟨ha0, ha1, hb0, hb1, hc0, hc1, hz⟩ := PA.out u2 (below_step BV2.out Lu2.out)
          go_wp2_with fail
          go_meet
          exact ⟨rfl, Lu2.out⟩
  case rest =>
  obtain ⟨rfl, hC⟩ := hcut
  clear ha0 ha1 hb0 hb1 hc0 hc1 hz
  obtain ⟨wB, rfl⟩ : ∃ wB : World, wB = wc := ⟨_, rfl⟩
  have BC := hid (below_step BV2.out hC)
  have TB := hid (below_step TV2.out hC)
  clear hC
  obtain ⟨ha0, ha1, hb0, hb1, hc0, hc1, hz⟩ := PA.out wB BC.out
  go_wp2_with fail
  refine (D1.out _).mono ?_
  rintro e v3 ⟨rfl, hb⟩
  have Cv3 := hid (below_step BC.out hb)
  have Tv3 := hid (below_step TB.out hb)
  clear hb ha0 ha1 hb0 hb1 hc0 hc1 hz
  go_upto_region 12 with fail
  generalize hw : v3.alloc (.cells #[.int .i64 dN, .int .i64 dD, .int .i64 dE] 29) = wD
  have h2 : Below v3.heap.size v3 wD := by rw [← hw]; exact ((Below.refl _ _).alloc (by first | exact Nat.le_refl _ | (simp; done) | (simp; omega) | omega | (simp [World.drewN]; omega)) _)
  have hp := PA.out wD (below_step Cv3.out h2)
  have PB := hid (fun V (hV : Below wD.heap.size wD V) => show V.cell? ⟨w2.heap.size, 0, none⟩ = some (.int .i64 aN) ∧ V.cell? ⟨w2.heap.size, 1, none⟩ = some (.int .i64 aD) ∧ V.cell? ⟨w3.heap.size, 0, none⟩ = some (.int .i64 bN) ∧ V.cell? ⟨w3.heap.size, 1, none⟩ = some (.int .i64 bD) ∧ V.cell? ⟨w4.heap.size, 0, none⟩ = some (.int .i64 cN) ∧ V.cell? ⟨w4.heap.size, 1, none⟩ = some (.int .i64 cD) ∧ V.cell? ⟨v3.heap.size, 0, none⟩ = some (.int .i64 dN) ∧ V.cell? ⟨v3.heap.size, 1, none⟩ = some (.int .i64 dD) ∧ V.cell? ⟨v3.heap.size, 2, none⟩ = some (.int .i64 dE) ∧ wD.heap.size ≤ V.heap.size from ⟨cell_below hV hp.1, cell_below hV hp.2.1, cell_below hV hp.2.2.1, cell_below hV hp.2.2.2.1, cell_below hV hp.2.2.2.2.1, cell_below hV hp.2.2.2.2.2.1, cell_below hV (show wD.cell? ⟨v3.heap.size, 0, none⟩ = some (.int .i64 dN) by rw [← hw]; simp [go_sem]), cell_below hV (show wD.cell? ⟨v3.heap.size, 1, none⟩ = some (.int .i64 dD) by rw [← hw]; simp [go_sem]), cell_below hV (show wD.cell? ⟨v3.heap.size, 2, none⟩ = some (.int .i64 dE) by rw [← hw]; simp [go_sem]), hV.size⟩)
  have TD := hid (below_step Tv3.out h2)
  clear hw h2 hp
  obtain ⟨ha0, ha1, hb0, hb1, hc0, hc1, hd0, hd1, hd2, hz⟩ := PB.out wD (Below.refl _ _)
  go_cut [128] (fun s wx => s = .bool false ∧ Below wD.heap.size wD wx)
  case first =>
    rcases ED.out with hdE | hdE
    · as_aux_lemma =>
      have sg := SG.out hdE
      have z0 : (dE == 0) = true := by rw [hdE]; rfl
      have z1 : (dE != 0) = false := by rw [hdE]; rfl
      have z2 : decide (0 < dN) = decide (0 < ab) := decide_eq_decide.2 sg.1
      have z3 : decide (dN < 0) = decide (ab < 0) := decide_eq_decide.2 sg.2
      clear sg hdE
      go_wp2_with fail
      go_meet
      exact ⟨rfl, Below.refl _ _⟩
    · as_aux_lemma =>
      have z0 : (dE == 0) = false := by rw [hdE]; rfl
      have z1 : (dE != 0) = true := by rw [hdE]; rfl
      clear hdE
      go_wp2_with fail
      go_meet
      exact ⟨rfl, Below.refl _ _⟩
  case rest =>
  obtain ⟨rfl, hC⟩ := hcut
  clear ha0 ha1 hb0 hb1 hc0 hc1 hd0 hd1 hd2 hz
  obtain ⟨wE, rfl⟩ : ∃ wE : World, wE = wc := ⟨_, rfl⟩
  have BE := hid (hC)
  have TE := hid (below_step TD.out hC)
  clear hC
  obtain ⟨ha0, ha1, hb0, hb1, hc0, hc1, hd0, hd1, hd2, hz⟩ := PB.out wE BE.out
  go_wp2_with fail
  refine (S1.out _).mono ?_
  rintro e v4 ⟨rfl, hb⟩
  have Cv4 := hid (below_step BE.out hb)
  have Tv4 := hid (below_step TE.out hb)
  clear hb ha0 ha1 hb0 hb1 hc0 hc1 hd0 hd1 hd2 hz
  go_upto_region 15 with fail
  generalize hw : v4.alloc (.cells #[.int .i64 sN, .int .i64 sD, .int .i64 sE] 29) = wF
  have h2 : Below v4.heap.size v4 wF := by rw [← hw]; exact ((Below.refl _ _).alloc (by first | exact Nat.le_refl _ | (simp; done) | (simp; omega) | omega | (simp [World.drewN]; omega)) _)
  have hp := PB.out wF (below_step Cv4.out h2)
  have PC := hid (fun V (hV : Below wF.heap.size wF V) => show V.cell? ⟨w2.heap.size, 0, none⟩ = some (.int .i64 aN) ∧ V.cell? ⟨w2.heap.size, 1, none⟩ = some (.int .i64 aD) ∧ V.cell? ⟨w3.heap.size, 0, none⟩ = some (.int .i64 bN) ∧ V.cell? ⟨w3.heap.size, 1, none⟩ = some (.int .i64 bD) ∧ V.cell? ⟨w4.heap.size, 0, none⟩ = some (.int .i64 cN) ∧ V.cell? ⟨w4.heap.size, 1, none⟩ = some (.int .i64 cD) ∧ V.cell? ⟨v4.heap.size, 0, none⟩ = some (.int .i64 sN) ∧ V.cell? ⟨v4.heap.size, 1, none⟩ = some (.int .i64 sD) ∧ V.cell? ⟨v4.heap.size, 2, none⟩ = some (.int .i64 sE) ∧ wF.heap.size ≤ V.heap.size from ⟨cell_below hV hp.1, cell_below hV hp.2.1, cell_below hV hp.2.2.1, cell_below hV hp.2.2.2.1, cell_below hV hp.2.2.2.2.1, cell_below hV hp.2.2.2.2.2.1, cell_below hV (show wF.cell? ⟨v4.heap.size, 0, none⟩ = some (.int .i64 sN) by rw [← hw]; simp [go_sem]), cell_below hV (show wF.cell? ⟨v4.heap.size, 1, none⟩ = some (.int .i64 sD) by rw [← hw]; simp [go_sem]), cell_below hV (show wF.cell? ⟨v4.heap.size, 2, none⟩ = some (.int .i64 sE) by rw [← hw]; simp [go_sem]), hV.size⟩)
  have TF := hid (below_step Tv4.out h2)
  clear hw h2 hp
  obtain ⟨ha0, ha1, hb0, hb1, hc0, hc1, hs0, hs1, hs2, hz⟩ := PC.out wF (Below.refl _ _)
  go_wp2_with fail
  refine (T1.out _).mono ?_
  rintro e v5 ⟨rfl, hb⟩
  have Cv5 := hid (below_step (Below.refl _ _) hb)
  have Tv5 := hid (below_step TF.out hb)
  clear hb ha0 ha1 hb0 hb1 hc0 hc1 hs0 hs1 hs2 hz
  go_upto_region 16 with fail
  generalize hw : v5.alloc (.cells #[.int .i64 tN, .int .i64 tD, .int .i64 tE] 29) = wG
  have h2 : Below v5.heap.size v5 wG := by rw [← hw]; exact ((Below.refl _ _).alloc (by first | exact Nat.le_refl _ | (simp; done) | (simp; omega) | omega | (simp [World.drewN]; omega)) _)
  have hp := PC.out wG (below_step Cv5.out h2)
  have PD := hid (fun V (hV : Below wG.heap.size wG V) => show V.cell? ⟨w2.heap.size, 0, none⟩ = some (.int .i64 aN) ∧ V.cell? ⟨w2.heap.size, 1, none⟩ = some (.int .i64 aD) ∧ V.cell? ⟨w3.heap.size, 0, none⟩ = some (.int .i64 bN) ∧ V.cell? ⟨w3.heap.size, 1, none⟩ = some (.int .i64 bD) ∧ V.cell? ⟨w4.heap.size, 0, none⟩ = some (.int .i64 cN) ∧ V.cell? ⟨w4.heap.size, 1, none⟩ = some (.int .i64 cD) ∧ V.cell? ⟨v4.heap.size, 0, none⟩ = some (.int .i64 sN) ∧ V.cell? ⟨v4.heap.size, 1, none⟩ = some (.int .i64 sD) ∧ V.cell? ⟨v4.heap.size, 2, none⟩ = some (.int .i64 sE) ∧ V.cell? ⟨v5.heap.size, 0, none⟩ = some (.int .i64 tN) ∧ V.cell? ⟨v5.heap.size, 1, none⟩ = some (.int .i64 tD) ∧ V.cell? ⟨v5.heap.size, 2, none⟩ = some (.int .i64 tE) ∧ wG.heap.size ≤ V.heap.size from ⟨cell_below hV hp.1, cell_below hV hp.2.1, cell_below hV hp.2.2.1, cell_below hV hp.2.2.2.1, cell_below hV hp.2.2.2.2.1, cell_below hV hp.2.2.2.2.2.1, cell_below hV hp.2.2.2.2.2.2.1, cell_below hV hp.2.2.2.2.2.2.2.1, cell_below hV hp.2.2.2.2.2.2.2.2.1, cell_below hV (show wG.cell? ⟨v5.heap.size, 0, none⟩ = some (.int .i64 tN) by rw [← hw]; simp [go_sem]), cell_below hV (show wG.cell? ⟨v5.heap.size, 1, none⟩ = some (.int .i64 tD) by rw [← hw]; simp [go_sem]), cell_below hV (show wG.cell? ⟨v5.heap.size, 2, none⟩ = some (.int .i64 tE) by rw [← hw]; simp [go_sem]), hV.size⟩)
  have TG := hid (below_step Tv5.out h2)
  clear hw h2 hp
  obtain ⟨ha0, ha1, hb0, hb1, hc0, hc1, hs0, hs1, hs2, ht0, ht1, ht2, hz⟩ := PD.out wG (Below.refl _ _)
  go_wp2_with fail
  refine (P1.out _).mono ?_
  rintro e v6 ⟨rfl, hb⟩
  have Cv6 := hid (below_step (Below.refl _ _) hb)
  have Tv6 := hid (below_step TG.out hb)
  clear hb ha0 ha1 hb0 hb1 hc0 hc1 hs0 hs1 hs2 ht0 ht1 ht2 hz
  go_upto_region 17 with fail
  generalize hw : v6.alloc (.cells #[.int .i64 pN, .int .i64 pD, .int .i64 pE] 29) = wH
  have h2 : Below v6.heap.size v6 wH := by rw [← hw]; exact ((Below.refl _ _).alloc (by first | exact Nat.le_refl _ | (simp; done) | (simp; omega) | omega | (simp [World.drewN]; omega)) _)
  have hp := PD.out wH (below_step Cv6.out h2)
  have PE := hid (fun V (hV : Below wH.heap.size wH V) => show V.cell? ⟨w2.heap.size, 0, none⟩ = some (.int .i64 aN) ∧ V.cell? ⟨w2.heap.size, 1, none⟩ = some (.int .i64 aD) ∧ V.cell? ⟨w3.heap.size, 0, none⟩ = some (.int .i64 bN) ∧ V.cell? ⟨w3.heap.size, 1, none⟩ = some (.int .i64 bD) ∧ V.cell? ⟨w4.heap.size, 0, none⟩ = some (.int .i64 cN) ∧ V.cell? ⟨w4.heap.size, 1, none⟩ = some (.int .i64 cD) ∧ V.cell? ⟨v4.heap.size, 0, none⟩ = some (.int .i64 sN) ∧ V.cell? ⟨v4.heap.size, 1, none⟩ = some (.int .i64 sD) ∧ V.cell? ⟨v4.heap.size, 2, none⟩ = some (.int .i64 sE) ∧ V.cell? ⟨v5.heap.size, 0, none⟩ = some (.int .i64 tN) ∧ V.cell? ⟨v5.heap.size, 1, none⟩ = some (.int .i64 tD) ∧ V.cell? ⟨v5.heap.size, 2, none⟩ = some (.int .i64 tE) ∧ V.cell? ⟨v6.heap.size, 0, none⟩ = some (.int .i64 pN) ∧ V.cell? ⟨v6.heap.size, 1, none⟩ = some (.int .i64 pD) ∧ V.cell? ⟨v6.heap.size, 2, none⟩ = some (.int .i64 pE) ∧ wH.heap.size ≤ V.heap.size from ⟨cell_below hV hp.1, cell_below hV hp.2.1, cell_below hV hp.2.2.1, cell_below hV hp.2.2.2.1, cell_below hV hp.2.2.2.2.1, cell_below hV hp.2.2.2.2.2.1, cell_below hV hp.2.2.2.2.2.2.1, cell_below hV hp.2.2.2.2.2.2.2.1, cell_below hV hp.2.2.2.2.2.2.2.2.1, cell_below hV hp.2.2.2.2.2.2.2.2.2.1, cell_below hV hp.2.2.2.2.2.2.2.2.2.2.1, cell_below hV hp.2.2.2.2.2.2.2.2.2.2.2.1, cell_below hV (show wH.cell? ⟨v6.heap.size, 0, none⟩ = some (.int .i64 pN) by rw [← hw]; simp [go_sem]), cell_below hV (show wH.cell? ⟨v6.heap.size, 1, none⟩ = some (.int .i64 pD) by rw [← hw]; simp [go_sem]), cell_below hV (show wH.cell? ⟨v6.heap.size, 2, none⟩ = some (.int .i64 pE) by rw [← hw]; simp [go_sem]), hV.size⟩)
  have TH := hid (below_step Tv6.out h2)
  clear hw h2 hp
  obtain ⟨ha0, ha1, hb0, hb1, hc0, hc1, hs0, hs1, hs2, ht0, ht1, ht2, hp0, hp1, hp2, hz⟩ := PE.out wH (Below.refl _ _)
  go_wp2_with fail
  refine (Q1.out _).mono ?_
  rintro e v7 ⟨rfl, hb⟩
  have Cv7 := hid (below_step (Below.refl _ _) hb)
  have Tv7 := hid (below_step TH.out hb)
  clear hb ha0 ha1 hb0 hb1 hc0 hc1 hs0 hs1 hs2 ht0 ht1 ht2 hp0 hp1 hp2 hz
  go_upto_region 18 with fail
  generalize hw : v7.alloc (.cells #[.int .i64 qN, .int .i64 qD, .int .i64 qE] 29) = wI
  have h2 : Below v7.heap.size v7 wI := by rw [← hw]; exact ((Below.refl _ _).alloc (by first | exact Nat.le_refl _ | (simp; done) | (simp; omega) | omega | (simp [World.drewN]; omega)) _)
  have hp := PE.out wI (below_step Cv7.out h2)
  have PF := hid (fun V (hV : Below wI.heap.size wI V) => show V.cell? ⟨w2.heap.size, 0, none⟩ = some (.int .i64 aN) ∧ V.cell? ⟨w2.heap.size, 1, none⟩ = some (.int .i64 aD) ∧ V.cell? ⟨w3.heap.size, 0, none⟩ = some (.int .i64 bN) ∧ V.cell? ⟨w3.heap.size, 1, none⟩ = some (.int .i64 bD) ∧ V.cell? ⟨w4.heap.size, 0, none⟩ = some (.int .i64 cN) ∧ V.cell? ⟨w4.heap.size, 1, none⟩ = some (.int .i64 cD) ∧ V.cell? ⟨v4.heap.size, 0, none⟩ = some (.int .i64 sN) ∧ V.cell? ⟨v4.heap.size, 1, none⟩ = some (.int .i64 sD) ∧ V.cell? ⟨v4.heap.size, 2, none⟩ = some (.int .i64 sE) ∧ V.cell? ⟨v5.heap.size, 0, none⟩ = some (.int .i64 tN) ∧ V.cell? ⟨v5.heap.size, 1, none⟩ = some (.int .i64 tD) ∧ V.cell? ⟨v5.heap.size, 2, none⟩ = some (.int .i64 tE) ∧ V.cell? ⟨v6.heap.size, 0, none⟩ = some (.int .i64 pN) ∧ V.cell? ⟨v6.heap.size, 1, none⟩ = some (.int .i64 pD) ∧ V.cell? ⟨v6.heap.size, 2, none⟩ = some (.int .i64 pE) ∧ V.cell? ⟨v7.heap.size, 0, none⟩ = some (.int .i64 qN) ∧ V.cell? ⟨v7.heap.size, 1, none⟩ = some (.int .i64 qD) ∧ V.cell? ⟨v7.heap.size, 2, none⟩ = some (.int .i64 qE) ∧ wI.heap.size ≤ V.heap.size from ⟨cell_below hV hp.1, cell_below hV hp.2.1, cell_below hV hp.2.2.1, cell_below hV hp.2.2.2.1, cell_below hV hp.2.2.2.2.1, cell_below hV hp.2.2.2.2.2.1, cell_below hV hp.2.2.2.2.2.2.1, cell_below hV hp.2.2.2.2.2.2.2.1, cell_below hV hp.2.2.2.2.2.2.2.2.1, cell_below hV hp.2.2.2.2.2.2.2.2.2.1, cell_below hV hp.2.2.2.2.2.2.2.2.2.2.1, cell_below hV hp.2.2.2.2.2.2.2.2.2.2.2.1, cell_below hV hp.2.2.2.2.2.2.2.2.2.2.2.2.1, cell_below hV hp.2.2.2.2.2.2.2.2.2.2.2.2.2.1, cell_below hV hp.2.2.2.2.2.2.2.2.2.2.2.2.2.2.1, cell_below hV (show wI.cell? ⟨v7.heap.size, 0, none⟩ = some (.int .i64 qN) by rw [← hw]; simp [go_sem]), cell_below hV (show wI.cell? ⟨v7.heap.size, 1, none⟩ = some (.int .i64 qD) by rw [← hw]; simp [go_sem]), cell_below hV (show wI.cell? ⟨v7.heap.size, 2, none⟩ = some (.int .i64 qE) by rw [← hw]; simp [go_sem]), hV.size⟩)
  have TI := hid (below_step Tv7.out h2)
  clear hw h2 hp
  obtain ⟨ha0, ha1, hb0, hb1, hc0, hc1, hs0, hs1, hs2, ht0, ht1, ht2, hp0, hp1, hp2, hq0, hq1, hq2, hz⟩ := PF.out wI (Below.refl _ _)
  go_cut [181] (fun s wx => s = .bool false ∧ Below wI.heap.size wI wx)
  case first =>
    by_cases hcN : 0 < cN
    · skip
      rcases ES.out with hsE | hsE
      · rcases ET.out with htE | htE
        · skip
          rcases EP.out with hpE | hpE
          · rcases EQ.out with hqE | hqE
            · skip
              as_aux_lemma =>
              have z0 : (sE == 0) = true := by rw [hsE]; rfl
              have z1 : (sE != 0) = false := by rw [hsE]; rfl
              have z2 : (tE == 0) = true := by rw [htE]; rfl
              have z3 : (tE != 0) = false := by rw [htE]; rfl
              have z4 : decide (0 < cN) = true := by simp; omega
              have z5 : (pE == 0) = true := by rw [hpE]; rfl
              have z6 : (pE != 0) = false := by rw [hpE]; rfl
              have z7 : (qE == 0) = true := by rw [hqE]; rfl
              have z8 : (qE != 0) = false := by rw [hqE]; rfl
              go_wp2_with fail
              refine (XA.out hsE htE _).mono ?_
              rintro e u8 ⟨rfl, hb⟩
              have Lu8 := hid (hb)
              clear hb ha0 ha1 hb0 hb1 hc0 hc1 hs0 hs1 hs2 ht0 ht1 ht2 hp0 hp1 hp2 hq0 hq1 hq2 hz
              obtain ⟨ha0, ha1, hb0, hb1, hc0, hc1, hs0, hs1, hs2, ht0, ht1, ht2, hp0, hp1, hp2, hq0, hq1, hq2, hz⟩ := PF.out u8 Lu8.out
              go_wp2_with fail
              refine (XM.out hpE hqE hcN _).mono ?_
              rintro e u9 ⟨rfl, hb⟩
              have Lu9 := hid (below_step Lu8.out hb)
              clear hb ha0 ha1 hb0 hb1 hc0 hc1 hs0 hs1 hs2 ht0 ht1 ht2 hp0 hp1 hp2 hq0 hq1 hq2 hz
              obtain ⟨ha0, ha1, hb0, hb1, hc0, hc1, hs0, hs1, hs2, ht0, ht1, ht2, hp0, hp1, hp2, hq0, hq1, hq2, hz⟩ := PF.out u9 Lu9.out
              go_wp2_with fail
              go_meet
              exact ⟨rfl, Lu9.out⟩
            · skip
              as_aux_lemma =>
              have z0 : (sE == 0) = true := by rw [hsE]; rfl
              have z1 : (sE != 0) = false := by rw [hsE]; rfl
              have z2 : (tE == 0) = true := by rw [htE]; rfl
              have z3 : (tE != 0) = false := by rw [htE]; rfl
              have z4 : decide (0 < cN) = true := by simp; omega
              have z5 : (pE == 0) = true := by rw [hpE]; rfl
              have z6 : (pE != 0) = false := by rw [hpE]; rfl
              have z7 : (qE == 0) = false := by rw [hqE]; rfl
              have z8 : (qE != 0) = true := by rw [hqE]; rfl
              go_wp2_with fail
              refine (XA.out hsE htE _).mono ?_
              rintro e u8 ⟨rfl, hb⟩
              have Lu8 := hid (hb)
              clear hb ha0 ha1 hb0 hb1 hc0 hc1 hs0 hs1 hs2 ht0 ht1 ht2 hp0 hp1 hp2 hq0 hq1 hq2 hz
              obtain ⟨ha0, ha1, hb0, hb1, hc0, hc1, hs0, hs1, hs2, ht0, ht1, ht2, hp0, hp1, hp2, hq0, hq1, hq2, hz⟩ := PF.out u8 Lu8.out
              go_wp2_with fail
              go_meet
              exact ⟨rfl, Lu8.out⟩
          · skip
            as_aux_lemma =>
            have z0 : (sE == 0) = true := by rw [hsE]; rfl
            have z1 : (sE != 0) = false := by rw [hsE]; rfl
            have z2 : (tE == 0) = true := by rw [htE]; rfl
            have z3 : (tE != 0) = false := by rw [htE]; rfl
            have z4 : decide (0 < cN) = true := by simp; omega
            have z5 : (pE == 0) = false := by rw [hpE]; rfl
            have z6 : (pE != 0) = true := by rw [hpE]; rfl
            go_wp2_with fail
            refine (XA.out hsE htE _).mono ?_
            rintro e u8 ⟨rfl, hb⟩
            have Lu8 := hid (hb)
            clear hb ha0 ha1 hb0 hb1 hc0 hc1 hs0 hs1 hs2 ht0 ht1 ht2 hp0 hp1 hp2 hq0 hq1 hq2 hz
            obtain ⟨ha0, ha1, hb0, hb1, hc0, hc1, hs0, hs1, hs2, ht0, ht1, ht2, hp0, hp1, hp2, hq0, hq1, hq2, hz⟩ := PF.out u8 Lu8.out
            go_wp2_with fail
            go_meet
            exact ⟨rfl, Lu8.out⟩
        · skip
          rcases EP.out with hpE | hpE
          · rcases EQ.out with hqE | hqE
            · skip
              as_aux_lemma =>
              have z0 : (sE == 0) = true := by rw [hsE]; rfl
              have z1 : (sE != 0) = false := by rw [hsE]; rfl
              have z2 : (tE == 0) = false := by rw [htE]; rfl
              have z3 : (tE != 0) = true := by rw [htE]; rfl
              have z4 : decide (0 < cN) = true := by simp; omega
              have z5 : (pE == 0) = true := by rw [hpE]; rfl
              have z6 : (pE != 0) = false := by rw [hpE]; rfl
              have z7 : (qE == 0) = true := by rw [hqE]; rfl
              have z8 : (qE != 0) = false := by rw [hqE]; rfl
              go_wp2_with fail
              refine (XM.out hpE hqE hcN _).mono ?_
              rintro e u9 ⟨rfl, hb⟩
              have Lu9 := hid (hb)
              clear hb ha0 ha1 hb0 hb1 hc0 hc1 hs0 hs1 hs2 ht0 ht1 ht2 hp0 hp1 hp2 hq0 hq1 hq2 hz
              obtain ⟨ha0, ha1, hb0, hb1, hc0, hc1, hs0, hs1, hs2, ht0, ht1, ht2, hp0, hp1, hp2, hq0, hq1, hq2, hz⟩ := PF.out u9 Lu9.out
              go_wp2_with fail
              go_meet
              exact ⟨rfl, Lu9.out⟩
            · skip
              as_aux_lemma =>
              have z0 : (sE == 0) = true := by rw [hsE]; rfl
              have z1 : (sE != 0) = false := by rw [hsE]; rfl
              have z2 : (tE == 0) = false := by rw [htE]; rfl
              have z3 : (tE != 0) = true := by rw [htE]; rfl
              have z4 : decide (0 < cN) = true := by simp; omega
              have z5 : (pE == 0) = true := by rw [hpE]; rfl
              have z6 : (pE != 0) = false := by rw [hpE]; rfl
              have z7 : (qE == 0) = false := by rw [hqE]; rfl
              have z8 : (qE != 0) = true := by rw [hqE]; rfl
              go_wp2_with fail
              go_meet
              exact ⟨rfl, Below.refl _ _⟩
          · skip
            as_aux_lemma =>
            have z0 : (sE == 0) = true := by rw [hsE]; rfl
            have z1 : (sE != 0) = false := by rw [hsE]; rfl
            have z2 : (tE == 0) = false := by rw [htE]; rfl
            have z3 : (tE != 0) = true := by rw [htE]; rfl
            have z4 : decide (0 < cN) = true := by simp; omega
            have z5 : (pE == 0) = false := by rw [hpE]; rfl
            have z6 : (pE != 0) = true := by rw [hpE]; rfl
            go_wp2_with fail
            go_meet
            exact ⟨rfl, Below.refl _ _⟩
      · skip
        rcases EP.out with hpE | hpE
        · rcases EQ.out with hqE | hqE
          · skip
            as_aux_lemma =>
            have z0 : (sE == 0) = false := by rw [hsE]; rfl
            have z1 : (sE != 0) = true := by rw [hsE]; rfl
            have z2 : decide (0 < cN) = true := by simp; omega
            have z3 : (pE == 0) = true := by rw [hpE]; rfl
            have z4 : (pE != 0) = false := by rw [hpE]; rfl
            have z5 : (qE == 0) = true := by rw [hqE]; rfl
            have z6 : (qE != 0) = false := by rw [hqE]; rfl
            go_wp2_with fail
            refine (XM.out hpE hqE hcN _).mono ?_
            rintro e u9 ⟨rfl, hb⟩
            have Lu9 := hid (hb)
            clear hb ha0 ha1 hb0 hb1 hc0 hc1 hs0 hs1 hs2 ht0 ht1 ht2 hp0 hp1 hp2 hq0 hq1 hq2 hz
            obtain ⟨ha0, ha1, hb0, hb1, hc0, hc1, hs0, hs1, hs2, ht0, ht1, ht2, hp0, hp1, hp2, hq0, hq1, hq2, hz⟩ := PF.out u9 Lu9.out
            go_wp2_with fail
            go_meet
            exact ⟨rfl, Lu9.out⟩
          · skip
            as_aux_lemma =>
            have z0 : (sE == 0) = false := by rw [hsE]; rfl
            have z1 : (sE != 0) = true := by rw [hsE]; rfl
            have z2 : decide (0 < cN) = true := by simp; omega
            have z3 : (pE == 0) = true := by rw [hpE]; rfl
            have z4 : (pE != 0) = false := by rw [hpE]; rfl
            have z5 : (qE == 0) = false := by rw [hqE]; rfl
            have z6 : (qE != 0) = true := by rw [hqE]; rfl
            go_wp2_with fail
            go_meet
            exact ⟨rfl, Below.refl _ _⟩
        · skip
          as_aux_lemma =>
          have z0 : (sE == 0) = false := by rw [hsE]; rfl
          have z1 : (sE != 0) = true := by rw [hsE]; rfl
          have z2 : decide (0 < cN) = true := by simp; omega
          have z3 : (pE == 0) = false := by rw [hpE]; rfl
          have z4 : (pE != 0) = true := by rw [hpE]; rfl
          go_wp2_with fail
          go_meet
          exact ⟨rfl, Below.refl _ _⟩
    · skip
      rcases ES.out with hsE | hsE
      · rcases ET.out with htE | htE
        · skip
          as_aux_lemma =>
          have z0 : (sE == 0) = true := by rw [hsE]; rfl
          have z1 : (sE != 0) = false := by rw [hsE]; rfl
          have z2 : (tE == 0) = true := by rw [htE]; rfl
          have z3 : (tE != 0) = false := by rw [htE]; rfl
          have z4 : decide (0 < cN) = false := by simp; omega
          go_wp2_with fail
          refine (XA.out hsE htE _).mono ?_
          rintro e u8 ⟨rfl, hb⟩
          have Lu8 := hid (hb)
          clear hb ha0 ha1 hb0 hb1 hc0 hc1 hs0 hs1 hs2 ht0 ht1 ht2 hp0 hp1 hp2 hq0 hq1 hq2 hz
          obtain ⟨ha0, ha1, hb0, hb1, hc0, hc1, hs0, hs1, hs2, ht0, ht1, ht2, hp0, hp1, hp2, hq0, hq1, hq2, hz⟩ := PF.out u8 Lu8.out
          go_wp2_with fail
          go_meet
          exact ⟨rfl, Lu8.out⟩
        · skip
          as_aux_lemma =>
          have z0 : (sE == 0) = true := by rw [hsE]; rfl
          have z1 : (sE != 0) = false := by rw [hsE]; rfl
          have z2 : (tE == 0) = false := by rw [htE]; rfl
          have z3 : (tE != 0) = true := by rw [htE]; rfl
          have z4 : decide (0 < cN) = false := by simp; omega
          go_wp2_with fail
          go_meet
          exact ⟨rfl, Below.refl _ _⟩
      · skip
        as_aux_lemma =>
        have z0 : (sE == 0) = false := by rw [hsE]; rfl
        have z1 : (sE != 0) = true := by rw [hsE]; rfl
        have z2 : decide (0 < cN) = false := by simp; omega
        go_wp2_with fail
        go_meet
        exact ⟨rfl, Below.refl _ _⟩
  case rest =>
  obtain ⟨rfl, hC⟩ := hcut
  clear ha0 ha1 hb0 hb1 hc0 hc1 hs0 hs1 hs2 ht0 ht1 ht2 hp0 hp1 hp2 hq0 hq1 hq2 hz
  obtain ⟨wJ, rfl⟩ : ∃ wJ : World, wJ = wc := ⟨_, rfl⟩
  have BJ := hid (hC)
  have TJ := hid (below_step TI.out hC)
  clear hC
  obtain ⟨ha0, ha1, hb0, hb1, hc0, hc1, hs0, hs1, hs2, ht0, ht1, ht2, hp0, hp1, hp2, hq0, hq1, hq2, hz⟩ := PF.out wJ BJ.out
  have e0 := EQ0.out
  have g1 := BB1.out
  have g2 := BB1'.out
  rcases (show ab = -1 ∨ ab = 0 ∨ ab = 1 by omega) with ha | ha | ha
  · skip
    as_aux_lemma =>
    have q0 : decide (0 < ab) = false := by simp; omega
    have q1 : decide (ab < 0) = true := by simp; omega
    have q2 : decide (ab ≤ 0) = true := by simp; omega
    have N1 := hid (MI2.out q0)
    have N2 := hid (MX1.out q1)
    clear e0 g1 g2 ha
    go_wp2_with fail
    refine (N1.out _).mono ?_
    rintro e v8 ⟨rfl, hb⟩
    have Cv8 := hid (below_step BJ.out hb)
    have Tv8 := hid (below_step TJ.out hb)
    clear hb ha0 ha1 hb0 hb1 hc0 hc1 hs0 hs1 hs2 ht0 ht1 ht2 hp0 hp1 hp2 hq0 hq1 hq2 hz
    go_upto_region 21 with fail
    generalize hw : v8.alloc (.cells #[.int .i64 aN, .int .i64 aD] 25) = wK
    have h2 : Below v8.heap.size v8 wK := by rw [← hw]; exact ((Below.refl _ _).alloc (by first | exact Nat.le_refl _ | (simp; done) | (simp; omega) | omega | (simp [World.drewN]; omega)) _)
    have hp := PF.out wK (below_step Cv8.out h2)
    have PG := hid (fun V (hV : Below wK.heap.size wK V) => show V.cell? ⟨w2.heap.size, 0, none⟩ = some (.int .i64 aN) ∧ V.cell? ⟨w2.heap.size, 1, none⟩ = some (.int .i64 aD) ∧ V.cell? ⟨w3.heap.size, 0, none⟩ = some (.int .i64 bN) ∧ V.cell? ⟨w3.heap.size, 1, none⟩ = some (.int .i64 bD) ∧ V.cell? ⟨v8.heap.size, 0, none⟩ = some (.int .i64 aN) ∧ V.cell? ⟨v8.heap.size, 1, none⟩ = some (.int .i64 aD) ∧ wK.heap.size ≤ V.heap.size from ⟨cell_below hV hp.1, cell_below hV hp.2.1, cell_below hV hp.2.2.1, cell_below hV hp.2.2.2.1, cell_below hV (show wK.cell? ⟨v8.heap.size, 0, none⟩ = some (.int .i64 aN) by rw [← hw]; simp [go_sem]), cell_below hV (show wK.cell? ⟨v8.heap.size, 1, none⟩ = some (.int .i64 aD) by rw [← hw]; simp [go_sem]), hV.size⟩)
    have TK := hid (below_step Tv8.out h2)
    clear hw h2 hp
    obtain ⟨ha0, ha1, hb0, hb1, hl0, hl1, hz⟩ := PG.out wK (Below.refl _ _)
    go_wp2_with fail
    refine (N2.out _).mono ?_
    rintro e v9 ⟨rfl, hb⟩
    have Cv9 := hid (below_step (Below.refl _ _) hb)
    have Tv9 := hid (below_step TK.out hb)
    clear hb ha0 ha1 hb0 hb1 hl0 hl1 hz
    go_upto_region 22 with fail
    generalize hw : v9.alloc (.cells #[.int .i64 bN, .int .i64 bD] 25) = wL
    have h2 : Below v9.heap.size v9 wL := by rw [← hw]; exact ((Below.refl _ _).alloc (by first | exact Nat.le_refl _ | (simp; done) | (simp; omega) | omega | (simp [World.drewN]; omega)) _)
    have hp := PG.out wL (below_step Cv9.out h2)
    have PH := hid (fun V (hV : Below wL.heap.size wL V) => show V.cell? ⟨w2.heap.size, 0, none⟩ = some (.int .i64 aN) ∧ V.cell? ⟨w2.heap.size, 1, none⟩ = some (.int .i64 aD) ∧ V.cell? ⟨w3.heap.size, 0, none⟩ = some (.int .i64 bN) ∧ V.cell? ⟨w3.heap.size, 1, none⟩ = some (.int .i64 bD) ∧ V.cell? ⟨v8.heap.size, 0, none⟩ = some (.int .i64 aN) ∧ V.cell? ⟨v8.heap.size, 1, none⟩ = some (.int .i64 aD) ∧ V.cell? ⟨v9.heap.size, 0, none⟩ = some (.int .i64 bN) ∧ V.cell? ⟨v9.heap.size, 1, none⟩ = some (.int .i64 bD) ∧ wL.heap.size ≤ V.heap.size from ⟨cell_below hV hp.1, cell_below hV hp.2.1, cell_below hV hp.2.2.1, cell_below hV hp.2.2.2.1, cell_below hV hp.2.2.2.2.1, cell_below hV hp.2.2.2.2.2.1, cell_below hV (show wL.cell? ⟨v9.heap.size, 0, none⟩ = some (.int .i64 bN) by rw [← hw]; simp [go_sem]), cell_below hV (show wL.cell? ⟨v9.heap.size, 1, none⟩ = some (.int .i64 bD) by rw [← hw]; simp [go_sem]), hV.size⟩)
    have TL := hid (below_step Tv9.out h2)
    clear hw h2 hp
    obtain ⟨ha0, ha1, hb0, hb1, hl0, hl1, hm0, hm1, hz⟩ := PH.out wL (Below.refl _ _)
    go_wp2_with fail
    refine (C1.out _).mono ?_
    rintro e u1 ⟨rfl, hb⟩
    have Lu1 := hid (hb)
    clear hb ha0 ha1 hb0 hb1 hl0 hl1 hm0 hm1 hz
    obtain ⟨ha0, ha1, hb0, hb1, hl0, hl1, hm0, hm1, hz⟩ := PH.out u1 Lu1.out
    go_wp2_with fail
    go_ret
    exact ⟨rfl, below_step TL.out Lu1.out⟩
  · have hN := (e0.1 ha).1
    have hD := (e0.1 ha).2
    have yy0 : (aN == bN) = true := by simpa using hN
    have yy1 : decide (aN = bN) = true := by simpa using hN
    have yy2 : (aD == bD) = true := by simpa using hD
    have yy3 : decide (aD = bD) = true := by simpa using hD
    clear hN hD
    as_aux_lemma =>
    have q0 : decide (0 < ab) = false := by simp; omega
    have q1 : decide (ab < 0) = false := by simp; omega
    have N1 := hid (MI2.out q0)
    have N2 := hid (MX2.out q1)
    clear e0 g1 g2 ha
    go_wp2_with fail
    refine (N1.out _).mono ?_
    rintro e v8 ⟨rfl, hb⟩
    have Cv8 := hid (below_step BJ.out hb)
    have Tv8 := hid (below_step TJ.out hb)
    clear hb ha0 ha1 hb0 hb1 hc0 hc1 hs0 hs1 hs2 ht0 ht1 ht2 hp0 hp1 hp2 hq0 hq1 hq2 hz
    go_upto_region 21 with fail
    generalize hw : v8.alloc (.cells #[.int .i64 aN, .int .i64 aD] 25) = wK
    have h2 : Below v8.heap.size v8 wK := by rw [← hw]; exact ((Below.refl _ _).alloc (by first | exact Nat.le_refl _ | (simp; done) | (simp; omega) | omega | (simp [World.drewN]; omega)) _)
    have hp := PF.out wK (below_step Cv8.out h2)
    have PG := hid (fun V (hV : Below wK.heap.size wK V) => show V.cell? ⟨w2.heap.size, 0, none⟩ = some (.int .i64 aN) ∧ V.cell? ⟨w2.heap.size, 1, none⟩ = some (.int .i64 aD) ∧ V.cell? ⟨w3.heap.size, 0, none⟩ = some (.int .i64 bN) ∧ V.cell? ⟨w3.heap.size, 1, none⟩ = some (.int .i64 bD) ∧ V.cell? ⟨v8.heap.size, 0, none⟩ = some (.int .i64 aN) ∧ V.cell? ⟨v8.heap.size, 1, none⟩ = some (.int .i64 aD) ∧ wK.heap.size ≤ V.heap.size from ⟨cell_below hV hp.1, cell_below hV hp.2.1, cell_below hV hp.2.2.1, cell_below hV hp.2.2.2.1, cell_below hV (show wK.cell? ⟨v8.heap.size, 0, none⟩ = some (.int .i64 aN) by rw [← hw]; simp [go_sem]), cell_below hV (show wK.cell? ⟨v8.heap.size, 1, none⟩ = some (.int .i64 aD) by rw [← hw]; simp [go_sem]), hV.size⟩)
    have TK := hid (below_step Tv8.out h2)
    clear hw h2 hp
    obtain ⟨ha0, ha1, hb0, hb1, hl0, hl1, hz⟩ := PG.out wK (Below.refl _ _)
    go_wp2_with fail
    refine (N2.out _).mono ?_
    rintro e v9 ⟨rfl, hb⟩
    have Cv9 := hid (below_step (Below.refl _ _) hb)
    have Tv9 := hid (below_step TK.out hb)
    clear hb ha0 ha1 hb0 hb1 hl0 hl1 hz
    go_upto_region 22 with fail
    generalize hw : v9.alloc (.cells #[.int .i64 aN, .int .i64 aD] 25) = wL
    have h2 : Below v9.heap.size v9 wL := by rw [← hw]; exact ((Below.refl _ _).alloc (by first | exact Nat.le_refl _ | (simp; done) | (simp; omega) | omega | (simp [World.drewN]; omega)) _)
    have hp := PG.out wL (below_step Cv9.out h2)
    have PH := hid (fun V (hV : Below wL.heap.size wL V) => show V.cell? ⟨w2.heap.size, 0, none⟩ = some (.int .i64 aN) ∧ V.cell? ⟨w2.heap.size, 1, none⟩ = some (.int .i64 aD) ∧ V.cell? ⟨w3.heap.size, 0, none⟩ = some (.int .i64 bN) ∧ V.cell? ⟨w3.heap.size, 1, none⟩ = some (.int .i64 bD) ∧ V.cell? ⟨v8.heap.size, 0, none⟩ = some (.int .i64 aN) ∧ V.cell? ⟨v8.heap.size, 1, none⟩ = some (.int .i64 aD) ∧ V.cell? ⟨v9.heap.size, 0, none⟩ = some (.int .i64 aN) ∧ V.cell? ⟨v9.heap.size, 1, none⟩ = some (.int .i64 aD) ∧ wL.heap.size ≤ V.heap.size from ⟨cell_below hV hp.1, cell_below hV hp.2.1, cell_below hV hp.2.2.1, cell_below hV hp.2.2.2.1, cell_below hV hp.2.2.2.2.1, cell_below hV hp.2.2.2.2.2.1, cell_below hV (show wL.cell? ⟨v9.heap.size, 0, none⟩ = some (.int .i64 aN) by rw [← hw]; simp [go_sem]), cell_below hV (show wL.cell? ⟨v9.heap.size, 1, none⟩ = some (.int .i64 aD) by rw [← hw]; simp [go_sem]), hV.size⟩)
    have TL := hid (below_step Tv9.out h2)
    clear hw h2 hp
    obtain ⟨ha0, ha1, hb0, hb1, hl0, hl1, hm0, hm1, hz⟩ := PH.out wL (Below.refl _ _)
    go_wp2_with fail
    refine (C3.out _).mono ?_
    rintro e u1 ⟨rfl, hb⟩
    have Lu1 := hid (hb)
    clear hb ha0 ha1 hb0 hb1 hl0 hl1 hm0 hm1 hz
    obtain ⟨ha0, ha1, hb0, hb1, hl0, hl1, hm0, hm1, hz⟩ := PH.out u1 Lu1.out
    go_wp2_with fail
    go_ret
    exact ⟨rfl, below_step TL.out Lu1.out⟩
  · have hne : ¬ (aN = bN ∧ aD = bD) := fun k => by have := e0.2 k; omega
    by_cases hN : aN = bN
    · skip
      have hD : ¬ aD = bD := fun k => hne ⟨hN, k⟩
      have yy0 : (bN == aN) = true := by simp; omega
      have yy1 : decide (bN = aN) = true := by simp; omega
      have yy2 : (bD == aD) = false := by simp; omega
      have yy3 : decide (bD = aD) = false := by simp; omega
      clear hN hne hD
      as_aux_lemma =>
      have q0 : decide (0 < ab) = true := by simp; omega
      have q1 : decide (ab < 0) = false := by simp; omega
      have q2 : decide (-ab ≤ 0) = true := by simp; omega
      have q3 : decide (0 ≤ ab) = true := by simp; omega
      have N1 := hid (MI1.out q0)
      have N2 := hid (MX2.out q1)
      clear e0 g1 g2 ha
      go_wp2_with fail
      refine (N1.out _).mono ?_
      rintro e v8 ⟨rfl, hb⟩
      have Cv8 := hid (below_step BJ.out hb)
      have Tv8 := hid (below_step TJ.out hb)
      clear hb ha0 ha1 hb0 hb1 hc0 hc1 hs0 hs1 hs2 ht0 ht1 ht2 hp0 hp1 hp2 hq0 hq1 hq2 hz
      go_upto_region 21 with fail
      generalize hw : v8.alloc (.cells #[.int .i64 bN, .int .i64 bD] 25) = wK
      have h2 : Below v8.heap.size v8 wK := by rw [← hw]; exact ((Below.refl _ _).alloc (by first | exact Nat.le_refl _ | (simp; done) | (simp; omega) | omega | (simp [World.drewN]; omega)) _)
      have hp := PF.out wK (below_step Cv8.out h2)
      have PG := hid (fun V (hV : Below wK.heap.size wK V) => show V.cell? ⟨w2.heap.size, 0, none⟩ = some (.int .i64 aN) ∧ V.cell? ⟨w2.heap.size, 1, none⟩ = some (.int .i64 aD) ∧ V.cell? ⟨w3.heap.size, 0, none⟩ = some (.int .i64 bN) ∧ V.cell? ⟨w3.heap.size, 1, none⟩ = some (.int .i64 bD) ∧ V.cell? ⟨v8.heap.size, 0, none⟩ = some (.int .i64 bN) ∧ V.cell? ⟨v8.heap.size, 1, none⟩ = some (.int .i64 bD) ∧ wK.heap.size ≤ V.heap.size from ⟨cell_below hV hp.1, cell_below hV hp.2.1, cell_below hV hp.2.2.1, cell_below hV hp.2.2.2.1, cell_below hV (show wK.cell? ⟨v8.heap.size, 0, none⟩ = some (.int .i64 bN) by rw [← hw]; simp [go_sem]), cell_below hV (show wK.cell? ⟨v8.heap.size, 1, none⟩ = some (.int .i64 bD) by rw [← hw]; simp [go_sem]), hV.size⟩)
      have TK := hid (below_step Tv8.out h2)
      clear hw h2 hp
      obtain ⟨ha0, ha1, hb0, hb1, hl0, hl1, hz⟩ := PG.out wK (Below.refl _ _)
      go_wp2_with fail
      refine (N2.out _).mono ?_
      rintro e v9 ⟨rfl, hb⟩
      have Cv9 := hid (below_step (Below.refl _ _) hb)
      have Tv9 := hid (below_step TK.out hb)
      clear hb ha0 ha1 hb0 hb1 hl0 hl1 hz
      go_upto_region 22 with fail
      generalize hw : v9.alloc (.cells #[.int .i64 aN, .int .i64 aD] 25) = wL
      have h2 : Below v9.heap.size v9 wL := by rw [← hw]; exact ((Below.refl _ _).alloc (by first | exact Nat.le_refl _ | (simp; done) | (simp; omega) | omega | (simp [World.drewN]; omega)) _)
      have hp := PG.out wL (below_step Cv9.out h2)
      have PH := hid (fun V (hV : Below wL.heap.size wL V) => show V.cell? ⟨w2.heap.size, 0, none⟩ = some (.int .i64 aN) ∧ V.cell? ⟨w2.heap.size, 1, none⟩ = some (.int .i64 aD) ∧ V.cell? ⟨w3.heap.size, 0, none⟩ = some (.int .i64 bN) ∧ V.cell? ⟨w3.heap.size, 1, none⟩ = some (.int .i64 bD) ∧ V.cell? ⟨v8.heap.size, 0, none⟩ = some (.int .i64 bN) ∧ V.cell? ⟨v8.heap.size, 1, none⟩ = some (.int .i64 bD) ∧ V.cell? ⟨v9.heap.size, 0, none⟩ = some (.int .i64 aN) ∧ V.cell? ⟨v9.heap.size, 1, none⟩ = some (.int .i64 aD) ∧ wL.heap.size ≤ V.heap.size from ⟨cell_below hV hp.1, cell_below hV hp.2.1, cell_below hV hp.2.2.1, cell_below hV hp.2.2.2.1, cell_below hV hp.2.2.2.2.1, cell_below hV hp.2.2.2.2.2.1, cell_below hV (show wL.cell? ⟨v9.heap.size, 0, none⟩ = some (.int .i64 aN) by rw [← hw]; simp [go_sem]), cell_below hV (show wL.cell? ⟨v9.heap.size, 1, none⟩ = some (.int .i64 aD) by rw [← hw]; simp [go_sem]), hV.size⟩)
      have TL := hid (below_step Tv9.out h2)
      clear hw h2 hp
      obtain ⟨ha0, ha1, hb0, hb1, hl0, hl1, hm0, hm1, hz⟩ := PH.out wL (Below.refl _ _)
      go_wp2_with fail
      refine (C4.out _).mono ?_
      rintro e u1 ⟨rfl, hb⟩
      have Lu1 := hid (hb)
      clear hb ha0 ha1 hb0 hb1 hl0 hl1 hm0 hm1 hz
      obtain ⟨ha0, ha1, hb0, hb1, hl0, hl1, hm0, hm1, hz⟩ := PH.out u1 Lu1.out
      go_wp2_with fail
      go_ret
      exact ⟨rfl, below_step TL.out Lu1.out⟩
    · skip
      have yy0 : (bN == aN) = false := by simp; omega
      have yy1 : decide (bN = aN) = false := by simp; omega
      clear hN hne
      as_aux_lemma =>
      have q0 : decide (0 < ab) = true := by simp; omega
      have q1 : decide (ab < 0) = false := by simp; omega
      have q2 : decide (-ab ≤ 0) = true := by simp; omega
      have q3 : decide (0 ≤ ab) = true := by simp; omega
      have N1 := hid (MI1.out q0)
      have N2 := hid (MX2.out q1)
      clear e0 g1 g2 ha
      go_wp2_with fail
      refine (N1.out _).mono ?_
      rintro e v8 ⟨rfl, hb⟩
      have Cv8 := hid (below_step BJ.out hb)
      have Tv8 := hid (below_step TJ.out hb)
      clear hb ha0 ha1 hb0 hb1 hc0 hc1 hs0 hs1 hs2 ht0 ht1 ht2 hp0 hp1 hp2 hq0 hq1 hq2 hz
      go_upto_region 21 with fail
      generalize hw : v8.alloc (.cells #[.int .i64 bN, .int .i64 bD] 25) = wK
      have h2 : Below v8.heap.size v8 wK := by rw [← hw]; exact ((Below.refl _ _).alloc (by first | exact Nat.le_refl _ | (simp; done) | (simp; omega) | omega | (simp [World.drewN]; omega)) _)
      have hp := PF.out wK (below_step Cv8.out h2)
      have PG := hid (fun V (hV : Below wK.heap.size wK V) => show V.cell? ⟨w2.heap.size, 0, none⟩ = some (.int .i64 aN) ∧ V.cell? ⟨w2.heap.size, 1, none⟩ = some (.int .i64 aD) ∧ V.cell? ⟨w3.heap.size, 0, none⟩ = some (.int .i64 bN) ∧ V.cell? ⟨w3.heap.size, 1, none⟩ = some (.int .i64 bD) ∧ V.cell? ⟨v8.heap.size, 0, none⟩ = some (.int .i64 bN) ∧ V.cell? ⟨v8.heap.size, 1, none⟩ = some (.int .i64 bD) ∧ wK.heap.size ≤ V.heap.size from ⟨cell_below hV hp.1, cell_below hV hp.2.1, cell_below hV hp.2.2.1, cell_below hV hp.2.2.2.1, cell_below hV (show wK.cell? ⟨v8.heap.size, 0, none⟩ = some (.int .i64 bN) by rw [← hw]; simp [go_sem]), cell_below hV (show wK.cell? ⟨v8.heap.size, 1, none⟩ = some (.int .i64 bD) by rw [← hw]; simp [go_sem]), hV.size⟩)
      have TK := hid (below_step Tv8.out h2)
      clear hw h2 hp
      obtain ⟨ha0, ha1, hb0, hb1, hl0, hl1, hz⟩ := PG.out wK (Below.refl _ _)
      go_wp2_with fail
      refine (N2.out _).mono ?_
      rintro e v9 ⟨rfl, hb⟩
      have Cv9 := hid (below_step (Below.refl _ _) hb)
      have Tv9 := hid (below_step TK.out hb)
      clear hb ha0 ha1 hb0 hb1 hl0 hl1 hz
      go_upto_region 22 with fail
      generalize hw : v9.alloc (.cells #[.int .i64 aN, .int .i64 aD] 25) = wL
      have h2 : Below v9.heap.size v9 wL := by rw [← hw]; exact ((Below.refl _ _).alloc (by first | exact Nat.le_refl _ | (simp; done) | (simp; omega) | omega | (simp [World.drewN]; omega)) _)
      have hp := PG.out wL (below_step Cv9.out h2)
      have PH := hid (fun V (hV : Below wL.heap.size wL V) => show V.cell? ⟨w2.heap.size, 0, none⟩ = some (.int .i64 aN) ∧ V.cell? ⟨w2.heap.size, 1, none⟩ = some (.int .i64 aD) ∧ V.cell? ⟨w3.heap.size, 0, none⟩ = some (.int .i64 bN) ∧ V.cell? ⟨w3.heap.size, 1, none⟩ = some (.int .i64 bD) ∧ V.cell? ⟨v8.heap.size, 0, none⟩ = some (.int .i64 bN) ∧ V.cell? ⟨v8.heap.size, 1, none⟩ = some (.int .i64 bD) ∧ V.cell? ⟨v9.heap.size, 0, none⟩ = some (.int .i64 aN) ∧ V.cell? ⟨v9.heap.size, 1, none⟩ = some (.int .i64 aD) ∧ wL.heap.size ≤ V.heap.size from ⟨cell_below hV hp.1, cell_below hV hp.2.1, cell_below hV hp.2.2.1, cell_below hV hp.2.2.2.1, cell_below hV hp.2.2.2.2.1, cell_below hV hp.2.2.2.2.2.1, cell_below hV (show wL.cell? ⟨v9.heap.size, 0, none⟩ = some (.int .i64 aN) by rw [← hw]; simp [go_sem]), cell_below hV (show wL.cell? ⟨v9.heap.size, 1, none⟩ = some (.int .i64 aD) by rw [← hw]; simp [go_sem]), hV.size⟩)
      have TL := hid (below_step Tv9.out h2)
      clear hw h2 hp
      obtain ⟨ha0, ha1, hb0, hb1, hl0, hl1, hm0, hm1, hz⟩ := PH.out wL (Below.refl _ _)
      go_wp2_with fail
      refine (C4.out _).mono ?_
      rintro e u1 ⟨rfl, hb⟩
      have Lu1 := hid (hb)
      clear hb ha0 ha1 hb0 hb1 hl0 hl1 hm0 hm1 hz
      obtain ⟨ha0, ha1, hb0, hb1, hl0, hl1, hm0, hm1, hz⟩ := PH.out u1 Lu1.out
      go_wp2_with fail
      go_ret
      exact ⟨rfl, below_step TL.out Lu1.out⟩
end Go.Proofs.YtgkbefkgkpjmgaaDoor

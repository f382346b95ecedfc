import Derived.Test.YtgkbefkgkpjmgaaDoorRc
namespace Go.Proofs.YtgkbefkgkpjmgaaDoor
open Go.RowKit Go.Instr
set_option linter.unusedVariables false

set_option maxRecDepth 100000 in
set_option maxHeartbeats 16000000 in
theorem field_any (x0 x1 y0 y1 z0 z1 : Int) (hx0 : I64 x0) (hx1 : I64 x1) (hy0 : I64 y0) (hy1 : I64 y1) (hz0 : I64 z0) (hz1 : I64 z1) (w : World) (g : Glob w) :
    Calls Tryd.prog 3 #[.agg #[.int .i64 (x0), .int .i64 (x1)], .agg #[.int .i64 (y0), .int .i64 (y1)], .agg #[.int .i64 (z0), .int .i64 (z1)]] w fun e w' => e = .returned (.bool true) ∧ Below w.heap.size w w' := by
  have EXA := hid (fun o1 o2 o3 => examples_any (((w.alloc o1).alloc o2).alloc o3) (glob_below (((((Below.refl _ _).alloc (by first | exact Nat.le_refl _ | (simp; done) | (simp; omega) | omega | (simp [World.drewN]; omega)) _).alloc (by first | exact Nat.le_refl _ | (simp; done) | (simp; omega) | omega | (simp [World.drewN]; omega)) _).alloc (by first | exact Nat.le_refl _ | (simp; done) | (simp; omega) | omega | (simp [World.drewN]; omega)) _)) g))
  have MA := hid (fun w => made_any x0 x1 hx0 hx1 w)
  have MB := hid (fun w => made_any y0 y1 hy0 hy1 w)
  have MC := hid (fun w => made_any z0 z1 hz0 hz1 w)
  clear hx0 hx1 hy0 hy1 hz0 hz1 g
  go_enter Tryd.func3, Tryd.ntmps3
  go_wp2_with fail
  refine (EXA.out _ _ _).mono ?_
  rintro e w1 ⟨rfl, hb⟩
  have hzP : w.heap.size + 3 ≤ w1.heap.size := by have := hb.size; simp at this; omega
  have P0 : ∀ W, Below w1.heap.size w1 W → W.cell? ⟨w.heap.size, 0, none⟩ = some (.int .i64 x0) ∧ W.cell? ⟨w.heap.size, 1, none⟩ = some (.int .i64 x1) ∧ W.cell? ⟨w.heap.size + 1, 0, none⟩ = some (.int .i64 y0) ∧ W.cell? ⟨w.heap.size + 1, 1, none⟩ = some (.int .i64 y1) ∧ W.cell? ⟨w.heap.size + 1 + 1, 0, none⟩ = some (.int .i64 z0) ∧ W.cell? ⟨w.heap.size + 1 + 1, 1, none⟩ = some (.int .i64 z1) ∧ w1.heap.size ≤ W.heap.size := by
    intro W hW
    exact ⟨cell_below hW (cell_below hb (by simp [go_sem])), cell_below hW (cell_below hb (by simp [go_sem])), cell_below hW (cell_below hb (by simp [go_sem])), cell_below hW (cell_below hb (by simp [go_sem])), cell_below hW (cell_below hb (by simp [go_sem])), cell_below hW (cell_below hb (by simp [go_sem])), hW.size⟩
  have P := hid P0
  clear P0
  have HP := hid hb
  clear hb
  have BW := hid ((((((Below.refl _ _).alloc (by first | exact Nat.le_refl _ | (simp; done) | (simp; omega) | omega | (simp [World.drewN]; omega)) _).alloc (by first | exact Nat.le_refl _ | (simp; done) | (simp; omega) | omega | (simp [World.drewN]; omega)) _).alloc (by first | exact Nat.le_refl _ | (simp; done) | (simp; omega) | omega | (simp [World.drewN]; omega)) _).trans (HP.out.mono (by first | exact Nat.le_refl _ | (simp; done) | (simp; omega) | omega | (simp [World.drewN]; omega)))))
  obtain ⟨q0, q1, q2, q3, q4, q5, zq⟩ := P.out w1 (Below.refl _ _)
  go_wp2_with fail
  refine (MA.out _).mono ?_
  rintro e w2 ⟨aN, aD, fa, rfl, hb⟩
  have FA := hid fa
  have B2 := hid hb
  clear hb fa q0 q1 q2 q3 q4 q5 zq
  have k2 := fun o => (P.out (w2.alloc o) (below_a B2.out o)).2.2.1
  have k3 := fun o => (P.out (w2.alloc o) (below_a B2.out o)).2.2.2.1
  go_wp2_with fail
  refine (MB.out _).mono ?_
  rintro e w3 ⟨bN, bD, fb, rfl, hb⟩
  have FB := hid fb
  have B3 := hid (below_step (below_a B2.out _) hb)
  have ca := cell_below hb (x := .int .i64 aN) (a := ⟨w2.heap.size, 0, none⟩) (by simp [go_sem])
  have ca' := cell_below hb (x := .int .i64 aD) (a := ⟨w2.heap.size, 1, none⟩) (by simp [go_sem])
  have CA := hid (And.intro ca ca')
  clear hb fb k2 k3 ca ca'
  have k4 := fun o => (P.out (w3.alloc o) (below_a B3.out o)).2.2.2.2.1
  have k5 := fun o => (P.out (w3.alloc o) (below_a B3.out o)).2.2.2.2.2.1
  go_wp2_with fail
  refine (MC.out _).mono ?_
  rintro e w4 ⟨cN, cD, fc, rfl, hb⟩
  have FC := hid fc
  have ca := cell_below hb (cell_below (below_a (Below.refl _ _) _) CA.out.1)
  have ca' := cell_below hb (cell_below (below_a (Below.refl _ _) _) CA.out.2)
  have cb := cell_below hb (x := .int .i64 bN) (a := ⟨w3.heap.size, 0, none⟩) (by simp [go_sem])
  have cb' := cell_below hb (x := .int .i64 bD) (a := ⟨w3.heap.size, 1, none⟩) (by simp [go_sem])
  have B4 := hid (below_step (below_a B3.out _) hb)
  have CB := hid (And.intro (And.intro ca ca') (And.intro cb cb'))
  clear hb fc k4 k5 ca ca' cb cb'
  go_upto_region 9 with fail
  generalize hwA : ((w4.alloc (.cells #[.int .i64 cN, .int .i64 cD] 25)).alloc (.cells #[.int .i64 0, .int .i64 1] 25)).alloc (.cells #[.int .i64 1, .int .i64 1] 25) = wA
  have hA : Below w4.heap.size w4 wA := by rw [← hwA]; exact ((((Below.refl _ _).alloc (by first | exact Nat.le_refl _ | (simp; done) | (simp; omega) | omega | (simp [World.drewN]; omega)) _).alloc (by first | exact Nat.le_refl _ | (simp; done) | (simp; omega) | omega | (simp [World.drewN]; omega)) _).alloc (by first | exact Nat.le_refl _ | (simp; done) | (simp; omega) | omega | (simp [World.drewN]; omega)) _)
  have fa := FA.out
  have fb := FB.out
  have fc := FC.out
  have PA := hid (fun V (hV : Below wA.heap.size wA V) => show V.cell? ⟨w2.heap.size, 0, none⟩ = some (.int .i64 aN) ∧ V.cell? ⟨w2.heap.size, 1, none⟩ = some (.int .i64 aD) ∧ V.cell? ⟨w3.heap.size, 0, none⟩ = some (.int .i64 bN) ∧ V.cell? ⟨w3.heap.size, 1, none⟩ = some (.int .i64 bD) ∧ V.cell? ⟨w4.heap.size, 0, none⟩ = some (.int .i64 cN) ∧ V.cell? ⟨w4.heap.size, 1, none⟩ = some (.int .i64 cD) ∧ V.cell? ⟨w4.heap.size + 1, 0, none⟩ = some (.int .i64 0) ∧ V.cell? ⟨w4.heap.size + 1, 1, none⟩ = some (.int .i64 1) ∧ V.cell? ⟨w4.heap.size + 1 + 1, 0, none⟩ = some (.int .i64 1) ∧ V.cell? ⟨w4.heap.size + 1 + 1, 1, none⟩ = some (.int .i64 1) ∧ wA.heap.size ≤ V.heap.size from ⟨cell_below hV (cell_below hA CB.out.1.1), cell_below hV (cell_below hA CB.out.1.2), cell_below hV (cell_below hA CB.out.2.1), cell_below hV (cell_below hA CB.out.2.2), cell_below hV (show wA.cell? ⟨w4.heap.size, 0, none⟩ = some (.int .i64 cN) by rw [← hwA]; simp [go_sem]), cell_below hV (show wA.cell? ⟨w4.heap.size, 1, none⟩ = some (.int .i64 cD) by rw [← hwA]; simp [go_sem]), cell_below hV (show wA.cell? ⟨w4.heap.size + 1, 0, none⟩ = some (.int .i64 0) by rw [← hwA]; simp [go_sem]), cell_below hV (show wA.cell? ⟨w4.heap.size + 1, 1, none⟩ = some (.int .i64 1) by rw [← hwA]; simp [go_sem]), cell_below hV (show wA.cell? ⟨w4.heap.size + 1 + 1, 0, none⟩ = some (.int .i64 1) by rw [← hwA]; simp [go_sem]), cell_below hV (show wA.cell? ⟨w4.heap.size + 1 + 1, 1, none⟩ = some (.int .i64 1) by rw [← hwA]; simp [go_sem]), hV.size⟩)
  have BA := hid (BW.out.trans ((B4.out.trans (hA.mono B4.out.size)).mono BW.out.size))
  have hz4 : w.heap.size + 3 ≤ w4.heap.size := by have := B4.out.size; omega
  clear hwA hA
  -- the numbers
  obtain ⟨sN, sD, sE, Ts⟩ := trip_ex ((Rat.divInt aN aD) + (Rat.divInt bN bD))
  obtain ⟨tN, tD, tE, Tt⟩ := trip_ex ((Rat.divInt bN bD) + (Rat.divInt cN cD))
  obtain ⟨pN, pD, pE, Tp⟩ := trip_ex ((Rat.divInt aN aD) * (Rat.divInt bN bD))
  obtain ⟨qN, qD, qE, Tq⟩ := trip_ex ((Rat.divInt bN bD) * (Rat.divInt cN cD))
  obtain ⟨rN, rD, rE, Tr⟩ := trip_ex ((Rat.divInt aN aD) * (Rat.divInt cN cD))
  obtain ⟨uN, uD, uE, Tu⟩ := trip_ex ((Rat.divInt aN aD) + (Rat.divInt bN bD) + (Rat.divInt cN cD))
  obtain ⟨vN, vD, vE, Tv⟩ := trip_ex ((Rat.divInt aN aD) * (Rat.divInt bN bD) * (Rat.divInt cN cD))
  obtain ⟨lN, lD, lE, Tl⟩ := trip_ex (((Rat.divInt aN aD) + (Rat.divInt bN bD)) * (Rat.divInt cN cD))
  have S1 := hid (fun w => addT fa fb Ts w)
  have S2 := hid (fun w => addT fb fa (by rw [Rat.add_comm]; exact Ts) w)
  have T1 := hid (fun w => addT fb fc Tt w)
  have P1 := hid (fun w => mulT fa fb Tp w)
  have P2 := hid (fun w => mulT fb fa (by rw [Rat.mul_comm]; exact Tp) w)
  have Q1 := hid (fun w => mulT fb fc Tq w)
  have R1 := hid (fun w => mulT fa fc Tr w)
  have A0 := hid (fun w => addT fa fr_zero (trip_fr fa (by rw [r_zero, Rat.add_zero])) w)
  have M1 := hid (fun w => mulT fa fr_one (trip_fr fa (by rw [r_one, Rat.mul_one])) w)
  have SA := hid (fun w => subT fa fa (trip_fr fr_zero (by rw [r_zero, Rat.sub_self])) w)
  have M0 := hid (fun w => mulT fa fr_zero (trip_fr fr_zero (by rw [r_zero, Rat.mul_zero])) w)
  have hb0 := fr_rat_ne fb
  have US := hid (fun (h : sE = 0) => (trip_cases Ts).resolve_right (fun k => by omega))
  have UT := hid (fun (h : tE = 0) => (trip_cases Tt).resolve_right (fun k => by omega))
  have UP := hid (fun (h : pE = 0) => (trip_cases Tp).resolve_right (fun k => by omega))
  have UQ := hid (fun (h : qE = 0) => (trip_cases Tq).resolve_right (fun k => by omega))
  have UR := hid (fun (h : rE = 0) => (trip_cases Tr).resolve_right (fun k => by omega))
  have XS := hid (fun (h : sE = 0) w => subT (US.out h).2.1 fb (trip_fr fa (by rw [(US.out h).2.2, Rat.add_sub_cancel])) w)
  have XU := hid (fun (h : sE = 0) w => addT (US.out h).2.1 fc (by rw [(US.out h).2.2]; exact Tu) w)
  have XV := hid (fun (h : tE = 0) w => addT fa (UT.out h).2.1 (by rw [(UT.out h).2.2, ← Rat.add_assoc]; exact Tu) w)
  have XD := hid (fun (h : pE = 0) (hn : bN ≠ 0) w => divT (UP.out h).2.1 fb hn (trip_fr fa (by rw [(UP.out h).2.2, Rat.mul_div_cancel (hb0 hn)])) w)
  have XP := hid (fun (h : pE = 0) w => mulT (UP.out h).2.1 fc (by rw [(UP.out h).2.2]; exact Tv) w)
  have XQ := hid (fun (h : qE = 0) w => mulT fa (UQ.out h).2.1 (by rw [(UQ.out h).2.2, ← Rat.mul_assoc]; exact Tv) w)
  have XL := hid (fun (h : sE = 0) w => mulT (US.out h).2.1 fc (by rw [(US.out h).2.2]; exact Tl) w)
  have XR := hid (fun (h : rE = 0) (h2 : qE = 0) w => addT (UR.out h).2.1 (UQ.out h2).2.1 (by rw [(UR.out h).2.2, (UQ.out h2).2.2, ← Rat.add_mul]; exact Tl) w)
  have ES := hid (show sE = 0 ∨ sE = 2 from (trip_cases Ts).elim (fun h => Or.inl h.1) (fun h => Or.inr h.1))
  have ET := hid (show tE = 0 ∨ tE = 2 from (trip_cases Tt).elim (fun h => Or.inl h.1) (fun h => Or.inr h.1))
  have EP := hid (show pE = 0 ∨ pE = 2 from (trip_cases Tp).elim (fun h => Or.inl h.1) (fun h => Or.inr h.1))
  have EQ := hid (show qE = 0 ∨ qE = 2 from (trip_cases Tq).elim (fun h => Or.inl h.1) (fun h => Or.inr h.1))
  have ER := hid (show rE = 0 ∨ rE = 2 from (trip_cases Tr).elim (fun h => Or.inl h.1) (fun h => Or.inr h.1))
  have EL := hid (show lE = 0 ∨ lE = 2 from (trip_cases Tl).elim (fun h => Or.inl h.1) (fun h => Or.inr h.1))
  clear Ts Tt Tp Tq Tr Tu Tv Tl fa fb fc hb0 US UT UP UQ UR
  have hs := Below.refl wA.heap.size wA
  have hsd := hs.drew
  obtain ⟨ha0, ha1, hb0, hb1, hc0, hc1, hn0, hn1, he0, he1, hz⟩ := PA.out wA hs
  go_cut [91] (fun s91 wx => s91 = .bool false ∧ Below wA.heap.size wA wx)
  case first =>
    as_aux_lemma =>
    go_region_held3 (fun V => V.cell? ⟨w2.heap.size, 0, none⟩ = some (.int .i64 aN) ∧ V.cell? ⟨w2.heap.size, 1, none⟩ = some (.int .i64 aD) ∧ V.cell? ⟨w3.heap.size, 0, none⟩ = some (.int .i64 bN) ∧ V.cell? ⟨w3.heap.size, 1, none⟩ = some (.int .i64 bD) ∧ V.cell? ⟨w4.heap.size + 1, 0, none⟩ = some (.int .i64 0) ∧ V.cell? ⟨w4.heap.size + 1, 1, none⟩ = some (.int .i64 1) ∧ V.cell? ⟨w4.heap.size + 1 + 1, 0, none⟩ = some (.int .i64 1) ∧ V.cell? ⟨w4.heap.size + 1 + 1, 1, none⟩ = some (.int .i64 1) ∧ Below wA.heap.size wA V)
      (first | (with_reducible exact ⟨ha0, ha1, hb0, hb1, hn0, hn1, he0, he1, hs⟩) | (with_reducible exact ⟨cell_below hsd ha0, cell_below hsd ha1, cell_below hsd hb0, cell_below hsd hb1, cell_below hsd hn0, cell_below hsd hn1, cell_below hsd he0, cell_below hsd he1, hsd⟩) | (with_reducible exact ⟨cell_below (by with_reducible assumption) ha0, cell_below (by with_reducible assumption) ha1, cell_below (by with_reducible assumption) hb0, cell_below (by with_reducible assumption) hb1, cell_below (by with_reducible assumption) hn0, cell_below (by with_reducible assumption) hn1, cell_below (by with_reducible assumption) he0, cell_below (by with_reducible assumption) he1, (by with_reducible assumption)⟩) | fail)
      (first
        | (go_at_call 11; (with_reducible refine (S1.out _).mono ?_); rintro e y0 ⟨rfl, hy0⟩; have hB0 : Below wA.heap.size wA y0 := below_step (by with_reducible assumption) hy0)
        | (go_at_call 11; (with_reducible refine (S2.out _).mono ?_); rintro e y1 ⟨rfl, hy1⟩; have hB1 : Below wA.heap.size wA y1 := below_step (by with_reducible assumption) hy1)
        | (go_at_call 12; (with_reducible refine (P1.out _).mono ?_); rintro e y2 ⟨rfl, hy2⟩; have hB2 : Below wA.heap.size wA y2 := below_step (by with_reducible assumption) hy2)
        | (go_at_call 12; (with_reducible refine (P2.out _).mono ?_); rintro e y3 ⟨rfl, hy3⟩; have hB3 : Below wA.heap.size wA y3 := below_step (by with_reducible assumption) hy3)
        | (go_at_call 11; (with_reducible refine (A0.out _).mono ?_); rintro e y4 ⟨rfl, hy4⟩; have hB4 : Below wA.heap.size wA y4 := below_step (by with_reducible assumption) hy4)
        | (go_at_call 12; (with_reducible refine (M1.out _).mono ?_); rintro e y5 ⟨rfl, hy5⟩; have hB5 : Below wA.heap.size wA y5 := below_step (by with_reducible assumption) hy5)
        | (go_at_call 14; (with_reducible refine (SA.out _).mono ?_); rintro e y6 ⟨rfl, hy6⟩; have hB6 : Below wA.heap.size wA y6 := below_step (by with_reducible assumption) hy6)
        | (go_at_call 12; (with_reducible refine (M0.out _).mono ?_); rintro e y7 ⟨rfl, hy7⟩; have hB7 : Below wA.heap.size wA y7 := below_step (by with_reducible assumption) hy7)
        | (go_at_call 13; (with_reducible refine (is_any aN aD _).mono ?_); rintro e y8 ⟨rfl, hy8⟩; have hB8 : Below wA.heap.size wA y8 := below_step (by with_reducible assumption) hy8)
        | (go_at_call 13; (with_reducible refine (is_any 0 1 _).mono ?_); rintro e y9 ⟨rfl, hy9⟩; have hB9 : Below wA.heap.size wA y9 := below_step (by with_reducible assumption) hy9))
    all_goals
      go_wp2_with fail
      go_meet
      exact ⟨rfl, by assumption⟩
  case rest =>
  obtain ⟨rfl, hC⟩ := hcut
  clear ha0 ha1 hb0 hb1 hc0 hc1 hn0 hn1 he0 he1 hs hsd hz
  obtain ⟨wB, rfl⟩ : ∃ wB : World, wB = wc := ⟨_, rfl⟩
  obtain ⟨ha0, ha1, hb0, hb1, hc0, hc1, hn0, hn1, he0, he1, hz⟩ := PA.out wB hC
  have C0 := hid hC
  clear hC
  go_wp2_with fail
  refine (S1.out _).mono ?_
  rintro e v1 ⟨rfl, hb⟩
  have C1 := hid (below_step C0.out hb)
  clear hb ha0 ha1 hb0 hb1 hc0 hc1 hn0 hn1 he0 he1 hz
  have K := fun o => PA.out (v1.alloc o) (below_a C1.out o)
  have kb0 := fun o => (K o).2.2.1
  have kb1 := fun o => (K o).2.2.2.1
  have kc0 := fun o => (K o).2.2.2.2.1
  have kc1 := fun o => (K o).2.2.2.2.2.1
  clear K
  go_wp2_with fail
  refine (T1.out _).mono ?_
  rintro e v2 ⟨rfl, hb⟩
  have C2 := hid (below_step (below_a C1.out _) hb)
  have z0 := cell_below hb (x := .int .i64 sN) (a := ⟨v1.heap.size, 0, none⟩) (by simp [go_sem])
  have z1 := cell_below hb (x := .int .i64 sD) (a := ⟨v1.heap.size, 1, none⟩) (by simp [go_sem])
  have z2 := cell_below hb (x := .int .i64 sE) (a := ⟨v1.heap.size, 2, none⟩) (by simp [go_sem])
  have Z := hid (show _ ∧ _ ∧ _ from ⟨z0, z1, z2⟩)
  clear hb z0 z1 z2 kb0 kb1 kc0 kc1
  go_upto_region 13 with fail
  generalize hw : v2.alloc (.cells #[.int .i64 tN, .int .i64 tD, .int .i64 tE] 29) = wD
  have h2 : Below v2.heap.size v2 wD := by rw [← hw]; exact ((Below.refl _ _).alloc (by first | exact Nat.le_refl _ | (simp; done) | (simp; omega) | omega | (simp [World.drewN]; omega)) _)
  have hp := PA.out wD (below_step C2.out h2)
  have PB := hid (fun V (hV : Below wD.heap.size wD V) => show V.cell? ⟨w2.heap.size, 0, none⟩ = some (.int .i64 aN) ∧ V.cell? ⟨w2.heap.size, 1, none⟩ = some (.int .i64 aD) ∧ V.cell? ⟨w3.heap.size, 0, none⟩ = some (.int .i64 bN) ∧ V.cell? ⟨w3.heap.size, 1, none⟩ = some (.int .i64 bD) ∧ V.cell? ⟨w4.heap.size, 0, none⟩ = some (.int .i64 cN) ∧ V.cell? ⟨w4.heap.size, 1, none⟩ = some (.int .i64 cD) ∧ V.cell? ⟨w4.heap.size + 1, 0, none⟩ = some (.int .i64 0) ∧ V.cell? ⟨w4.heap.size + 1, 1, none⟩ = some (.int .i64 1) ∧ V.cell? ⟨w4.heap.size + 1 + 1, 0, none⟩ = some (.int .i64 1) ∧ V.cell? ⟨w4.heap.size + 1 + 1, 1, none⟩ = some (.int .i64 1) ∧ V.cell? ⟨v1.heap.size, 0, none⟩ = some (.int .i64 sN) ∧ V.cell? ⟨v1.heap.size, 1, none⟩ = some (.int .i64 sD) ∧ V.cell? ⟨v1.heap.size, 2, none⟩ = some (.int .i64 sE) ∧ V.cell? ⟨v2.heap.size, 0, none⟩ = some (.int .i64 tN) ∧ V.cell? ⟨v2.heap.size, 1, none⟩ = some (.int .i64 tD) ∧ V.cell? ⟨v2.heap.size, 2, none⟩ = some (.int .i64 tE) ∧ wD.heap.size ≤ V.heap.size from ⟨cell_below hV hp.1, cell_below hV hp.2.1, cell_below hV hp.2.2.1, cell_below hV hp.2.2.2.1, cell_below hV hp.2.2.2.2.1, cell_below hV hp.2.2.2.2.2.1, cell_below hV hp.2.2.2.2.2.2.1, cell_below hV hp.2.2.2.2.2.2.2.1, cell_below hV hp.2.2.2.2.2.2.2.2.1, cell_below hV hp.2.2.2.2.2.2.2.2.2.1, cell_below hV (cell_below h2 Z.out.1), cell_below hV (cell_below h2 Z.out.2.1), cell_below hV (cell_below h2 Z.out.2.2), cell_below hV (show wD.cell? ⟨v2.heap.size, 0, none⟩ = some (.int .i64 tN) by rw [← hw]; simp [go_sem]), cell_below hV (show wD.cell? ⟨v2.heap.size, 1, none⟩ = some (.int .i64 tD) by rw [← hw]; simp [go_sem]), cell_below hV (show wD.cell? ⟨v2.heap.size, 2, none⟩ = some (.int .i64 tE) by rw [← hw]; simp [go_sem]), hV.size⟩)
  have BN := hid (below_step C2.out h2)
  clear hw h2 hp
  have hs := Below.refl wD.heap.size wD
  have hsd := hs.drew
  obtain ⟨ha0, ha1, hb0, hb1, hc0, hc1, hn0, hn1, he0, he1, hs0, hs1, hs2, ht0, ht1, ht2, hz⟩ := PB.out wD hs
  have BBwD := hid BN.out
  clear BN
  go_cut [133] (fun s wx => s = .bool false ∧ Below wD.heap.size wD wx)
  case first =>
    as_aux_lemma =>
    have es := ES.out
    have et := ET.out
    rcases es with es | es
    · rcases et with et | et
      · as_aux_lemma =>
        have ese : (sE == 0) = true := by rw [es]; rfl
        have esn : (sE != 0) = false := by rw [es]; rfl
        have Hes := hid es
        clear es
        have ete : (tE == 0) = true := by rw [et]; rfl
        have etn : (tE != 0) = false := by rw [et]; rfl
        have Het := hid et
        clear et
        go_region_held3 (fun V => V.cell? ⟨w2.heap.size, 0, none⟩ = some (.int .i64 aN) ∧ V.cell? ⟨w2.heap.size, 1, none⟩ = some (.int .i64 aD) ∧ V.cell? ⟨w3.heap.size, 0, none⟩ = some (.int .i64 bN) ∧ V.cell? ⟨w3.heap.size, 1, none⟩ = some (.int .i64 bD) ∧ V.cell? ⟨w4.heap.size, 0, none⟩ = some (.int .i64 cN) ∧ V.cell? ⟨w4.heap.size, 1, none⟩ = some (.int .i64 cD) ∧ V.cell? ⟨v1.heap.size, 0, none⟩ = some (.int .i64 sN) ∧ V.cell? ⟨v1.heap.size, 1, none⟩ = some (.int .i64 sD) ∧ V.cell? ⟨v1.heap.size, 2, none⟩ = some (.int .i64 sE) ∧ V.cell? ⟨v2.heap.size, 0, none⟩ = some (.int .i64 tN) ∧ V.cell? ⟨v2.heap.size, 1, none⟩ = some (.int .i64 tD) ∧ V.cell? ⟨v2.heap.size, 2, none⟩ = some (.int .i64 tE) ∧ Below wD.heap.size wD V)
          (first | (with_reducible exact ⟨ha0, ha1, hb0, hb1, hc0, hc1, hs0, hs1, hs2, ht0, ht1, ht2, hs⟩) | (with_reducible exact ⟨cell_below hsd ha0, cell_below hsd ha1, cell_below hsd hb0, cell_below hsd hb1, cell_below hsd hc0, cell_below hsd hc1, cell_below hsd hs0, cell_below hsd hs1, cell_below hsd hs2, cell_below hsd ht0, cell_below hsd ht1, cell_below hsd ht2, hsd⟩) | (with_reducible exact ⟨cell_below (by with_reducible assumption) ha0, cell_below (by with_reducible assumption) ha1, cell_below (by with_reducible assumption) hb0, cell_below (by with_reducible assumption) hb1, cell_below (by with_reducible assumption) hc0, cell_below (by with_reducible assumption) hc1, cell_below (by with_reducible assumption) hs0, cell_below (by with_reducible assumption) hs1, cell_below (by with_reducible assumption) hs2, cell_below (by with_reducible assumption) ht0, cell_below (by with_reducible assumption) ht1, cell_below (by with_reducible assumption) ht2, (by with_reducible assumption)⟩) | fail)
          (first
            | (go_at_call 14; (with_reducible refine (XS.out Hes.out _).mono ?_); rintro e y0 ⟨rfl, hy0⟩; have hB0 : Below wD.heap.size wD y0 := below_step (by with_reducible assumption) hy0)
            | (go_at_call 13; (with_reducible refine (is_any aN aD _).mono ?_); rintro e y1 ⟨rfl, hy1⟩; have hB1 : Below wD.heap.size wD y1 := below_step (by with_reducible assumption) hy1)
            | (go_at_call 11; (with_reducible refine (XU.out Hes.out _).mono ?_); rintro e y2 ⟨rfl, hy2⟩; have hB2 : Below wD.heap.size wD y2 := below_step (by with_reducible assumption) hy2)
            | (go_at_call 11; (with_reducible refine (XV.out Het.out _).mono ?_); rintro e y3 ⟨rfl, hy3⟩; have hB3 : Below wD.heap.size wD y3 := below_step (by with_reducible assumption) hy3))
        all_goals
          go_wp2_with fail
          go_meet
          exact ⟨rfl, by assumption⟩
      · as_aux_lemma =>
        have ese : (sE == 0) = true := by rw [es]; rfl
        have esn : (sE != 0) = false := by rw [es]; rfl
        have Hes := hid es
        clear es
        have ete : (tE == 0) = false := by rw [et]; rfl
        have etn : (tE != 0) = true := by rw [et]; rfl
        have Het := hid et
        clear et
        refine wp_region_held_drew (S := (fun V => V.cell? ⟨w2.heap.size, 0, none⟩ = some (.int .i64 aN) ∧ V.cell? ⟨w2.heap.size, 1, none⟩ = some (.int .i64 aD) ∧ V.cell? ⟨w3.heap.size, 0, none⟩ = some (.int .i64 bN) ∧ V.cell? ⟨w3.heap.size, 1, none⟩ = some (.int .i64 bD) ∧ V.cell? ⟨w4.heap.size, 0, none⟩ = some (.int .i64 cN) ∧ V.cell? ⟨w4.heap.size, 1, none⟩ = some (.int .i64 cD) ∧ V.cell? ⟨v1.heap.size, 0, none⟩ = some (.int .i64 sN) ∧ V.cell? ⟨v1.heap.size, 1, none⟩ = some (.int .i64 sD) ∧ V.cell? ⟨v1.heap.size, 2, none⟩ = some (.int .i64 sE) ∧ V.cell? ⟨v2.heap.size, 0, none⟩ = some (.int .i64 tN) ∧ V.cell? ⟨v2.heap.size, 1, none⟩ = some (.int .i64 tD) ∧ V.cell? ⟨v2.heap.size, 2, none⟩ = some (.int .i64 tE) ∧ Below wD.heap.size wD V)) (by kernel_rfl) ?_ (fun hHeld => ?_)
        · with_reducible exact ⟨cell_below hsd ha0, cell_below hsd ha1, cell_below hsd hb0, cell_below hsd hb1, cell_below hsd hc0, cell_below hsd hc1, cell_below hsd hs0, cell_below hsd hs1, cell_below hsd hs2, cell_below hsd ht0, cell_below hsd ht1, cell_below hsd ht2, hsd⟩
        refine wpAnyH_take (i := 0) (oi := ({ dst := some 98, op := Op.fieldAddr 29 (Operand.tmp 13) 1, type := 0, pos := "law.go:108", after := #[], guard := none } : Oper)) (v := ?_) rfl (by kernel_rfl) (by kernel_rfl) (by kernel_rfl) (fun _ _ _ h => h) (Or.inl ⟨by rfl, ?_⟩) (by assumption) ?_
        rotate_left
        · intro w hSw; (try dsimp only at hSw); go_simp <;> with_reducible rfl
        (try simp only [Act.put, List.setIfInBounds_toArray, List.set_cons_zero, List.set_cons_succ])
        refine wpAnyH_take (i := 1) (oi := ({ dst := some 99, op := Op.load 27 (Operand.tmp 98), type := 27, pos := "law.go:108", after := #[{ on := 0, ground := Ground.data }], guard := none } : Oper)) (v := ?_) rfl (by kernel_rfl) (by kernel_rfl) (by kernel_rfl) (fun _ _ _ h => h) (Or.inl ⟨by rfl, ?_⟩) (by assumption) ?_
        rotate_left
        · intro w hSw; (try dsimp only at hSw); go_simp <;> with_reducible rfl
        (try simp only [Act.put, List.setIfInBounds_toArray, List.set_cons_zero, List.set_cons_succ])
        refine wpAnyH_take (i := 2) (oi := ({ dst := some 100, op := Op.binOp BinOp.eql 27 (Operand.tmp 99) (Operand.const (Value.int IntKind.i64 0)) 27, type := 4, pos := "law.go:108", after := #[{ on := 1, ground := Ground.data }], guard := none } : Oper)) (v := ?_) rfl (by kernel_rfl) (by kernel_rfl) (by kernel_rfl) (fun _ _ _ h => h) (Or.inl ⟨by rfl, ?_⟩) (by assumption) ?_
        rotate_left
        · intro w hSw; (try dsimp only at hSw); go_simp <;> with_reducible rfl
        (try simp only [Act.put, List.setIfInBounds_toArray, List.set_cons_zero, List.set_cons_succ])
        refine wpAnyH_take (i := 3) (oi := ({ dst := some 101, op := Op.move (Operand.tmp 100), type := 4, pos := "law.go:108", after := #[{ on := 2, ground := Ground.data }], guard := none } : Oper)) (v := ?_) rfl (by kernel_rfl) (by kernel_rfl) (by kernel_rfl) (fun _ _ _ h => h) (Or.inl ⟨by rfl, ?_⟩) (by assumption) ?_
        rotate_left
        · intro w hSw; (try dsimp only at hSw); go_simp <;> with_reducible rfl
        (try simp only [Act.put, List.setIfInBounds_toArray, List.set_cons_zero, List.set_cons_succ])
        refine wpAnyH_take (i := 4) (oi := ({ dst := some 102, op := Op.fieldAddr 29 (Operand.tmp 13) 0, type := 0, pos := "law.go:108", after := #[{ on := 3, ground := Ground.guard }], guard := some (3, true) } : Oper)) (v := ?_) rfl (by kernel_rfl) (by kernel_rfl) (by kernel_rfl) (fun _ _ _ h => h) (Or.inl ⟨by rfl, ?_⟩) (by assumption) ?_
        rotate_left
        · intro w hSw; (try dsimp only at hSw); go_simp <;> with_reducible rfl
        (try simp only [Act.put, List.setIfInBounds_toArray, List.set_cons_zero, List.set_cons_succ])
        refine wpAnyH_take (i := 5) (oi := ({ dst := some 103, op := Op.load 25 (Operand.tmp 102), type := 25, pos := "law.go:108", after := #[{ on := 4, ground := Ground.data }, { on := 3, ground := Ground.guard }], guard := some (3, true) } : Oper)) (v := ?_) rfl (by kernel_rfl) (by kernel_rfl) (by kernel_rfl) (fun _ _ _ h => h) (Or.inl ⟨by rfl, ?_⟩) (by assumption) ?_
        rotate_left
        · intro w hSw; (try dsimp only at hSw); go_simp <;> with_reducible rfl
        (try simp only [Act.put, List.setIfInBounds_toArray, List.set_cons_zero, List.set_cons_succ])
        refine wpAnyH_take (i := 6) (oi := ({ dst := some 104, op := Op.load 25 (Operand.tmp 9), type := 25, pos := "law.go:108", after := #[{ on := 3, ground := Ground.guard }], guard := some (3, true) } : Oper)) (v := ?_) rfl (by kernel_rfl) (by kernel_rfl) (by kernel_rfl) (fun _ _ _ h => h) (Or.inl ⟨by rfl, ?_⟩) (by assumption) ?_
        rotate_left
        · intro w hSw; (try dsimp only at hSw); go_simp <;> with_reducible rfl
        (try simp only [Act.put, List.setIfInBounds_toArray, List.set_cons_zero, List.set_cons_succ])
        refine wpAnyH_take (i := 8) (oi := ({ dst := some 106, op := Op.fieldAddr 25 (Operand.tmp 8) 0, type := 0, pos := "law.go:108", after := #[{ on := 3, ground := Ground.guard }], guard := some (3, true) } : Oper)) (v := ?_) rfl (by kernel_rfl) (by kernel_rfl) (by kernel_rfl) (fun _ _ _ h => h) (Or.inl ⟨by rfl, ?_⟩) (by assumption) ?_
        rotate_left
        · intro w hSw; (try dsimp only at hSw); go_simp <;> with_reducible rfl
        (try simp only [Act.put, List.setIfInBounds_toArray, List.set_cons_zero, List.set_cons_succ])
        refine wpAnyH_take (i := 9) (oi := ({ dst := some 107, op := Op.load 3 (Operand.tmp 106), type := 3, pos := "law.go:108", after := #[{ on := 8, ground := Ground.data }, { on := 3, ground := Ground.guard }], guard := some (3, true) } : Oper)) (v := ?_) rfl (by kernel_rfl) (by kernel_rfl) (by kernel_rfl) (fun _ _ _ h => h) (Or.inl ⟨by rfl, ?_⟩) (by assumption) ?_
        rotate_left
        · intro w hSw; (try dsimp only at hSw); go_simp <;> with_reducible rfl
        (try simp only [Act.put, List.setIfInBounds_toArray, List.set_cons_zero, List.set_cons_succ])
        refine wpAnyH_take (i := 10) (oi := ({ dst := some 108, op := Op.fieldAddr 25 (Operand.tmp 8) 1, type := 0, pos := "law.go:108", after := #[{ on := 3, ground := Ground.guard }], guard := some (3, true) } : Oper)) (v := ?_) rfl (by kernel_rfl) (by kernel_rfl) (by kernel_rfl) (fun _ _ _ h => h) (Or.inl ⟨by rfl, ?_⟩) (by assumption) ?_
        rotate_left
        · intro w hSw; (try dsimp only at hSw); go_simp <;> with_reducible rfl
        (try simp only [Act.put, List.setIfInBounds_toArray, List.set_cons_zero, List.set_cons_succ])
        refine wpAnyH_take (i := 11) (oi := ({ dst := some 109, op := Op.load 3 (Operand.tmp 108), type := 3, pos := "law.go:108", after := #[{ on := 10, ground := Ground.data }, { on := 3, ground := Ground.guard }], guard := some (3, true) } : Oper)) (v := ?_) rfl (by kernel_rfl) (by kernel_rfl) (by kernel_rfl) (fun _ _ _ h => h) (Or.inl ⟨by rfl, ?_⟩) (by assumption) ?_
        rotate_left
        · intro w hSw; (try dsimp only at hSw); go_simp <;> with_reducible rfl
        (try simp only [Act.put, List.setIfInBounds_toArray, List.set_cons_zero, List.set_cons_succ])
        refine wpAnyH_ready (rs := [7]) (by kernel_rfl) (by simp) ?_
        refine AllReadyH.cons (o := ({ dst := some 105, op := Op.call { callee := Callee.value (Operand.func 14), args := #[Operand.tmp 103, Operand.tmp 104], argTypes := #[25, 25] }, type := 29, pos := "law.go:108", after := #[{ on := 5, ground := Ground.data }, { on := 6, ground := Ground.data }, { on := 3, ground := Ground.chain }, { on := 3, ground := Ground.guard }], guard := some (3, true) } : Oper)) rfl (fun K hK => ?_) ?_
        rotate_left
        · exact AllReadyH.nil
        go_simp
        go_at_call 14
        with_reducible refine (XS.out Hes.out _).mono ?_
        rintro e y0 ⟨rfl, hy0⟩
        have hB0 := below_step hsd hy0
        clear hHeld
        first | (with_reducible refine hK.out _ _ ?_ (fun hHeld => ?_)) | (go_wp2_with fail; with_reducible refine hK.out _ _ ?_ (fun hHeld => ?_))
        · with_reducible exact ⟨cell_below hB0 ha0, cell_below hB0 ha1, cell_below hB0 hb0, cell_below hB0 hb1, cell_below hB0 hc0, cell_below hB0 hc1, cell_below hB0 hs0, cell_below hB0 hs1, cell_below hB0 hs2, cell_below hB0 ht0, cell_below hB0 ht1, cell_below hB0 ht2, hB0⟩
        clear hK K
        (try simp only [Act.put, List.setIfInBounds_toArray, List.set_cons_zero, List.set_cons_succ])
        refine wpAnyH_ready (rs := [12]) (by kernel_rfl) (by simp) ?_
        refine AllReadyH.cons (o := ({ dst := some 110, op := Op.call { callee := Callee.value (Operand.func 13), args := #[Operand.tmp 107, Operand.tmp 109], argTypes := #[3, 3] }, type := 29, pos := "law.go:108", after := #[{ on := 9, ground := Ground.data }, { on := 11, ground := Ground.data }, { on := 7, ground := Ground.chain }, { on := 3, ground := Ground.guard }], guard := some (3, true) } : Oper)) rfl (fun K hK => ?_) ?_
        rotate_left
        · exact AllReadyH.nil
        go_simp
        go_at_call 13
        with_reducible refine (is_any aN aD _).mono ?_
        rintro e y1 ⟨rfl, hy1⟩
        have hB1 := below_step hB0 hy1
        clear hHeld
        first | (with_reducible refine hK.out _ _ ?_ (fun hHeld => ?_)) | (go_wp2_with fail; with_reducible refine hK.out _ _ ?_ (fun hHeld => ?_))
        · with_reducible exact ⟨cell_below hB1 ha0, cell_below hB1 ha1, cell_below hB1 hb0, cell_below hB1 hb1, cell_below hB1 hc0, cell_below hB1 hc1, cell_below hB1 hs0, cell_below hB1 hs1, cell_below hB1 hs2, cell_below hB1 ht0, cell_below hB1 ht1, cell_below hB1 ht2, hB1⟩
        clear hK K
        (try simp only [Act.put, List.setIfInBounds_toArray, List.set_cons_zero, List.set_cons_succ])
        refine wpAnyH_take (i := 13) (oi := ({ dst := some 111, op := Op.binOp BinOp.neq 29 (Operand.tmp 105) (Operand.tmp 110) 29, type := 4, pos := "law.go:108", after := #[{ on := 7, ground := Ground.data }, { on := 12, ground := Ground.data }, { on := 3, ground := Ground.guard }], guard := some (3, true) } : Oper)) (v := ?_) rfl (by kernel_rfl) (by kernel_rfl) (by kernel_rfl) (fun _ _ _ h => h) (Or.inl ⟨by rfl, ?_⟩) (by assumption) ?_
        rotate_left
        · intro w hSw; (try dsimp only at hSw); go_simp <;> with_reducible rfl
        (try simp only [Act.put, List.setIfInBounds_toArray, List.set_cons_zero, List.set_cons_succ])
        refine wpAnyH_take (i := 14) (oi := ({ dst := some 112, op := Op.pick (Operand.tmp 101) (Operand.tmp 111) (Operand.const (Value.bool false)), type := 4, pos := "law.go:108", after := #[{ on := 3, ground := Ground.data }, { on := 13, ground := Ground.data }], guard := none } : Oper)) (v := ?_) rfl (by kernel_rfl) (by kernel_rfl) (by kernel_rfl) (fun _ _ _ h => h) (Or.inl ⟨by rfl, ?_⟩) (by assumption) ?_
        rotate_left
        · intro w hSw; (try dsimp only at hSw); go_simp <;> with_reducible rfl
        (try simp only [Act.put, List.setIfInBounds_toArray, List.set_cons_zero, List.set_cons_succ])
        refine wpAnyH_take (i := 15) (oi := ({ dst := some 113, op := Op.move (Operand.tmp 112), type := 4, pos := "law.go:108", after := #[{ on := 14, ground := Ground.data }, { on := 12, ground := Ground.chain }], guard := none } : Oper)) (v := ?_) rfl (by kernel_rfl) (by kernel_rfl) (by kernel_rfl) (fun _ _ _ h => h) (Or.inl ⟨by rfl, ?_⟩) (by assumption) ?_
        rotate_left
        · intro w hSw; (try dsimp only at hSw); go_simp <;> with_reducible rfl
        (try simp only [Act.put, List.setIfInBounds_toArray, List.set_cons_zero, List.set_cons_succ])
        refine wpAnyH_take (i := 16) (oi := ({ dst := some 114, op := Op.fieldAddr 29 (Operand.tmp 13) 1, type := 0, pos := "law.go:108", after := #[{ on := 15, ground := Ground.guard }], guard := some (15, false) } : Oper)) (v := ?_) rfl (by kernel_rfl) (by kernel_rfl) (by kernel_rfl) (fun _ _ _ h => h) (Or.inl ⟨by rfl, ?_⟩) (by assumption) ?_
        rotate_left
        · intro w hSw; (try dsimp only at hSw); go_simp <;> with_reducible rfl
        (try simp only [Act.put, List.setIfInBounds_toArray, List.set_cons_zero, List.set_cons_succ])
        refine wpAnyH_take (i := 17) (oi := ({ dst := some 115, op := Op.load 27 (Operand.tmp 114), type := 27, pos := "law.go:108", after := #[{ on := 16, ground := Ground.data }, { on := 15, ground := Ground.guard }], guard := some (15, false) } : Oper)) (v := ?_) rfl (by kernel_rfl) (by kernel_rfl) (by kernel_rfl) (fun _ _ _ h => h) (Or.inl ⟨by rfl, ?_⟩) (by assumption) ?_
        rotate_left
        · intro w hSw; (try dsimp only at hSw); go_simp <;> with_reducible rfl
        (try simp only [Act.put, List.setIfInBounds_toArray, List.set_cons_zero, List.set_cons_succ])
        refine wpAnyH_take (i := 18) (oi := ({ dst := some 116, op := Op.binOp BinOp.eql 27 (Operand.tmp 115) (Operand.const (Value.int IntKind.i64 0)) 27, type := 4, pos := "law.go:108", after := #[{ on := 17, ground := Ground.data }, { on := 15, ground := Ground.guard }], guard := some (15, false) } : Oper)) (v := ?_) rfl (by kernel_rfl) (by kernel_rfl) (by kernel_rfl) (fun _ _ _ h => h) (Or.inl ⟨by rfl, ?_⟩) (by assumption) ?_
        rotate_left
        · intro w hSw; (try dsimp only at hSw); go_simp <;> with_reducible rfl
        (try simp only [Act.put, List.setIfInBounds_toArray, List.set_cons_zero, List.set_cons_succ])
        refine wpAnyH_take (i := 19) (oi := ({ dst := some 117, op := Op.move (Operand.tmp 116), type := 4, pos := "law.go:108", after := #[{ on := 18, ground := Ground.data }, { on := 15, ground := Ground.chain }, { on := 15, ground := Ground.guard }], guard := some (15, false) } : Oper)) (v := ?_) rfl (by kernel_rfl) (by kernel_rfl) (by kernel_rfl) (fun _ _ _ h => h) (Or.inl ⟨by rfl, ?_⟩) (by assumption) ?_
        rotate_left
        · intro w hSw; (try dsimp only at hSw); go_simp <;> with_reducible rfl
        (try simp only [Act.put, List.setIfInBounds_toArray, List.set_cons_zero, List.set_cons_succ])
        refine wpAnyH_take (i := 20) (oi := ({ dst := some 118, op := Op.fieldAddr 29 (Operand.tmp 14) 1, type := 0, pos := "law.go:108", after := #[{ on := 19, ground := Ground.guard }], guard := some (19, true) } : Oper)) (v := ?_) rfl (by kernel_rfl) (by kernel_rfl) (by kernel_rfl) (fun _ _ _ h => h) (Or.inl ⟨by rfl, ?_⟩) (by assumption) ?_
        rotate_left
        · intro w hSw; (try dsimp only at hSw); go_simp <;> with_reducible rfl
        (try simp only [Act.put, List.setIfInBounds_toArray, List.set_cons_zero, List.set_cons_succ])
        refine wpAnyH_take (i := 21) (oi := ({ dst := some 119, op := Op.load 27 (Operand.tmp 118), type := 27, pos := "law.go:108", after := #[{ on := 20, ground := Ground.data }, { on := 19, ground := Ground.guard }], guard := some (19, true) } : Oper)) (v := ?_) rfl (by kernel_rfl) (by kernel_rfl) (by kernel_rfl) (fun _ _ _ h => h) (Or.inl ⟨by rfl, ?_⟩) (by assumption) ?_
        rotate_left
        · intro w hSw; (try dsimp only at hSw); go_simp <;> with_reducible rfl
        (try simp only [Act.put, List.setIfInBounds_toArray, List.set_cons_zero, List.set_cons_succ])
        refine wpAnyH_take (i := 22) (oi := ({ dst := some 120, op := Op.binOp BinOp.eql 27 (Operand.tmp 119) (Operand.const (Value.int IntKind.i64 0)) 27, type := 4, pos := "law.go:108", after := #[{ on := 21, ground := Ground.data }, { on := 19, ground := Ground.guard }], guard := some (19, true) } : Oper)) (v := ?_) rfl (by kernel_rfl) (by kernel_rfl) (by kernel_rfl) (fun _ _ _ h => h) (Or.inl ⟨by rfl, ?_⟩) (by assumption) ?_
        rotate_left
        · intro w hSw; (try dsimp only at hSw); go_simp <;> with_reducible rfl
        (try simp only [Act.put, List.setIfInBounds_toArray, List.set_cons_zero, List.set_cons_succ])
        refine wpAnyH_take (i := 23) (oi := ({ dst := some 121, op := Op.pick (Operand.tmp 117) (Operand.tmp 120) (Operand.const (Value.bool false)), type := 4, pos := "law.go:108", after := #[{ on := 19, ground := Ground.data }, { on := 22, ground := Ground.data }, { on := 15, ground := Ground.guard }], guard := some (15, false) } : Oper)) (v := ?_) rfl (by kernel_rfl) (by kernel_rfl) (by kernel_rfl) (fun _ _ _ h => h) (Or.inl ⟨by rfl, ?_⟩) (by assumption) ?_
        rotate_left
        · intro w hSw; (try dsimp only at hSw); go_simp <;> with_reducible rfl
        (try simp only [Act.put, List.setIfInBounds_toArray, List.set_cons_zero, List.set_cons_succ])
        refine wpAnyH_take (i := 24) (oi := ({ dst := some 122, op := Op.move (Operand.tmp 121), type := 4, pos := "law.go:108", after := #[{ on := 23, ground := Ground.data }, { on := 19, ground := Ground.chain }, { on := 15, ground := Ground.guard }], guard := some (15, false) } : Oper)) (v := ?_) rfl (by kernel_rfl) (by kernel_rfl) (by kernel_rfl) (fun _ _ _ h => h) (Or.inl ⟨by rfl, ?_⟩) (by assumption) ?_
        rotate_left
        · intro w hSw; (try dsimp only at hSw); go_simp <;> with_reducible rfl
        (try simp only [Act.put, List.setIfInBounds_toArray, List.set_cons_zero, List.set_cons_succ])
        refine wpAnyH_take (i := 25) (oi := ({ dst := some 123, op := Op.fieldAddr 29 (Operand.tmp 13) 0, type := 0, pos := "law.go:108", after := #[{ on := 24, ground := Ground.guard }], guard := some (24, true) } : Oper)) (v := undef) rfl (by kernel_rfl) (by kernel_rfl) (by kernel_rfl) (fun _ _ _ h => h) (Or.inr ⟨by rfl, rfl⟩) (by assumption) ?_
        (try simp only [Act.put, List.setIfInBounds_toArray, List.set_cons_zero, List.set_cons_succ])
        refine wpAnyH_take (i := 26) (oi := ({ dst := some 124, op := Op.load 25 (Operand.tmp 123), type := 25, pos := "law.go:108", after := #[{ on := 25, ground := Ground.data }, { on := 24, ground := Ground.guard }], guard := some (24, true) } : Oper)) (v := undef) rfl (by kernel_rfl) (by kernel_rfl) (by kernel_rfl) (fun _ _ _ h => h) (Or.inr ⟨by rfl, rfl⟩) (by assumption) ?_
        (try simp only [Act.put, List.setIfInBounds_toArray, List.set_cons_zero, List.set_cons_succ])
        refine wpAnyH_take (i := 27) (oi := ({ dst := some 125, op := Op.load 25 (Operand.tmp 10), type := 25, pos := "law.go:108", after := #[{ on := 24, ground := Ground.guard }], guard := some (24, true) } : Oper)) (v := undef) rfl (by kernel_rfl) (by kernel_rfl) (by kernel_rfl) (fun _ _ _ h => h) (Or.inr ⟨by rfl, rfl⟩) (by assumption) ?_
        (try simp only [Act.put, List.setIfInBounds_toArray, List.set_cons_zero, List.set_cons_succ])
        refine wpAnyH_take (i := 28) (oi := ({ dst := some 126, op := Op.call { callee := Callee.value (Operand.func 11), args := #[Operand.tmp 124, Operand.tmp 125], argTypes := #[25, 25] }, type := 29, pos := "law.go:108", after := #[{ on := 26, ground := Ground.data }, { on := 27, ground := Ground.data }, { on := 24, ground := Ground.chain }, { on := 24, ground := Ground.guard }], guard := some (24, true) } : Oper)) (v := undef) rfl (by kernel_rfl) (by kernel_rfl) (by kernel_rfl) (fun _ _ _ h => h) (Or.inr ⟨by rfl, rfl⟩) (by assumption) ?_
        (try simp only [Act.put, List.setIfInBounds_toArray, List.set_cons_zero, List.set_cons_succ])
        refine wpAnyH_take (i := 29) (oi := ({ dst := some 127, op := Op.load 25 (Operand.tmp 8), type := 25, pos := "law.go:108", after := #[{ on := 24, ground := Ground.guard }], guard := some (24, true) } : Oper)) (v := undef) rfl (by kernel_rfl) (by kernel_rfl) (by kernel_rfl) (fun _ _ _ h => h) (Or.inr ⟨by rfl, rfl⟩) (by assumption) ?_
        (try simp only [Act.put, List.setIfInBounds_toArray, List.set_cons_zero, List.set_cons_succ])
        refine wpAnyH_take (i := 30) (oi := ({ dst := some 128, op := Op.fieldAddr 29 (Operand.tmp 14) 0, type := 0, pos := "law.go:108", after := #[{ on := 24, ground := Ground.guard }], guard := some (24, true) } : Oper)) (v := undef) rfl (by kernel_rfl) (by kernel_rfl) (by kernel_rfl) (fun _ _ _ h => h) (Or.inr ⟨by rfl, rfl⟩) (by assumption) ?_
        (try simp only [Act.put, List.setIfInBounds_toArray, List.set_cons_zero, List.set_cons_succ])
        refine wpAnyH_take (i := 31) (oi := ({ dst := some 129, op := Op.load 25 (Operand.tmp 128), type := 25, pos := "law.go:108", after := #[{ on := 30, ground := Ground.data }, { on := 24, ground := Ground.guard }], guard := some (24, true) } : Oper)) (v := undef) rfl (by kernel_rfl) (by kernel_rfl) (by kernel_rfl) (fun _ _ _ h => h) (Or.inr ⟨by rfl, rfl⟩) (by assumption) ?_
        (try simp only [Act.put, List.setIfInBounds_toArray, List.set_cons_zero, List.set_cons_succ])
        refine wpAnyH_take (i := 32) (oi := ({ dst := some 130, op := Op.call { callee := Callee.value (Operand.func 11), args := #[Operand.tmp 127, Operand.tmp 129], argTypes := #[25, 25] }, type := 29, pos := "law.go:108", after := #[{ on := 29, ground := Ground.data }, { on := 31, ground := Ground.data }, { on := 28, ground := Ground.chain }, { on := 24, ground := Ground.guard }], guard := some (24, true) } : Oper)) (v := undef) rfl (by kernel_rfl) (by kernel_rfl) (by kernel_rfl) (fun _ _ _ h => h) (Or.inr ⟨by rfl, rfl⟩) (by assumption) ?_
        (try simp only [Act.put, List.setIfInBounds_toArray, List.set_cons_zero, List.set_cons_succ])
        refine wpAnyH_take (i := 33) (oi := ({ dst := some 131, op := Op.binOp BinOp.neq 29 (Operand.tmp 126) (Operand.tmp 130) 29, type := 4, pos := "law.go:108", after := #[{ on := 28, ground := Ground.data }, { on := 32, ground := Ground.data }, { on := 24, ground := Ground.guard }], guard := some (24, true) } : Oper)) (v := undef) rfl (by kernel_rfl) (by kernel_rfl) (by kernel_rfl) (fun _ _ _ h => h) (Or.inr ⟨by rfl, rfl⟩) (by assumption) ?_
        (try simp only [Act.put, List.setIfInBounds_toArray, List.set_cons_zero, List.set_cons_succ])
        refine wpAnyH_take (i := 34) (oi := ({ dst := some 132, op := Op.pick (Operand.tmp 122) (Operand.tmp 131) (Operand.const (Value.bool false)), type := 4, pos := "law.go:108", after := #[{ on := 24, ground := Ground.data }, { on := 33, ground := Ground.data }, { on := 15, ground := Ground.guard }], guard := some (15, false) } : Oper)) (v := ?_) rfl (by kernel_rfl) (by kernel_rfl) (by kernel_rfl) (fun _ _ _ h => h) (Or.inl ⟨by rfl, ?_⟩) (by assumption) ?_
        rotate_left
        · intro w hSw; (try dsimp only at hSw); go_simp <;> with_reducible rfl
        (try simp only [Act.put, List.setIfInBounds_toArray, List.set_cons_zero, List.set_cons_succ])
        refine wpAnyH_take (i := 35) (oi := ({ dst := some 133, op := Op.pick (Operand.tmp 113) (Operand.const (Value.bool true)) (Operand.tmp 132), type := 4, pos := "law.go:108", after := #[{ on := 15, ground := Ground.data }, { on := 34, ground := Ground.data }], guard := none } : Oper)) (v := ?_) rfl (by kernel_rfl) (by kernel_rfl) (by kernel_rfl) (fun _ _ _ h => h) (Or.inl ⟨by rfl, ?_⟩) (by assumption) ?_
        rotate_left
        · intro w hSw; (try dsimp only at hSw); go_simp <;> with_reducible rfl
        (try simp only [Act.put, List.setIfInBounds_toArray, List.set_cons_zero, List.set_cons_succ])
        refine wpAnyH_done (by kernel_rfl) ?_ _
        all_goals
          go_wp2_with fail
          go_meet
          exact ⟨rfl, by assumption⟩
    · clear et
      have ese : (sE == 0) = false := by rw [es]; rfl
      have esn : (sE != 0) = true := by rw [es]; rfl
      have Hes := hid es
      clear es
      go_quiet (fail)
      go_wp2_with fail
      go_meet
      exact ⟨rfl, below_drewN (Below.refl _ _) _⟩
  case rest =>
  obtain ⟨rfl, hC⟩ := hcut
  clear ha0 ha1 hb0 hb1 hc0 hc1 hn0 hn1 he0 he1 hs0 hs1 hs2 ht0 ht1 ht2 hs hsd hz
  obtain ⟨wE, rfl⟩ : ∃ wE : World, wE = wc := ⟨_, rfl⟩
  obtain ⟨ha0, ha1, hb0, hb1, hc0, hc1, hn0, hn1, he0, he1, hs0, hs1, hs2, ht0, ht1, ht2, hz⟩ := PB.out wE hC
  have C0 := hid hC
  clear hC
  go_wp2_with fail
  refine (P1.out _).mono ?_
  rintro e v3 ⟨rfl, hb⟩
  have C1 := hid (below_step C0.out hb)
  clear hb ha0 ha1 hb0 hb1 hc0 hc1 hn0 hn1 he0 he1 hs0 hs1 hs2 ht0 ht1 ht2 hz
  have K := fun o => PB.out (v3.alloc o) (below_a C1.out o)
  have kb0 := fun o => (K o).2.2.1
  have kb1 := fun o => (K o).2.2.2.1
  have kc0 := fun o => (K o).2.2.2.2.1
  have kc1 := fun o => (K o).2.2.2.2.2.1
  clear K
  go_wp2_with fail
  refine (Q1.out _).mono ?_
  rintro e v4 ⟨rfl, hb⟩
  have C2 := hid (below_step (below_a C1.out _) hb)
  have z0 := cell_below hb (x := .int .i64 pN) (a := ⟨v3.heap.size, 0, none⟩) (by simp [go_sem])
  have z1 := cell_below hb (x := .int .i64 pD) (a := ⟨v3.heap.size, 1, none⟩) (by simp [go_sem])
  have z2 := cell_below hb (x := .int .i64 pE) (a := ⟨v3.heap.size, 2, none⟩) (by simp [go_sem])
  have Z := hid (show _ ∧ _ ∧ _ from ⟨z0, z1, z2⟩)
  clear hb z0 z1 z2 kb0 kb1 kc0 kc1
  go_upto_region 17 with fail
  generalize hw : v4.alloc (.cells #[.int .i64 qN, .int .i64 qD, .int .i64 qE] 29) = wF
  have h2 : Below v4.heap.size v4 wF := by rw [← hw]; exact ((Below.refl _ _).alloc (by first | exact Nat.le_refl _ | (simp; done) | (simp; omega) | omega | (simp [World.drewN]; omega)) _)
  have hp := PB.out wF (below_step C2.out h2)
  have PC := hid (fun V (hV : Below wF.heap.size wF V) => show V.cell? ⟨w2.heap.size, 0, none⟩ = some (.int .i64 aN) ∧ V.cell? ⟨w2.heap.size, 1, none⟩ = some (.int .i64 aD) ∧ V.cell? ⟨w3.heap.size, 0, none⟩ = some (.int .i64 bN) ∧ V.cell? ⟨w3.heap.size, 1, none⟩ = some (.int .i64 bD) ∧ V.cell? ⟨w4.heap.size, 0, none⟩ = some (.int .i64 cN) ∧ V.cell? ⟨w4.heap.size, 1, none⟩ = some (.int .i64 cD) ∧ V.cell? ⟨w4.heap.size + 1, 0, none⟩ = some (.int .i64 0) ∧ V.cell? ⟨w4.heap.size + 1, 1, none⟩ = some (.int .i64 1) ∧ V.cell? ⟨w4.heap.size + 1 + 1, 0, none⟩ = some (.int .i64 1) ∧ V.cell? ⟨w4.heap.size + 1 + 1, 1, none⟩ = some (.int .i64 1) ∧ V.cell? ⟨v1.heap.size, 0, none⟩ = some (.int .i64 sN) ∧ V.cell? ⟨v1.heap.size, 1, none⟩ = some (.int .i64 sD) ∧ V.cell? ⟨v1.heap.size, 2, none⟩ = some (.int .i64 sE) ∧ V.cell? ⟨v2.heap.size, 0, none⟩ = some (.int .i64 tN) ∧ V.cell? ⟨v2.heap.size, 1, none⟩ = some (.int .i64 tD) ∧ V.cell? ⟨v2.heap.size, 2, none⟩ = some (.int .i64 tE) ∧ V.cell? ⟨v3.heap.size, 0, none⟩ = some (.int .i64 pN) ∧ V.cell? ⟨v3.heap.size, 1, none⟩ = some (.int .i64 pD) ∧ V.cell? ⟨v3.heap.size, 2, none⟩ = some (.int .i64 pE) ∧ V.cell? ⟨v4.heap.size, 0, none⟩ = some (.int .i64 qN) ∧ V.cell? ⟨v4.heap.size, 1, none⟩ = some (.int .i64 qD) ∧ V.cell? ⟨v4.heap.size, 2, none⟩ = some (.int .i64 qE) ∧ wF.heap.size ≤ V.heap.size from ⟨cell_below hV hp.1, cell_below hV hp.2.1, cell_below hV hp.2.2.1, cell_below hV hp.2.2.2.1, cell_below hV hp.2.2.2.2.1, cell_below hV hp.2.2.2.2.2.1, cell_below hV hp.2.2.2.2.2.2.1, cell_below hV hp.2.2.2.2.2.2.2.1, cell_below hV hp.2.2.2.2.2.2.2.2.1, cell_below hV hp.2.2.2.2.2.2.2.2.2.1, cell_below hV hp.2.2.2.2.2.2.2.2.2.2.1, cell_below hV hp.2.2.2.2.2.2.2.2.2.2.2.1, cell_below hV hp.2.2.2.2.2.2.2.2.2.2.2.2.1, cell_below hV hp.2.2.2.2.2.2.2.2.2.2.2.2.2.1, cell_below hV hp.2.2.2.2.2.2.2.2.2.2.2.2.2.2.1, cell_below hV hp.2.2.2.2.2.2.2.2.2.2.2.2.2.2.2.1, cell_below hV (cell_below h2 Z.out.1), cell_below hV (cell_below h2 Z.out.2.1), cell_below hV (cell_below h2 Z.out.2.2), cell_below hV (show wF.cell? ⟨v4.heap.size, 0, none⟩ = some (.int .i64 qN) by rw [← hw]; simp [go_sem]), cell_below hV (show wF.cell? ⟨v4.heap.size, 1, none⟩ = some (.int .i64 qD) by rw [← hw]; simp [go_sem]), cell_below hV (show wF.cell? ⟨v4.heap.size, 2, none⟩ = some (.int .i64 qE) by rw [← hw]; simp [go_sem]), hV.size⟩)
  have BN := hid (below_step C2.out h2)
  clear hw h2 hp
  have hs := Below.refl wF.heap.size wF
  have hsd := hs.drew
  obtain ⟨ha0, ha1, hb0, hb1, hc0, hc1, hn0, hn1, he0, he1, hs0, hs1, hs2, ht0, ht1, ht2, hp0, hp1, hp2, hq0, hq1, hq2, hz⟩ := PC.out wF hs
  have BBwF := hid BN.out
  clear BN
  go_cut [180] (fun s wx => s = .bool false ∧ Below wF.heap.size wF wx)
  case first =>
    as_aux_lemma =>
    have ep := EP.out
    have eq := EQ.out
    rcases ep with ep | ep
    · by_cases hbn : bN = 0
      · have hbb : (bN == 0) = true := by simpa using hbn
        have hbb' : (bN != 0) = false := by simpa using hbn
        clear hbn
        rcases eq with eq | eq
        · as_aux_lemma =>
          have epe : (pE == 0) = true := by rw [ep]; rfl
          have epn : (pE != 0) = false := by rw [ep]; rfl
          have Hep := hid ep
          clear ep
          have eqe : (qE == 0) = true := by rw [eq]; rfl
          have eqn : (qE != 0) = false := by rw [eq]; rfl
          have Heq := hid eq
          clear eq
          refine wp_region_held_drew (S := (fun V => V.cell? ⟨w2.heap.size, 0, none⟩ = some (.int .i64 aN) ∧ V.cell? ⟨w2.heap.size, 1, none⟩ = some (.int .i64 aD) ∧ V.cell? ⟨w3.heap.size, 0, none⟩ = some (.int .i64 bN) ∧ V.cell? ⟨w3.heap.size, 1, none⟩ = some (.int .i64 bD) ∧ V.cell? ⟨w4.heap.size, 0, none⟩ = some (.int .i64 cN) ∧ V.cell? ⟨w4.heap.size, 1, none⟩ = some (.int .i64 cD) ∧ V.cell? ⟨v3.heap.size, 0, none⟩ = some (.int .i64 pN) ∧ V.cell? ⟨v3.heap.size, 1, none⟩ = some (.int .i64 pD) ∧ V.cell? ⟨v3.heap.size, 2, none⟩ = some (.int .i64 pE) ∧ V.cell? ⟨v4.heap.size, 0, none⟩ = some (.int .i64 qN) ∧ V.cell? ⟨v4.heap.size, 1, none⟩ = some (.int .i64 qD) ∧ V.cell? ⟨v4.heap.size, 2, none⟩ = some (.int .i64 qE) ∧ Below wF.heap.size wF V)) (by kernel_rfl) ?_ (fun hHeld => ?_)
          · with_reducible exact ⟨cell_below hsd ha0, cell_below hsd ha1, cell_below hsd hb0, cell_below hsd hb1, cell_below hsd hc0, cell_below hsd hc1, cell_below hsd hp0, cell_below hsd hp1, cell_below hsd hp2, cell_below hsd hq0, cell_below hsd hq1, cell_below hsd hq2, hsd⟩
          refine wpAnyH_take (i := 0) (oi := ({ dst := some 140, op := Op.fieldAddr 29 (Operand.tmp 15) 1, type := 0, pos := "law.go:113", after := #[], guard := none } : Oper)) (v := ?_) rfl (by kernel_rfl) (by kernel_rfl) (by kernel_rfl) (fun _ _ _ h => h) (Or.inl ⟨by rfl, ?_⟩) (by assumption) ?_
          rotate_left
          · intro w hSw; (try dsimp only at hSw); go_simp <;> with_reducible rfl
          (try simp only [Act.put, List.setIfInBounds_toArray, List.set_cons_zero, List.set_cons_succ])
          refine wpAnyH_take (i := 1) (oi := ({ dst := some 141, op := Op.load 27 (Operand.tmp 140), type := 27, pos := "law.go:113", after := #[{ on := 0, ground := Ground.data }], guard := none } : Oper)) (v := ?_) rfl (by kernel_rfl) (by kernel_rfl) (by kernel_rfl) (fun _ _ _ h => h) (Or.inl ⟨by rfl, ?_⟩) (by assumption) ?_
          rotate_left
          · intro w hSw; (try dsimp only at hSw); go_simp <;> with_reducible rfl
          (try simp only [Act.put, List.setIfInBounds_toArray, List.set_cons_zero, List.set_cons_succ])
          refine wpAnyH_take (i := 2) (oi := ({ dst := some 142, op := Op.binOp BinOp.eql 27 (Operand.tmp 141) (Operand.const (Value.int IntKind.i64 0)) 27, type := 4, pos := "law.go:113", after := #[{ on := 1, ground := Ground.data }], guard := none } : Oper)) (v := ?_) rfl (by kernel_rfl) (by kernel_rfl) (by kernel_rfl) (fun _ _ _ h => h) (Or.inl ⟨by rfl, ?_⟩) (by assumption) ?_
          rotate_left
          · intro w hSw; (try dsimp only at hSw); go_simp <;> with_reducible rfl
          (try simp only [Act.put, List.setIfInBounds_toArray, List.set_cons_zero, List.set_cons_succ])
          refine wpAnyH_take (i := 3) (oi := ({ dst := some 143, op := Op.move (Operand.tmp 142), type := 4, pos := "law.go:113", after := #[{ on := 2, ground := Ground.data }], guard := none } : Oper)) (v := ?_) rfl (by kernel_rfl) (by kernel_rfl) (by kernel_rfl) (fun _ _ _ h => h) (Or.inl ⟨by rfl, ?_⟩) (by assumption) ?_
          rotate_left
          · intro w hSw; (try dsimp only at hSw); go_simp <;> with_reducible rfl
          (try simp only [Act.put, List.setIfInBounds_toArray, List.set_cons_zero, List.set_cons_succ])
          refine wpAnyH_take (i := 4) (oi := ({ dst := some 144, op := Op.fieldAddr 25 (Operand.tmp 9) 0, type := 0, pos := "law.go:113", after := #[{ on := 3, ground := Ground.guard }], guard := some (3, true) } : Oper)) (v := ?_) rfl (by kernel_rfl) (by kernel_rfl) (by kernel_rfl) (fun _ _ _ h => h) (Or.inl ⟨by rfl, ?_⟩) (by assumption) ?_
          rotate_left
          · intro w hSw; (try dsimp only at hSw); go_simp <;> with_reducible rfl
          (try simp only [Act.put, List.setIfInBounds_toArray, List.set_cons_zero, List.set_cons_succ])
          refine wpAnyH_take (i := 5) (oi := ({ dst := some 145, op := Op.load 3 (Operand.tmp 144), type := 3, pos := "law.go:113", after := #[{ on := 4, ground := Ground.data }, { on := 3, ground := Ground.guard }], guard := some (3, true) } : Oper)) (v := ?_) rfl (by kernel_rfl) (by kernel_rfl) (by kernel_rfl) (fun _ _ _ h => h) (Or.inl ⟨by rfl, ?_⟩) (by assumption) ?_
          rotate_left
          · intro w hSw; (try dsimp only at hSw); go_simp <;> with_reducible rfl
          (try simp only [Act.put, List.setIfInBounds_toArray, List.set_cons_zero, List.set_cons_succ])
          refine wpAnyH_take (i := 6) (oi := ({ dst := some 146, op := Op.binOp BinOp.neq 3 (Operand.tmp 145) (Operand.const (Value.int IntKind.i64 0)) 3, type := 4, pos := "law.go:113", after := #[{ on := 5, ground := Ground.data }, { on := 3, ground := Ground.guard }], guard := some (3, true) } : Oper)) (v := ?_) rfl (by kernel_rfl) (by kernel_rfl) (by kernel_rfl) (fun _ _ _ h => h) (Or.inl ⟨by rfl, ?_⟩) (by assumption) ?_
          rotate_left
          · intro w hSw; (try dsimp only at hSw); go_simp <;> with_reducible rfl
          (try simp only [Act.put, List.setIfInBounds_toArray, List.set_cons_zero, List.set_cons_succ])
          refine wpAnyH_take (i := 7) (oi := ({ dst := some 147, op := Op.pick (Operand.tmp 143) (Operand.tmp 146) (Operand.const (Value.bool false)), type := 4, pos := "law.go:113", after := #[{ on := 3, ground := Ground.data }, { on := 6, ground := Ground.data }], guard := none } : Oper)) (v := ?_) rfl (by kernel_rfl) (by kernel_rfl) (by kernel_rfl) (fun _ _ _ h => h) (Or.inl ⟨by rfl, ?_⟩) (by assumption) ?_
          rotate_left
          · intro w hSw; (try dsimp only at hSw); go_simp <;> with_reducible rfl
          (try simp only [Act.put, List.setIfInBounds_toArray, List.set_cons_zero, List.set_cons_succ])
          refine wpAnyH_take (i := 8) (oi := ({ dst := some 148, op := Op.move (Operand.tmp 147), type := 4, pos := "law.go:113", after := #[{ on := 7, ground := Ground.data }, { on := 3, ground := Ground.chain }], guard := none } : Oper)) (v := ?_) rfl (by kernel_rfl) (by kernel_rfl) (by kernel_rfl) (fun _ _ _ h => h) (Or.inl ⟨by rfl, ?_⟩) (by assumption) ?_
          rotate_left
          · intro w hSw; (try dsimp only at hSw); go_simp <;> with_reducible rfl
          (try simp only [Act.put, List.setIfInBounds_toArray, List.set_cons_zero, List.set_cons_succ])
          refine wpAnyH_take (i := 9) (oi := ({ dst := some 149, op := Op.fieldAddr 29 (Operand.tmp 15) 0, type := 0, pos := "law.go:113", after := #[{ on := 8, ground := Ground.guard }], guard := some (8, true) } : Oper)) (v := undef) rfl (by kernel_rfl) (by kernel_rfl) (by kernel_rfl) (fun _ _ _ h => h) (Or.inr ⟨by rfl, rfl⟩) (by assumption) ?_
          (try simp only [Act.put, List.setIfInBounds_toArray, List.set_cons_zero, List.set_cons_succ])
          refine wpAnyH_take (i := 10) (oi := ({ dst := some 150, op := Op.load 25 (Operand.tmp 149), type := 25, pos := "law.go:113", after := #[{ on := 9, ground := Ground.data }, { on := 8, ground := Ground.guard }], guard := some (8, true) } : Oper)) (v := undef) rfl (by kernel_rfl) (by kernel_rfl) (by kernel_rfl) (fun _ _ _ h => h) (Or.inr ⟨by rfl, rfl⟩) (by assumption) ?_
          (try simp only [Act.put, List.setIfInBounds_toArray, List.set_cons_zero, List.set_cons_succ])
          refine wpAnyH_take (i := 11) (oi := ({ dst := some 151, op := Op.load 25 (Operand.tmp 9), type := 25, pos := "law.go:113", after := #[{ on := 8, ground := Ground.guard }], guard := some (8, true) } : Oper)) (v := undef) rfl (by kernel_rfl) (by kernel_rfl) (by kernel_rfl) (fun _ _ _ h => h) (Or.inr ⟨by rfl, rfl⟩) (by assumption) ?_
          (try simp only [Act.put, List.setIfInBounds_toArray, List.set_cons_zero, List.set_cons_succ])
          refine wpAnyH_take (i := 12) (oi := ({ dst := some 152, op := Op.call { callee := Callee.value (Operand.func 15), args := #[Operand.tmp 150, Operand.tmp 151], argTypes := #[25, 25] }, type := 29, pos := "law.go:113", after := #[{ on := 10, ground := Ground.data }, { on := 11, ground := Ground.data }, { on := 8, ground := Ground.chain }, { on := 8, ground := Ground.guard }], guard := some (8, true) } : Oper)) (v := undef) rfl (by kernel_rfl) (by kernel_rfl) (by kernel_rfl) (fun _ _ _ h => h) (Or.inr ⟨by rfl, rfl⟩) (by assumption) ?_
          (try simp only [Act.put, List.setIfInBounds_toArray, List.set_cons_zero, List.set_cons_succ])
          refine wpAnyH_take (i := 13) (oi := ({ dst := some 153, op := Op.fieldAddr 25 (Operand.tmp 8) 0, type := 0, pos := "law.go:113", after := #[{ on := 8, ground := Ground.guard }], guard := some (8, true) } : Oper)) (v := undef) rfl (by kernel_rfl) (by kernel_rfl) (by kernel_rfl) (fun _ _ _ h => h) (Or.inr ⟨by rfl, rfl⟩) (by assumption) ?_
          (try simp only [Act.put, List.setIfInBounds_toArray, List.set_cons_zero, List.set_cons_succ])
          refine wpAnyH_take (i := 14) (oi := ({ dst := some 154, op := Op.load 3 (Operand.tmp 153), type := 3, pos := "law.go:113", after := #[{ on := 13, ground := Ground.data }, { on := 8, ground := Ground.guard }], guard := some (8, true) } : Oper)) (v := undef) rfl (by kernel_rfl) (by kernel_rfl) (by kernel_rfl) (fun _ _ _ h => h) (Or.inr ⟨by rfl, rfl⟩) (by assumption) ?_
          (try simp only [Act.put, List.setIfInBounds_toArray, List.set_cons_zero, List.set_cons_succ])
          refine wpAnyH_take (i := 15) (oi := ({ dst := some 155, op := Op.fieldAddr 25 (Operand.tmp 8) 1, type := 0, pos := "law.go:113", after := #[{ on := 8, ground := Ground.guard }], guard := some (8, true) } : Oper)) (v := undef) rfl (by kernel_rfl) (by kernel_rfl) (by kernel_rfl) (fun _ _ _ h => h) (Or.inr ⟨by rfl, rfl⟩) (by assumption) ?_
          (try simp only [Act.put, List.setIfInBounds_toArray, List.set_cons_zero, List.set_cons_succ])
          refine wpAnyH_take (i := 16) (oi := ({ dst := some 156, op := Op.load 3 (Operand.tmp 155), type := 3, pos := "law.go:113", after := #[{ on := 15, ground := Ground.data }, { on := 8, ground := Ground.guard }], guard := some (8, true) } : Oper)) (v := undef) rfl (by kernel_rfl) (by kernel_rfl) (by kernel_rfl) (fun _ _ _ h => h) (Or.inr ⟨by rfl, rfl⟩) (by assumption) ?_
          (try simp only [Act.put, List.setIfInBounds_toArray, List.set_cons_zero, List.set_cons_succ])
          refine wpAnyH_take (i := 17) (oi := ({ dst := some 157, op := Op.call { callee := Callee.value (Operand.func 13), args := #[Operand.tmp 154, Operand.tmp 156], argTypes := #[3, 3] }, type := 29, pos := "law.go:113", after := #[{ on := 14, ground := Ground.data }, { on := 16, ground := Ground.data }, { on := 12, ground := Ground.chain }, { on := 8, ground := Ground.guard }], guard := some (8, true) } : Oper)) (v := undef) rfl (by kernel_rfl) (by kernel_rfl) (by kernel_rfl) (fun _ _ _ h => h) (Or.inr ⟨by rfl, rfl⟩) (by assumption) ?_
          (try simp only [Act.put, List.setIfInBounds_toArray, List.set_cons_zero, List.set_cons_succ])
          refine wpAnyH_take (i := 18) (oi := ({ dst := some 158, op := Op.binOp BinOp.neq 29 (Operand.tmp 152) (Operand.tmp 157) 29, type := 4, pos := "law.go:113", after := #[{ on := 12, ground := Ground.data }, { on := 17, ground := Ground.data }, { on := 8, ground := Ground.guard }], guard := some (8, true) } : Oper)) (v := undef) rfl (by kernel_rfl) (by kernel_rfl) (by kernel_rfl) (fun _ _ _ h => h) (Or.inr ⟨by rfl, rfl⟩) (by assumption) ?_
          (try simp only [Act.put, List.setIfInBounds_toArray, List.set_cons_zero, List.set_cons_succ])
          refine wpAnyH_take (i := 19) (oi := ({ dst := some 159, op := Op.pick (Operand.tmp 148) (Operand.tmp 158) (Operand.const (Value.bool false)), type := 4, pos := "law.go:113", after := #[{ on := 8, ground := Ground.data }, { on := 18, ground := Ground.data }], guard := none } : Oper)) (v := ?_) rfl (by kernel_rfl) (by kernel_rfl) (by kernel_rfl) (fun _ _ _ h => h) (Or.inl ⟨by rfl, ?_⟩) (by assumption) ?_
          rotate_left
          · intro w hSw; (try dsimp only at hSw); go_simp <;> with_reducible rfl
          (try simp only [Act.put, List.setIfInBounds_toArray, List.set_cons_zero, List.set_cons_succ])
          refine wpAnyH_take (i := 20) (oi := ({ dst := some 160, op := Op.move (Operand.tmp 159), type := 4, pos := "law.go:113", after := #[{ on := 19, ground := Ground.data }, { on := 17, ground := Ground.chain }], guard := none } : Oper)) (v := ?_) rfl (by kernel_rfl) (by kernel_rfl) (by kernel_rfl) (fun _ _ _ h => h) (Or.inl ⟨by rfl, ?_⟩) (by assumption) ?_
          rotate_left
          · intro w hSw; (try dsimp only at hSw); go_simp <;> with_reducible rfl
          (try simp only [Act.put, List.setIfInBounds_toArray, List.set_cons_zero, List.set_cons_succ])
          refine wpAnyH_take (i := 21) (oi := ({ dst := some 161, op := Op.fieldAddr 29 (Operand.tmp 15) 1, type := 0, pos := "law.go:113", after := #[{ on := 20, ground := Ground.guard }], guard := some (20, false) } : Oper)) (v := ?_) rfl (by kernel_rfl) (by kernel_rfl) (by kernel_rfl) (fun _ _ _ h => h) (Or.inl ⟨by rfl, ?_⟩) (by assumption) ?_
          rotate_left
          · intro w hSw; (try dsimp only at hSw); go_simp <;> with_reducible rfl
          (try simp only [Act.put, List.setIfInBounds_toArray, List.set_cons_zero, List.set_cons_succ])
          refine wpAnyH_take (i := 22) (oi := ({ dst := some 162, op := Op.load 27 (Operand.tmp 161), type := 27, pos := "law.go:113", after := #[{ on := 21, ground := Ground.data }, { on := 20, ground := Ground.guard }], guard := some (20, false) } : Oper)) (v := ?_) rfl (by kernel_rfl) (by kernel_rfl) (by kernel_rfl) (fun _ _ _ h => h) (Or.inl ⟨by rfl, ?_⟩) (by assumption) ?_
          rotate_left
          · intro w hSw; (try dsimp only at hSw); go_simp <;> with_reducible rfl
          (try simp only [Act.put, List.setIfInBounds_toArray, List.set_cons_zero, List.set_cons_succ])
          refine wpAnyH_take (i := 23) (oi := ({ dst := some 163, op := Op.binOp BinOp.eql 27 (Operand.tmp 162) (Operand.const (Value.int IntKind.i64 0)) 27, type := 4, pos := "law.go:113", after := #[{ on := 22, ground := Ground.data }, { on := 20, ground := Ground.guard }], guard := some (20, false) } : Oper)) (v := ?_) rfl (by kernel_rfl) (by kernel_rfl) (by kernel_rfl) (fun _ _ _ h => h) (Or.inl ⟨by rfl, ?_⟩) (by assumption) ?_
          rotate_left
          · intro w hSw; (try dsimp only at hSw); go_simp <;> with_reducible rfl
          (try simp only [Act.put, List.setIfInBounds_toArray, List.set_cons_zero, List.set_cons_succ])
          refine wpAnyH_take (i := 24) (oi := ({ dst := some 164, op := Op.move (Operand.tmp 163), type := 4, pos := "law.go:113", after := #[{ on := 23, ground := Ground.data }, { on := 20, ground := Ground.chain }, { on := 20, ground := Ground.guard }], guard := some (20, false) } : Oper)) (v := ?_) rfl (by kernel_rfl) (by kernel_rfl) (by kernel_rfl) (fun _ _ _ h => h) (Or.inl ⟨by rfl, ?_⟩) (by assumption) ?_
          rotate_left
          · intro w hSw; (try dsimp only at hSw); go_simp <;> with_reducible rfl
          (try simp only [Act.put, List.setIfInBounds_toArray, List.set_cons_zero, List.set_cons_succ])
          refine wpAnyH_take (i := 25) (oi := ({ dst := some 165, op := Op.fieldAddr 29 (Operand.tmp 16) 1, type := 0, pos := "law.go:113", after := #[{ on := 24, ground := Ground.guard }], guard := some (24, true) } : Oper)) (v := ?_) rfl (by kernel_rfl) (by kernel_rfl) (by kernel_rfl) (fun _ _ _ h => h) (Or.inl ⟨by rfl, ?_⟩) (by assumption) ?_
          rotate_left
          · intro w hSw; (try dsimp only at hSw); go_simp <;> with_reducible rfl
          (try simp only [Act.put, List.setIfInBounds_toArray, List.set_cons_zero, List.set_cons_succ])
          refine wpAnyH_take (i := 26) (oi := ({ dst := some 166, op := Op.load 27 (Operand.tmp 165), type := 27, pos := "law.go:113", after := #[{ on := 25, ground := Ground.data }, { on := 24, ground := Ground.guard }], guard := some (24, true) } : Oper)) (v := ?_) rfl (by kernel_rfl) (by kernel_rfl) (by kernel_rfl) (fun _ _ _ h => h) (Or.inl ⟨by rfl, ?_⟩) (by assumption) ?_
          rotate_left
          · intro w hSw; (try dsimp only at hSw); go_simp <;> with_reducible rfl
          (try simp only [Act.put, List.setIfInBounds_toArray, List.set_cons_zero, List.set_cons_succ])
          refine wpAnyH_take (i := 27) (oi := ({ dst := some 167, op := Op.binOp BinOp.eql 27 (Operand.tmp 166) (Operand.const (Value.int IntKind.i64 0)) 27, type := 4, pos := "law.go:113", after := #[{ on := 26, ground := Ground.data }, { on := 24, ground := Ground.guard }], guard := some (24, true) } : Oper)) (v := ?_) rfl (by kernel_rfl) (by kernel_rfl) (by kernel_rfl) (fun _ _ _ h => h) (Or.inl ⟨by rfl, ?_⟩) (by assumption) ?_
          rotate_left
          · intro w hSw; (try dsimp only at hSw); go_simp <;> with_reducible rfl
          (try simp only [Act.put, List.setIfInBounds_toArray, List.set_cons_zero, List.set_cons_succ])
          refine wpAnyH_take (i := 28) (oi := ({ dst := some 168, op := Op.pick (Operand.tmp 164) (Operand.tmp 167) (Operand.const (Value.bool false)), type := 4, pos := "law.go:113", after := #[{ on := 24, ground := Ground.data }, { on := 27, ground := Ground.data }, { on := 20, ground := Ground.guard }], guard := some (20, false) } : Oper)) (v := ?_) rfl (by kernel_rfl) (by kernel_rfl) (by kernel_rfl) (fun _ _ _ h => h) (Or.inl ⟨by rfl, ?_⟩) (by assumption) ?_
          rotate_left
          · intro w hSw; (try dsimp only at hSw); go_simp <;> with_reducible rfl
          (try simp only [Act.put, List.setIfInBounds_toArray, List.set_cons_zero, List.set_cons_succ])
          refine wpAnyH_take (i := 29) (oi := ({ dst := some 169, op := Op.move (Operand.tmp 168), type := 4, pos := "law.go:113", after := #[{ on := 28, ground := Ground.data }, { on := 24, ground := Ground.chain }, { on := 20, ground := Ground.guard }], guard := some (20, false) } : Oper)) (v := ?_) rfl (by kernel_rfl) (by kernel_rfl) (by kernel_rfl) (fun _ _ _ h => h) (Or.inl ⟨by rfl, ?_⟩) (by assumption) ?_
          rotate_left
          · intro w hSw; (try dsimp only at hSw); go_simp <;> with_reducible rfl
          (try simp only [Act.put, List.setIfInBounds_toArray, List.set_cons_zero, List.set_cons_succ])
          refine wpAnyH_take (i := 30) (oi := ({ dst := some 170, op := Op.fieldAddr 29 (Operand.tmp 15) 0, type := 0, pos := "law.go:113", after := #[{ on := 29, ground := Ground.guard }], guard := some (29, true) } : Oper)) (v := ?_) rfl (by kernel_rfl) (by kernel_rfl) (by kernel_rfl) (fun _ _ _ h => h) (Or.inl ⟨by rfl, ?_⟩) (by assumption) ?_
          rotate_left
          · intro w hSw; (try dsimp only at hSw); go_simp <;> with_reducible rfl
          (try simp only [Act.put, List.setIfInBounds_toArray, List.set_cons_zero, List.set_cons_succ])
          refine wpAnyH_take (i := 31) (oi := ({ dst := some 171, op := Op.load 25 (Operand.tmp 170), type := 25, pos := "law.go:113", after := #[{ on := 30, ground := Ground.data }, { on := 29, ground := Ground.guard }], guard := some (29, true) } : Oper)) (v := ?_) rfl (by kernel_rfl) (by kernel_rfl) (by kernel_rfl) (fun _ _ _ h => h) (Or.inl ⟨by rfl, ?_⟩) (by assumption) ?_
          rotate_left
          · intro w hSw; (try dsimp only at hSw); go_simp <;> with_reducible rfl
          (try simp only [Act.put, List.setIfInBounds_toArray, List.set_cons_zero, List.set_cons_succ])
          refine wpAnyH_take (i := 32) (oi := ({ dst := some 172, op := Op.load 25 (Operand.tmp 10), type := 25, pos := "law.go:113", after := #[{ on := 29, ground := Ground.guard }], guard := some (29, true) } : Oper)) (v := ?_) rfl (by kernel_rfl) (by kernel_rfl) (by kernel_rfl) (fun _ _ _ h => h) (Or.inl ⟨by rfl, ?_⟩) (by assumption) ?_
          rotate_left
          · intro w hSw; (try dsimp only at hSw); go_simp <;> with_reducible rfl
          (try simp only [Act.put, List.setIfInBounds_toArray, List.set_cons_zero, List.set_cons_succ])
          refine wpAnyH_take (i := 34) (oi := ({ dst := some 174, op := Op.load 25 (Operand.tmp 8), type := 25, pos := "law.go:113", after := #[{ on := 29, ground := Ground.guard }], guard := some (29, true) } : Oper)) (v := ?_) rfl (by kernel_rfl) (by kernel_rfl) (by kernel_rfl) (fun _ _ _ h => h) (Or.inl ⟨by rfl, ?_⟩) (by assumption) ?_
          rotate_left
          · intro w hSw; (try dsimp only at hSw); go_simp <;> with_reducible rfl
          (try simp only [Act.put, List.setIfInBounds_toArray, List.set_cons_zero, List.set_cons_succ])
          refine wpAnyH_take (i := 35) (oi := ({ dst := some 175, op := Op.fieldAddr 29 (Operand.tmp 16) 0, type := 0, pos := "law.go:113", after := #[{ on := 29, ground := Ground.guard }], guard := some (29, true) } : Oper)) (v := ?_) rfl (by kernel_rfl) (by kernel_rfl) (by kernel_rfl) (fun _ _ _ h => h) (Or.inl ⟨by rfl, ?_⟩) (by assumption) ?_
          rotate_left
          · intro w hSw; (try dsimp only at hSw); go_simp <;> with_reducible rfl
          (try simp only [Act.put, List.setIfInBounds_toArray, List.set_cons_zero, List.set_cons_succ])
          refine wpAnyH_take (i := 36) (oi := ({ dst := some 176, op := Op.load 25 (Operand.tmp 175), type := 25, pos := "law.go:113", after := #[{ on := 35, ground := Ground.data }, { on := 29, ground := Ground.guard }], guard := some (29, true) } : Oper)) (v := ?_) rfl (by kernel_rfl) (by kernel_rfl) (by kernel_rfl) (fun _ _ _ h => h) (Or.inl ⟨by rfl, ?_⟩) (by assumption) ?_
          rotate_left
          · intro w hSw; (try dsimp only at hSw); go_simp <;> with_reducible rfl
          (try simp only [Act.put, List.setIfInBounds_toArray, List.set_cons_zero, List.set_cons_succ])
          refine wpAnyH_ready (rs := [33]) (by kernel_rfl) (by simp) ?_
          refine AllReadyH.cons (o := ({ dst := some 173, op := Op.call { callee := Callee.value (Operand.func 12), args := #[Operand.tmp 171, Operand.tmp 172], argTypes := #[25, 25] }, type := 29, pos := "law.go:113", after := #[{ on := 31, ground := Ground.data }, { on := 32, ground := Ground.data }, { on := 29, ground := Ground.chain }, { on := 29, ground := Ground.guard }], guard := some (29, true) } : Oper)) rfl (fun K hK => ?_) ?_
          rotate_left
          · exact AllReadyH.nil
          go_simp
          go_at_call 12
          with_reducible refine (XP.out Hep.out _).mono ?_
          rintro e y0 ⟨rfl, hy0⟩
          have hB0 := below_step hsd hy0
          clear hHeld
          first | (with_reducible refine hK.out _ _ ?_ (fun hHeld => ?_)) | (go_wp2_with fail; with_reducible refine hK.out _ _ ?_ (fun hHeld => ?_))
          · with_reducible exact ⟨cell_below hB0 ha0, cell_below hB0 ha1, cell_below hB0 hb0, cell_below hB0 hb1, cell_below hB0 hc0, cell_below hB0 hc1, cell_below hB0 hp0, cell_below hB0 hp1, cell_below hB0 hp2, cell_below hB0 hq0, cell_below hB0 hq1, cell_below hB0 hq2, hB0⟩
          clear hK K
          (try simp only [Act.put, List.setIfInBounds_toArray, List.set_cons_zero, List.set_cons_succ])
          refine wpAnyH_ready (rs := [37]) (by kernel_rfl) (by simp) ?_
          refine AllReadyH.cons (o := ({ dst := some 177, op := Op.call { callee := Callee.value (Operand.func 12), args := #[Operand.tmp 174, Operand.tmp 176], argTypes := #[25, 25] }, type := 29, pos := "law.go:113", after := #[{ on := 34, ground := Ground.data }, { on := 36, ground := Ground.data }, { on := 33, ground := Ground.chain }, { on := 29, ground := Ground.guard }], guard := some (29, true) } : Oper)) rfl (fun K hK => ?_) ?_
          rotate_left
          · exact AllReadyH.nil
          go_simp
          go_at_call 12
          with_reducible refine (XQ.out Heq.out _).mono ?_
          rintro e y1 ⟨rfl, hy1⟩
          have hB1 := below_step hB0 hy1
          clear hHeld
          first | (with_reducible refine hK.out _ _ ?_ (fun hHeld => ?_)) | (go_wp2_with fail; with_reducible refine hK.out _ _ ?_ (fun hHeld => ?_))
          · with_reducible exact ⟨cell_below hB1 ha0, cell_below hB1 ha1, cell_below hB1 hb0, cell_below hB1 hb1, cell_below hB1 hc0, cell_below hB1 hc1, cell_below hB1 hp0, cell_below hB1 hp1, cell_below hB1 hp2, cell_below hB1 hq0, cell_below hB1 hq1, cell_below hB1 hq2, hB1⟩
          clear hK K
          (try simp only [Act.put, List.setIfInBounds_toArray, List.set_cons_zero, List.set_cons_succ])
          refine wpAnyH_take (i := 38) (oi := ({ dst := some 178, op := Op.binOp BinOp.neq 29 (Operand.tmp 173) (Operand.tmp 177) 29, type := 4, pos := "law.go:113", after := #[{ on := 33, ground := Ground.data }, { on := 37, ground := Ground.data }, { on := 29, ground := Ground.guard }], guard := some (29, true) } : Oper)) (v := ?_) rfl (by kernel_rfl) (by kernel_rfl) (by kernel_rfl) (fun _ _ _ h => h) (Or.inl ⟨by rfl, ?_⟩) (by assumption) ?_
          rotate_left
          · intro w hSw; (try dsimp only at hSw); go_simp <;> with_reducible rfl
          (try simp only [Act.put, List.setIfInBounds_toArray, List.set_cons_zero, List.set_cons_succ])
          refine wpAnyH_take (i := 39) (oi := ({ dst := some 179, op := Op.pick (Operand.tmp 169) (Operand.tmp 178) (Operand.const (Value.bool false)), type := 4, pos := "law.go:113", after := #[{ on := 29, ground := Ground.data }, { on := 38, ground := Ground.data }, { on := 20, ground := Ground.guard }], guard := some (20, false) } : Oper)) (v := ?_) rfl (by kernel_rfl) (by kernel_rfl) (by kernel_rfl) (fun _ _ _ h => h) (Or.inl ⟨by rfl, ?_⟩) (by assumption) ?_
          rotate_left
          · intro w hSw; (try dsimp only at hSw); go_simp <;> with_reducible rfl
          (try simp only [Act.put, List.setIfInBounds_toArray, List.set_cons_zero, List.set_cons_succ])
          refine wpAnyH_take (i := 40) (oi := ({ dst := some 180, op := Op.pick (Operand.tmp 160) (Operand.const (Value.bool true)) (Operand.tmp 179), type := 4, pos := "law.go:113", after := #[{ on := 20, ground := Ground.data }, { on := 39, ground := Ground.data }], guard := none } : Oper)) (v := ?_) rfl (by kernel_rfl) (by kernel_rfl) (by kernel_rfl) (fun _ _ _ h => h) (Or.inl ⟨by rfl, ?_⟩) (by assumption) ?_
          rotate_left
          · intro w hSw; (try dsimp only at hSw); go_simp <;> with_reducible rfl
          (try simp only [Act.put, List.setIfInBounds_toArray, List.set_cons_zero, List.set_cons_succ])
          refine wpAnyH_done (by kernel_rfl) ?_ _
          all_goals
            go_wp2_with fail
            go_meet
            exact ⟨rfl, by assumption⟩
        · as_aux_lemma =>
          have epe : (pE == 0) = true := by rw [ep]; rfl
          have epn : (pE != 0) = false := by rw [ep]; rfl
          have Hep := hid ep
          clear ep
          have eqe : (qE == 0) = false := by rw [eq]; rfl
          have eqn : (qE != 0) = true := by rw [eq]; rfl
          have Heq := hid eq
          clear eq
          go_quiet (fail)
          go_wp2_with fail
          go_meet
          exact ⟨rfl, below_drewN (Below.refl _ _) _⟩
      · have hbb : (bN == 0) = false := by simpa using hbn
        have hbb' : (bN != 0) = true := by simpa using hbn
        have HBN := hid hbn
        clear hbn
        rcases eq with eq | eq
        · as_aux_lemma =>
          have epe : (pE == 0) = true := by rw [ep]; rfl
          have epn : (pE != 0) = false := by rw [ep]; rfl
          have Hep := hid ep
          clear ep
          have eqe : (qE == 0) = true := by rw [eq]; rfl
          have eqn : (qE != 0) = false := by rw [eq]; rfl
          have Heq := hid eq
          clear eq
          go_region_held3 (fun V => V.cell? ⟨w2.heap.size, 0, none⟩ = some (.int .i64 aN) ∧ V.cell? ⟨w2.heap.size, 1, none⟩ = some (.int .i64 aD) ∧ V.cell? ⟨w3.heap.size, 0, none⟩ = some (.int .i64 bN) ∧ V.cell? ⟨w3.heap.size, 1, none⟩ = some (.int .i64 bD) ∧ V.cell? ⟨w4.heap.size, 0, none⟩ = some (.int .i64 cN) ∧ V.cell? ⟨w4.heap.size, 1, none⟩ = some (.int .i64 cD) ∧ V.cell? ⟨v3.heap.size, 0, none⟩ = some (.int .i64 pN) ∧ V.cell? ⟨v3.heap.size, 1, none⟩ = some (.int .i64 pD) ∧ V.cell? ⟨v3.heap.size, 2, none⟩ = some (.int .i64 pE) ∧ V.cell? ⟨v4.heap.size, 0, none⟩ = some (.int .i64 qN) ∧ V.cell? ⟨v4.heap.size, 1, none⟩ = some (.int .i64 qD) ∧ V.cell? ⟨v4.heap.size, 2, none⟩ = some (.int .i64 qE) ∧ Below wF.heap.size wF V)
            (first | (with_reducible exact ⟨ha0, ha1, hb0, hb1, hc0, hc1, hp0, hp1, hp2, hq0, hq1, hq2, hs⟩) | (with_reducible exact ⟨cell_below hsd ha0, cell_below hsd ha1, cell_below hsd hb0, cell_below hsd hb1, cell_below hsd hc0, cell_below hsd hc1, cell_below hsd hp0, cell_below hsd hp1, cell_below hsd hp2, cell_below hsd hq0, cell_below hsd hq1, cell_below hsd hq2, hsd⟩) | (with_reducible exact ⟨cell_below (by with_reducible assumption) ha0, cell_below (by with_reducible assumption) ha1, cell_below (by with_reducible assumption) hb0, cell_below (by with_reducible assumption) hb1, cell_below (by with_reducible assumption) hc0, cell_below (by with_reducible assumption) hc1, cell_below (by with_reducible assumption) hp0, cell_below (by with_reducible assumption) hp1, cell_below (by with_reducible assumption) hp2, cell_below (by with_reducible assumption) hq0, cell_below (by with_reducible assumption) hq1, cell_below (by with_reducible assumption) hq2, (by with_reducible assumption)⟩) | fail)
            (first
              | (go_at_call 15; (with_reducible refine (XD.out Hep.out HBN.out _).mono ?_); rintro e y0 ⟨rfl, hy0⟩; have hB0 : Below wF.heap.size wF y0 := below_step (by with_reducible assumption) hy0)
              | (go_at_call 13; (with_reducible refine (is_any aN aD _).mono ?_); rintro e y1 ⟨rfl, hy1⟩; have hB1 : Below wF.heap.size wF y1 := below_step (by with_reducible assumption) hy1)
              | (go_at_call 12; (with_reducible refine (XP.out Hep.out _).mono ?_); rintro e y2 ⟨rfl, hy2⟩; have hB2 : Below wF.heap.size wF y2 := below_step (by with_reducible assumption) hy2)
              | (go_at_call 12; (with_reducible refine (XQ.out Heq.out _).mono ?_); rintro e y3 ⟨rfl, hy3⟩; have hB3 : Below wF.heap.size wF y3 := below_step (by with_reducible assumption) hy3))
          all_goals
            go_wp2_with fail
            go_meet
            exact ⟨rfl, by assumption⟩
        · as_aux_lemma =>
          have epe : (pE == 0) = true := by rw [ep]; rfl
          have epn : (pE != 0) = false := by rw [ep]; rfl
          have Hep := hid ep
          clear ep
          have eqe : (qE == 0) = false := by rw [eq]; rfl
          have eqn : (qE != 0) = true := by rw [eq]; rfl
          have Heq := hid eq
          clear eq
          refine wp_region_held_drew (S := (fun V => V.cell? ⟨w2.heap.size, 0, none⟩ = some (.int .i64 aN) ∧ V.cell? ⟨w2.heap.size, 1, none⟩ = some (.int .i64 aD) ∧ V.cell? ⟨w3.heap.size, 0, none⟩ = some (.int .i64 bN) ∧ V.cell? ⟨w3.heap.size, 1, none⟩ = some (.int .i64 bD) ∧ V.cell? ⟨w4.heap.size, 0, none⟩ = some (.int .i64 cN) ∧ V.cell? ⟨w4.heap.size, 1, none⟩ = some (.int .i64 cD) ∧ V.cell? ⟨v3.heap.size, 0, none⟩ = some (.int .i64 pN) ∧ V.cell? ⟨v3.heap.size, 1, none⟩ = some (.int .i64 pD) ∧ V.cell? ⟨v3.heap.size, 2, none⟩ = some (.int .i64 pE) ∧ V.cell? ⟨v4.heap.size, 0, none⟩ = some (.int .i64 qN) ∧ V.cell? ⟨v4.heap.size, 1, none⟩ = some (.int .i64 qD) ∧ V.cell? ⟨v4.heap.size, 2, none⟩ = some (.int .i64 qE) ∧ Below wF.heap.size wF V)) (by kernel_rfl) ?_ (fun hHeld => ?_)
          · with_reducible exact ⟨cell_below hsd ha0, cell_below hsd ha1, cell_below hsd hb0, cell_below hsd hb1, cell_below hsd hc0, cell_below hsd hc1, cell_below hsd hp0, cell_below hsd hp1, cell_below hsd hp2, cell_below hsd hq0, cell_below hsd hq1, cell_below hsd hq2, hsd⟩
          refine wpAnyH_take (i := 0) (oi := ({ dst := some 140, op := Op.fieldAddr 29 (Operand.tmp 15) 1, type := 0, pos := "law.go:113", after := #[], guard := none } : Oper)) (v := ?_) rfl (by kernel_rfl) (by kernel_rfl) (by kernel_rfl) (fun _ _ _ h => h) (Or.inl ⟨by rfl, ?_⟩) (by assumption) ?_
          rotate_left
          · intro w hSw; (try dsimp only at hSw); go_simp <;> with_reducible rfl
          (try simp only [Act.put, List.setIfInBounds_toArray, List.set_cons_zero, List.set_cons_succ])
          refine wpAnyH_take (i := 1) (oi := ({ dst := some 141, op := Op.load 27 (Operand.tmp 140), type := 27, pos := "law.go:113", after := #[{ on := 0, ground := Ground.data }], guard := none } : Oper)) (v := ?_) rfl (by kernel_rfl) (by kernel_rfl) (by kernel_rfl) (fun _ _ _ h => h) (Or.inl ⟨by rfl, ?_⟩) (by assumption) ?_
          rotate_left
          · intro w hSw; (try dsimp only at hSw); go_simp <;> with_reducible rfl
          (try simp only [Act.put, List.setIfInBounds_toArray, List.set_cons_zero, List.set_cons_succ])
          refine wpAnyH_take (i := 2) (oi := ({ dst := some 142, op := Op.binOp BinOp.eql 27 (Operand.tmp 141) (Operand.const (Value.int IntKind.i64 0)) 27, type := 4, pos := "law.go:113", after := #[{ on := 1, ground := Ground.data }], guard := none } : Oper)) (v := ?_) rfl (by kernel_rfl) (by kernel_rfl) (by kernel_rfl) (fun _ _ _ h => h) (Or.inl ⟨by rfl, ?_⟩) (by assumption) ?_
          rotate_left
          · intro w hSw; (try dsimp only at hSw); go_simp <;> with_reducible rfl
          (try simp only [Act.put, List.setIfInBounds_toArray, List.set_cons_zero, List.set_cons_succ])
          refine wpAnyH_take (i := 3) (oi := ({ dst := some 143, op := Op.move (Operand.tmp 142), type := 4, pos := "law.go:113", after := #[{ on := 2, ground := Ground.data }], guard := none } : Oper)) (v := ?_) rfl (by kernel_rfl) (by kernel_rfl) (by kernel_rfl) (fun _ _ _ h => h) (Or.inl ⟨by rfl, ?_⟩) (by assumption) ?_
          rotate_left
          · intro w hSw; (try dsimp only at hSw); go_simp <;> with_reducible rfl
          (try simp only [Act.put, List.setIfInBounds_toArray, List.set_cons_zero, List.set_cons_succ])
          refine wpAnyH_take (i := 4) (oi := ({ dst := some 144, op := Op.fieldAddr 25 (Operand.tmp 9) 0, type := 0, pos := "law.go:113", after := #[{ on := 3, ground := Ground.guard }], guard := some (3, true) } : Oper)) (v := ?_) rfl (by kernel_rfl) (by kernel_rfl) (by kernel_rfl) (fun _ _ _ h => h) (Or.inl ⟨by rfl, ?_⟩) (by assumption) ?_
          rotate_left
          · intro w hSw; (try dsimp only at hSw); go_simp <;> with_reducible rfl
          (try simp only [Act.put, List.setIfInBounds_toArray, List.set_cons_zero, List.set_cons_succ])
          refine wpAnyH_take (i := 5) (oi := ({ dst := some 145, op := Op.load 3 (Operand.tmp 144), type := 3, pos := "law.go:113", after := #[{ on := 4, ground := Ground.data }, { on := 3, ground := Ground.guard }], guard := some (3, true) } : Oper)) (v := ?_) rfl (by kernel_rfl) (by kernel_rfl) (by kernel_rfl) (fun _ _ _ h => h) (Or.inl ⟨by rfl, ?_⟩) (by assumption) ?_
          rotate_left
          · intro w hSw; (try dsimp only at hSw); go_simp <;> with_reducible rfl
          (try simp only [Act.put, List.setIfInBounds_toArray, List.set_cons_zero, List.set_cons_succ])
          refine wpAnyH_take (i := 6) (oi := ({ dst := some 146, op := Op.binOp BinOp.neq 3 (Operand.tmp 145) (Operand.const (Value.int IntKind.i64 0)) 3, type := 4, pos := "law.go:113", after := #[{ on := 5, ground := Ground.data }, { on := 3, ground := Ground.guard }], guard := some (3, true) } : Oper)) (v := ?_) rfl (by kernel_rfl) (by kernel_rfl) (by kernel_rfl) (fun _ _ _ h => h) (Or.inl ⟨by rfl, ?_⟩) (by assumption) ?_
          rotate_left
          · intro w hSw; (try dsimp only at hSw); go_simp <;> with_reducible rfl
          (try simp only [Act.put, List.setIfInBounds_toArray, List.set_cons_zero, List.set_cons_succ])
          refine wpAnyH_take (i := 7) (oi := ({ dst := some 147, op := Op.pick (Operand.tmp 143) (Operand.tmp 146) (Operand.const (Value.bool false)), type := 4, pos := "law.go:113", after := #[{ on := 3, ground := Ground.data }, { on := 6, ground := Ground.data }], guard := none } : Oper)) (v := ?_) rfl (by kernel_rfl) (by kernel_rfl) (by kernel_rfl) (fun _ _ _ h => h) (Or.inl ⟨by rfl, ?_⟩) (by assumption) ?_
          rotate_left
          · intro w hSw; (try dsimp only at hSw); go_simp <;> with_reducible rfl
          (try simp only [Act.put, List.setIfInBounds_toArray, List.set_cons_zero, List.set_cons_succ])
          refine wpAnyH_take (i := 8) (oi := ({ dst := some 148, op := Op.move (Operand.tmp 147), type := 4, pos := "law.go:113", after := #[{ on := 7, ground := Ground.data }, { on := 3, ground := Ground.chain }], guard := none } : Oper)) (v := ?_) rfl (by kernel_rfl) (by kernel_rfl) (by kernel_rfl) (fun _ _ _ h => h) (Or.inl ⟨by rfl, ?_⟩) (by assumption) ?_
          rotate_left
          · intro w hSw; (try dsimp only at hSw); go_simp <;> with_reducible rfl
          (try simp only [Act.put, List.setIfInBounds_toArray, List.set_cons_zero, List.set_cons_succ])
          refine wpAnyH_take (i := 9) (oi := ({ dst := some 149, op := Op.fieldAddr 29 (Operand.tmp 15) 0, type := 0, pos := "law.go:113", after := #[{ on := 8, ground := Ground.guard }], guard := some (8, true) } : Oper)) (v := ?_) rfl (by kernel_rfl) (by kernel_rfl) (by kernel_rfl) (fun _ _ _ h => h) (Or.inl ⟨by rfl, ?_⟩) (by assumption) ?_
          rotate_left
          · intro w hSw; (try dsimp only at hSw); go_simp <;> with_reducible rfl
          (try simp only [Act.put, List.setIfInBounds_toArray, List.set_cons_zero, List.set_cons_succ])
          refine wpAnyH_take (i := 10) (oi := ({ dst := some 150, op := Op.load 25 (Operand.tmp 149), type := 25, pos := "law.go:113", after := #[{ on := 9, ground := Ground.data }, { on := 8, ground := Ground.guard }], guard := some (8, true) } : Oper)) (v := ?_) rfl (by kernel_rfl) (by kernel_rfl) (by kernel_rfl) (fun _ _ _ h => h) (Or.inl ⟨by rfl, ?_⟩) (by assumption) ?_
          rotate_left
          · intro w hSw; (try dsimp only at hSw); go_simp <;> with_reducible rfl
          (try simp only [Act.put, List.setIfInBounds_toArray, List.set_cons_zero, List.set_cons_succ])
          refine wpAnyH_take (i := 11) (oi := ({ dst := some 151, op := Op.load 25 (Operand.tmp 9), type := 25, pos := "law.go:113", after := #[{ on := 8, ground := Ground.guard }], guard := some (8, true) } : Oper)) (v := ?_) rfl (by kernel_rfl) (by kernel_rfl) (by kernel_rfl) (fun _ _ _ h => h) (Or.inl ⟨by rfl, ?_⟩) (by assumption) ?_
          rotate_left
          · intro w hSw; (try dsimp only at hSw); go_simp <;> with_reducible rfl
          (try simp only [Act.put, List.setIfInBounds_toArray, List.set_cons_zero, List.set_cons_succ])
          refine wpAnyH_take (i := 13) (oi := ({ dst := some 153, op := Op.fieldAddr 25 (Operand.tmp 8) 0, type := 0, pos := "law.go:113", after := #[{ on := 8, ground := Ground.guard }], guard := some (8, true) } : Oper)) (v := ?_) rfl (by kernel_rfl) (by kernel_rfl) (by kernel_rfl) (fun _ _ _ h => h) (Or.inl ⟨by rfl, ?_⟩) (by assumption) ?_
          rotate_left
          · intro w hSw; (try dsimp only at hSw); go_simp <;> with_reducible rfl
          (try simp only [Act.put, List.setIfInBounds_toArray, List.set_cons_zero, List.set_cons_succ])
          refine wpAnyH_take (i := 14) (oi := ({ dst := some 154, op := Op.load 3 (Operand.tmp 153), type := 3, pos := "law.go:113", after := #[{ on := 13, ground := Ground.data }, { on := 8, ground := Ground.guard }], guard := some (8, true) } : Oper)) (v := ?_) rfl (by kernel_rfl) (by kernel_rfl) (by kernel_rfl) (fun _ _ _ h => h) (Or.inl ⟨by rfl, ?_⟩) (by assumption) ?_
          rotate_left
          · intro w hSw; (try dsimp only at hSw); go_simp <;> with_reducible rfl
          (try simp only [Act.put, List.setIfInBounds_toArray, List.set_cons_zero, List.set_cons_succ])
          refine wpAnyH_take (i := 15) (oi := ({ dst := some 155, op := Op.fieldAddr 25 (Operand.tmp 8) 1, type := 0, pos := "law.go:113", after := #[{ on := 8, ground := Ground.guard }], guard := some (8, true) } : Oper)) (v := ?_) rfl (by kernel_rfl) (by kernel_rfl) (by kernel_rfl) (fun _ _ _ h => h) (Or.inl ⟨by rfl, ?_⟩) (by assumption) ?_
          rotate_left
          · intro w hSw; (try dsimp only at hSw); go_simp <;> with_reducible rfl
          (try simp only [Act.put, List.setIfInBounds_toArray, List.set_cons_zero, List.set_cons_succ])
          refine wpAnyH_take (i := 16) (oi := ({ dst := some 156, op := Op.load 3 (Operand.tmp 155), type := 3, pos := "law.go:113", after := #[{ on := 15, ground := Ground.data }, { on := 8, ground := Ground.guard }], guard := some (8, true) } : Oper)) (v := ?_) rfl (by kernel_rfl) (by kernel_rfl) (by kernel_rfl) (fun _ _ _ h => h) (Or.inl ⟨by rfl, ?_⟩) (by assumption) ?_
          rotate_left
          · intro w hSw; (try dsimp only at hSw); go_simp <;> with_reducible rfl
          (try simp only [Act.put, List.setIfInBounds_toArray, List.set_cons_zero, List.set_cons_succ])
          refine wpAnyH_ready (rs := [12]) (by kernel_rfl) (by simp) ?_
          refine AllReadyH.cons (o := ({ dst := some 152, op := Op.call { callee := Callee.value (Operand.func 15), args := #[Operand.tmp 150, Operand.tmp 151], argTypes := #[25, 25] }, type := 29, pos := "law.go:113", after := #[{ on := 10, ground := Ground.data }, { on := 11, ground := Ground.data }, { on := 8, ground := Ground.chain }, { on := 8, ground := Ground.guard }], guard := some (8, true) } : Oper)) rfl (fun K hK => ?_) ?_
          rotate_left
          · exact AllReadyH.nil
          go_simp
          go_at_call 15
          with_reducible refine (XD.out Hep.out HBN.out _).mono ?_
          rintro e y0 ⟨rfl, hy0⟩
          have hB0 := below_step hsd hy0
          clear hHeld
          first | (with_reducible refine hK.out _ _ ?_ (fun hHeld => ?_)) | (go_wp2_with fail; with_reducible refine hK.out _ _ ?_ (fun hHeld => ?_))
          · with_reducible exact ⟨cell_below hB0 ha0, cell_below hB0 ha1, cell_below hB0 hb0, cell_below hB0 hb1, cell_below hB0 hc0, cell_below hB0 hc1, cell_below hB0 hp0, cell_below hB0 hp1, cell_below hB0 hp2, cell_below hB0 hq0, cell_below hB0 hq1, cell_below hB0 hq2, hB0⟩
          clear hK K
          (try simp only [Act.put, List.setIfInBounds_toArray, List.set_cons_zero, List.set_cons_succ])
          refine wpAnyH_ready (rs := [17]) (by kernel_rfl) (by simp) ?_
          refine AllReadyH.cons (o := ({ dst := some 157, op := Op.call { callee := Callee.value (Operand.func 13), args := #[Operand.tmp 154, Operand.tmp 156], argTypes := #[3, 3] }, type := 29, pos := "law.go:113", after := #[{ on := 14, ground := Ground.data }, { on := 16, ground := Ground.data }, { on := 12, ground := Ground.chain }, { on := 8, ground := Ground.guard }], guard := some (8, true) } : Oper)) rfl (fun K hK => ?_) ?_
          rotate_left
          · exact AllReadyH.nil
          go_simp
          go_at_call 13
          with_reducible refine (is_any aN aD _).mono ?_
          rintro e y1 ⟨rfl, hy1⟩
          have hB1 := below_step hB0 hy1
          clear hHeld
          first | (with_reducible refine hK.out _ _ ?_ (fun hHeld => ?_)) | (go_wp2_with fail; with_reducible refine hK.out _ _ ?_ (fun hHeld => ?_))
          · with_reducible exact ⟨cell_below hB1 ha0, cell_below hB1 ha1, cell_below hB1 hb0, cell_below hB1 hb1, cell_below hB1 hc0, cell_below hB1 hc1, cell_below hB1 hp0, cell_below hB1 hp1, cell_below hB1 hp2, cell_below hB1 hq0, cell_below hB1 hq1, cell_below hB1 hq2, hB1⟩
          clear hK K
          (try simp only [Act.put, List.setIfInBounds_toArray, List.set_cons_zero, List.set_cons_succ])
          refine wpAnyH_take (i := 18) (oi := ({ dst := some 158, op := Op.binOp BinOp.neq 29 (Operand.tmp 152) (Operand.tmp 157) 29, type := 4, pos := "law.go:113", after := #[{ on := 12, ground := Ground.data }, { on := 17, ground := Ground.data }, { on := 8, ground := Ground.guard }], guard := some (8, true) } : Oper)) (v := ?_) rfl (by kernel_rfl) (by kernel_rfl) (by kernel_rfl) (fun _ _ _ h => h) (Or.inl ⟨by rfl, ?_⟩) (by assumption) ?_
          rotate_left
          · intro w hSw; (try dsimp only at hSw); go_simp <;> with_reducible rfl
          (try simp only [Act.put, List.setIfInBounds_toArray, List.set_cons_zero, List.set_cons_succ])
          refine wpAnyH_take (i := 19) (oi := ({ dst := some 159, op := Op.pick (Operand.tmp 148) (Operand.tmp 158) (Operand.const (Value.bool false)), type := 4, pos := "law.go:113", after := #[{ on := 8, ground := Ground.data }, { on := 18, ground := Ground.data }], guard := none } : Oper)) (v := ?_) rfl (by kernel_rfl) (by kernel_rfl) (by kernel_rfl) (fun _ _ _ h => h) (Or.inl ⟨by rfl, ?_⟩) (by assumption) ?_
          rotate_left
          · intro w hSw; (try dsimp only at hSw); go_simp <;> with_reducible rfl
          (try simp only [Act.put, List.setIfInBounds_toArray, List.set_cons_zero, List.set_cons_succ])
          refine wpAnyH_take (i := 20) (oi := ({ dst := some 160, op := Op.move (Operand.tmp 159), type := 4, pos := "law.go:113", after := #[{ on := 19, ground := Ground.data }, { on := 17, ground := Ground.chain }], guard := none } : Oper)) (v := ?_) rfl (by kernel_rfl) (by kernel_rfl) (by kernel_rfl) (fun _ _ _ h => h) (Or.inl ⟨by rfl, ?_⟩) (by assumption) ?_
          rotate_left
          · intro w hSw; (try dsimp only at hSw); go_simp <;> with_reducible rfl
          (try simp only [Act.put, List.setIfInBounds_toArray, List.set_cons_zero, List.set_cons_succ])
          refine wpAnyH_take (i := 21) (oi := ({ dst := some 161, op := Op.fieldAddr 29 (Operand.tmp 15) 1, type := 0, pos := "law.go:113", after := #[{ on := 20, ground := Ground.guard }], guard := some (20, false) } : Oper)) (v := ?_) rfl (by kernel_rfl) (by kernel_rfl) (by kernel_rfl) (fun _ _ _ h => h) (Or.inl ⟨by rfl, ?_⟩) (by assumption) ?_
          rotate_left
          · intro w hSw; (try dsimp only at hSw); go_simp <;> with_reducible rfl
          (try simp only [Act.put, List.setIfInBounds_toArray, List.set_cons_zero, List.set_cons_succ])
          refine wpAnyH_take (i := 22) (oi := ({ dst := some 162, op := Op.load 27 (Operand.tmp 161), type := 27, pos := "law.go:113", after := #[{ on := 21, ground := Ground.data }, { on := 20, ground := Ground.guard }], guard := some (20, false) } : Oper)) (v := ?_) rfl (by kernel_rfl) (by kernel_rfl) (by kernel_rfl) (fun _ _ _ h => h) (Or.inl ⟨by rfl, ?_⟩) (by assumption) ?_
          rotate_left
          · intro w hSw; (try dsimp only at hSw); go_simp <;> with_reducible rfl
          (try simp only [Act.put, List.setIfInBounds_toArray, List.set_cons_zero, List.set_cons_succ])
          refine wpAnyH_take (i := 23) (oi := ({ dst := some 163, op := Op.binOp BinOp.eql 27 (Operand.tmp 162) (Operand.const (Value.int IntKind.i64 0)) 27, type := 4, pos := "law.go:113", after := #[{ on := 22, ground := Ground.data }, { on := 20, ground := Ground.guard }], guard := some (20, false) } : Oper)) (v := ?_) rfl (by kernel_rfl) (by kernel_rfl) (by kernel_rfl) (fun _ _ _ h => h) (Or.inl ⟨by rfl, ?_⟩) (by assumption) ?_
          rotate_left
          · intro w hSw; (try dsimp only at hSw); go_simp <;> with_reducible rfl
          (try simp only [Act.put, List.setIfInBounds_toArray, List.set_cons_zero, List.set_cons_succ])
          refine wpAnyH_take (i := 24) (oi := ({ dst := some 164, op := Op.move (Operand.tmp 163), type := 4, pos := "law.go:113", after := #[{ on := 23, ground := Ground.data }, { on := 20, ground := Ground.chain }, { on := 20, ground := Ground.guard }], guard := some (20, false) } : Oper)) (v := ?_) rfl (by kernel_rfl) (by kernel_rfl) (by kernel_rfl) (fun _ _ _ h => h) (Or.inl ⟨by rfl, ?_⟩) (by assumption) ?_
          rotate_left
          · intro w hSw; (try dsimp only at hSw); go_simp <;> with_reducible rfl
          (try simp only [Act.put, List.setIfInBounds_toArray, List.set_cons_zero, List.set_cons_succ])
          refine wpAnyH_take (i := 25) (oi := ({ dst := some 165, op := Op.fieldAddr 29 (Operand.tmp 16) 1, type := 0, pos := "law.go:113", after := #[{ on := 24, ground := Ground.guard }], guard := some (24, true) } : Oper)) (v := ?_) rfl (by kernel_rfl) (by kernel_rfl) (by kernel_rfl) (fun _ _ _ h => h) (Or.inl ⟨by rfl, ?_⟩) (by assumption) ?_
          rotate_left
          · intro w hSw; (try dsimp only at hSw); go_simp <;> with_reducible rfl
          (try simp only [Act.put, List.setIfInBounds_toArray, List.set_cons_zero, List.set_cons_succ])
          refine wpAnyH_take (i := 26) (oi := ({ dst := some 166, op := Op.load 27 (Operand.tmp 165), type := 27, pos := "law.go:113", after := #[{ on := 25, ground := Ground.data }, { on := 24, ground := Ground.guard }], guard := some (24, true) } : Oper)) (v := ?_) rfl (by kernel_rfl) (by kernel_rfl) (by kernel_rfl) (fun _ _ _ h => h) (Or.inl ⟨by rfl, ?_⟩) (by assumption) ?_
          rotate_left
          · intro w hSw; (try dsimp only at hSw); go_simp <;> with_reducible rfl
          (try simp only [Act.put, List.setIfInBounds_toArray, List.set_cons_zero, List.set_cons_succ])
          refine wpAnyH_take (i := 27) (oi := ({ dst := some 167, op := Op.binOp BinOp.eql 27 (Operand.tmp 166) (Operand.const (Value.int IntKind.i64 0)) 27, type := 4, pos := "law.go:113", after := #[{ on := 26, ground := Ground.data }, { on := 24, ground := Ground.guard }], guard := some (24, true) } : Oper)) (v := ?_) rfl (by kernel_rfl) (by kernel_rfl) (by kernel_rfl) (fun _ _ _ h => h) (Or.inl ⟨by rfl, ?_⟩) (by assumption) ?_
          rotate_left
          · intro w hSw; (try dsimp only at hSw); go_simp <;> with_reducible rfl
          (try simp only [Act.put, List.setIfInBounds_toArray, List.set_cons_zero, List.set_cons_succ])
          refine wpAnyH_take (i := 28) (oi := ({ dst := some 168, op := Op.pick (Operand.tmp 164) (Operand.tmp 167) (Operand.const (Value.bool false)), type := 4, pos := "law.go:113", after := #[{ on := 24, ground := Ground.data }, { on := 27, ground := Ground.data }, { on := 20, ground := Ground.guard }], guard := some (20, false) } : Oper)) (v := ?_) rfl (by kernel_rfl) (by kernel_rfl) (by kernel_rfl) (fun _ _ _ h => h) (Or.inl ⟨by rfl, ?_⟩) (by assumption) ?_
          rotate_left
          · intro w hSw; (try dsimp only at hSw); go_simp <;> with_reducible rfl
          (try simp only [Act.put, List.setIfInBounds_toArray, List.set_cons_zero, List.set_cons_succ])
          refine wpAnyH_take (i := 29) (oi := ({ dst := some 169, op := Op.move (Operand.tmp 168), type := 4, pos := "law.go:113", after := #[{ on := 28, ground := Ground.data }, { on := 24, ground := Ground.chain }, { on := 20, ground := Ground.guard }], guard := some (20, false) } : Oper)) (v := ?_) rfl (by kernel_rfl) (by kernel_rfl) (by kernel_rfl) (fun _ _ _ h => h) (Or.inl ⟨by rfl, ?_⟩) (by assumption) ?_
          rotate_left
          · intro w hSw; (try dsimp only at hSw); go_simp <;> with_reducible rfl
          (try simp only [Act.put, List.setIfInBounds_toArray, List.set_cons_zero, List.set_cons_succ])
          refine wpAnyH_take (i := 30) (oi := ({ dst := some 170, op := Op.fieldAddr 29 (Operand.tmp 15) 0, type := 0, pos := "law.go:113", after := #[{ on := 29, ground := Ground.guard }], guard := some (29, true) } : Oper)) (v := undef) rfl (by kernel_rfl) (by kernel_rfl) (by kernel_rfl) (fun _ _ _ h => h) (Or.inr ⟨by rfl, rfl⟩) (by assumption) ?_
          (try simp only [Act.put, List.setIfInBounds_toArray, List.set_cons_zero, List.set_cons_succ])
          refine wpAnyH_take (i := 31) (oi := ({ dst := some 171, op := Op.load 25 (Operand.tmp 170), type := 25, pos := "law.go:113", after := #[{ on := 30, ground := Ground.data }, { on := 29, ground := Ground.guard }], guard := some (29, true) } : Oper)) (v := undef) rfl (by kernel_rfl) (by kernel_rfl) (by kernel_rfl) (fun _ _ _ h => h) (Or.inr ⟨by rfl, rfl⟩) (by assumption) ?_
          (try simp only [Act.put, List.setIfInBounds_toArray, List.set_cons_zero, List.set_cons_succ])
          refine wpAnyH_take (i := 32) (oi := ({ dst := some 172, op := Op.load 25 (Operand.tmp 10), type := 25, pos := "law.go:113", after := #[{ on := 29, ground := Ground.guard }], guard := some (29, true) } : Oper)) (v := undef) rfl (by kernel_rfl) (by kernel_rfl) (by kernel_rfl) (fun _ _ _ h => h) (Or.inr ⟨by rfl, rfl⟩) (by assumption) ?_
          (try simp only [Act.put, List.setIfInBounds_toArray, List.set_cons_zero, List.set_cons_succ])
          refine wpAnyH_take (i := 33) (oi := ({ dst := some 173, op := Op.call { callee := Callee.value (Operand.func 12), args := #[Operand.tmp 171, Operand.tmp 172], argTypes := #[25, 25] }, type := 29, pos := "law.go:113", after := #[{ on := 31, ground := Ground.data }, { on := 32, ground := Ground.data }, { on := 29, ground := Ground.chain }, { on := 29, ground := Ground.guard }], guard := some (29, true) } : Oper)) (v := undef) rfl (by kernel_rfl) (by kernel_rfl) (by kernel_rfl) (fun _ _ _ h => h) (Or.inr ⟨by rfl, rfl⟩) (by assumption) ?_
          (try simp only [Act.put, List.setIfInBounds_toArray, List.set_cons_zero, List.set_cons_succ])
          refine wpAnyH_take (i := 34) (oi := ({ dst := some 174, op := Op.load 25 (Operand.tmp 8), type := 25, pos := "law.go:113", after := #[{ on := 29, ground := Ground.guard }], guard := some (29, true) } : Oper)) (v := undef) rfl (by kernel_rfl) (by kernel_rfl) (by kernel_rfl) (fun _ _ _ h => h) (Or.inr ⟨by rfl, rfl⟩) (by assumption) ?_
          (try simp only [Act.put, List.setIfInBounds_toArray, List.set_cons_zero, List.set_cons_succ])
          refine wpAnyH_take (i := 35) (oi := ({ dst := some 175, op := Op.fieldAddr 29 (Operand.tmp 16) 0, type := 0, pos := "law.go:113", after := #[{ on := 29, ground := Ground.guard }], guard := some (29, true) } : Oper)) (v := undef) rfl (by kernel_rfl) (by kernel_rfl) (by kernel_rfl) (fun _ _ _ h => h) (Or.inr ⟨by rfl, rfl⟩) (by assumption) ?_
          (try simp only [Act.put, List.setIfInBounds_toArray, List.set_cons_zero, List.set_cons_succ])
          refine wpAnyH_take (i := 36) (oi := ({ dst := some 176, op := Op.load 25 (Operand.tmp 175), type := 25, pos := "law.go:113", after := #[{ on := 35, ground := Ground.data }, { on := 29, ground := Ground.guard }], guard := some (29, true) } : Oper)) (v := undef) rfl (by kernel_rfl) (by kernel_rfl) (by kernel_rfl) (fun _ _ _ h => h) (Or.inr ⟨by rfl, rfl⟩) (by assumption) ?_
          (try simp only [Act.put, List.setIfInBounds_toArray, List.set_cons_zero, List.set_cons_succ])
          refine wpAnyH_take (i := 37) (oi := ({ dst := some 177, op := Op.call { callee := Callee.value (Operand.func 12), args := #[Operand.tmp 174, Operand.tmp 176], argTypes := #[25, 25] }, type := 29, pos := "law.go:113", after := #[{ on := 34, ground := Ground.data }, { on := 36, ground := Ground.data }, { on := 33, ground := Ground.chain }, { on := 29, ground := Ground.guard }], guard := some (29, true) } : Oper)) (v := undef) rfl (by kernel_rfl) (by kernel_rfl) (by kernel_rfl) (fun _ _ _ h => h) (Or.inr ⟨by rfl, rfl⟩) (by assumption) ?_
          (try simp only [Act.put, List.setIfInBounds_toArray, List.set_cons_zero, List.set_cons_succ])
          refine wpAnyH_take (i := 38) (oi := ({ dst := some 178, op := Op.binOp BinOp.neq 29 (Operand.tmp 173) (Operand.tmp 177) 29, type := 4, pos := "law.go:113", after := #[{ on := 33, ground := Ground.data }, { on := 37, ground := Ground.data }, { on := 29, ground := Ground.guard }], guard := some (29, true) } : Oper)) (v := undef) rfl (by kernel_rfl) (by kernel_rfl) (by kernel_rfl) (fun _ _ _ h => h) (Or.inr ⟨by rfl, rfl⟩) (by assumption) ?_
          (try simp only [Act.put, List.setIfInBounds_toArray, List.set_cons_zero, List.set_cons_succ])
          refine wpAnyH_take (i := 39) (oi := ({ dst := some 179, op := Op.pick (Operand.tmp 169) (Operand.tmp 178) (Operand.const (Value.bool false)), type := 4, pos := "law.go:113", after := #[{ on := 29, ground := Ground.data }, { on := 38, ground := Ground.data }, { on := 20, ground := Ground.guard }], guard := some (20, false) } : Oper)) (v := ?_) rfl (by kernel_rfl) (by kernel_rfl) (by kernel_rfl) (fun _ _ _ h => h) (Or.inl ⟨by rfl, ?_⟩) (by assumption) ?_
          rotate_left
          · intro w hSw; (try dsimp only at hSw); go_simp <;> with_reducible rfl
          (try simp only [Act.put, List.setIfInBounds_toArray, List.set_cons_zero, List.set_cons_succ])
          refine wpAnyH_take (i := 40) (oi := ({ dst := some 180, op := Op.pick (Operand.tmp 160) (Operand.const (Value.bool true)) (Operand.tmp 179), type := 4, pos := "law.go:113", after := #[{ on := 20, ground := Ground.data }, { on := 39, ground := Ground.data }], guard := none } : Oper)) (v := ?_) rfl (by kernel_rfl) (by kernel_rfl) (by kernel_rfl) (fun _ _ _ h => h) (Or.inl ⟨by rfl, ?_⟩) (by assumption) ?_
          rotate_left
          · intro w hSw; (try dsimp only at hSw); go_simp <;> with_reducible rfl
          (try simp only [Act.put, List.setIfInBounds_toArray, List.set_cons_zero, List.set_cons_succ])
          refine wpAnyH_done (by kernel_rfl) ?_ _
          all_goals
            go_wp2_with fail
            go_meet
            exact ⟨rfl, by assumption⟩
    · clear eq
      have epe : (pE == 0) = false := by rw [ep]; rfl
      have epn : (pE != 0) = true := by rw [ep]; rfl
      have Hep := hid ep
      clear ep
      go_quiet (fail)
      go_wp2_with fail
      go_meet
      exact ⟨rfl, below_drewN (Below.refl _ _) _⟩
  case rest =>
  obtain ⟨rfl, hC⟩ := hcut
  clear ha0 ha1 hb0 hb1 hc0 hc1 hn0 hn1 he0 he1 hs0 hs1 hs2 ht0 ht1 ht2 hp0 hp1 hp2 hq0 hq1 hq2 hs hsd hz
  obtain ⟨wG, rfl⟩ : ∃ wG : World, wG = wc := ⟨_, rfl⟩
  obtain ⟨ha0, ha1, hb0, hb1, hc0, hc1, hn0, hn1, he0, he1, hs0, hs1, hs2, ht0, ht1, ht2, hp0, hp1, hp2, hq0, hq1, hq2, hz⟩ := PC.out wG hC
  have C0 := hid hC
  clear hC
  go_wp2_with fail
  refine (R1.out _).mono ?_
  rintro e v5 ⟨rfl, hb⟩
  have C5 := hid (below_step C0.out hb)
  clear hb ha0 ha1 hb0 hb1 hc0 hc1 hn0 hn1 he0 he1 hs0 hs1 hs2 ht0 ht1 ht2 hp0 hp1 hp2 hq0 hq1 hq2 hz
  go_upto_region 20 with fail
  generalize hw : v5.alloc (.cells #[.int .i64 rN, .int .i64 rD, .int .i64 rE] 29) = wH
  have h2 : Below v5.heap.size v5 wH := by rw [← hw]; exact ((Below.refl _ _).alloc (by first | exact Nat.le_refl _ | (simp; done) | (simp; omega) | omega | (simp [World.drewN]; omega)) _)
  have hp := PC.out wH (below_step C5.out h2)
  have PD := hid (fun V (hV : Below wH.heap.size wH V) => show V.cell? ⟨w4.heap.size, 0, none⟩ = some (.int .i64 cN) ∧ V.cell? ⟨w4.heap.size, 1, none⟩ = some (.int .i64 cD) ∧ V.cell? ⟨v1.heap.size, 0, none⟩ = some (.int .i64 sN) ∧ V.cell? ⟨v1.heap.size, 1, none⟩ = some (.int .i64 sD) ∧ V.cell? ⟨v1.heap.size, 2, none⟩ = some (.int .i64 sE) ∧ V.cell? ⟨v4.heap.size, 0, none⟩ = some (.int .i64 qN) ∧ V.cell? ⟨v4.heap.size, 1, none⟩ = some (.int .i64 qD) ∧ V.cell? ⟨v4.heap.size, 2, none⟩ = some (.int .i64 qE) ∧ V.cell? ⟨v5.heap.size, 0, none⟩ = some (.int .i64 rN) ∧ V.cell? ⟨v5.heap.size, 1, none⟩ = some (.int .i64 rD) ∧ V.cell? ⟨v5.heap.size, 2, none⟩ = some (.int .i64 rE) ∧ wH.heap.size ≤ V.heap.size from ⟨cell_below hV hp.2.2.2.2.1, cell_below hV hp.2.2.2.2.2.1, cell_below hV hp.2.2.2.2.2.2.2.2.2.2.1, cell_below hV hp.2.2.2.2.2.2.2.2.2.2.2.1, cell_below hV hp.2.2.2.2.2.2.2.2.2.2.2.2.1, cell_below hV hp.2.2.2.2.2.2.2.2.2.2.2.2.2.2.2.2.2.2.2.1, cell_below hV hp.2.2.2.2.2.2.2.2.2.2.2.2.2.2.2.2.2.2.2.2.1, cell_below hV hp.2.2.2.2.2.2.2.2.2.2.2.2.2.2.2.2.2.2.2.2.2.1, cell_below hV (show wH.cell? ⟨v5.heap.size, 0, none⟩ = some (.int .i64 rN) by rw [← hw]; simp [go_sem]), cell_below hV (show wH.cell? ⟨v5.heap.size, 1, none⟩ = some (.int .i64 rD) by rw [← hw]; simp [go_sem]), cell_below hV (show wH.cell? ⟨v5.heap.size, 2, none⟩ = some (.int .i64 rE) by rw [← hw]; simp [go_sem]), hV.size⟩)
  have BH := hid (BA.out.trans (((below_step BBwD.out (below_step BBwF.out (below_step C5.out h2)))).mono BA.out.size))
  have hzH := BH.out.size
  clear hw h2 hp
  obtain ⟨hc0, hc1, hs0, hs1, hs2, hq0, hq1, hq2, hr0, hr1, hr2, hz⟩ := PD.out wH (Below.refl _ _)
  have K := fun o => PD.out (wH.alloc o) (below_a (Below.refl _ _) o)
  have ks0 := fun o => (K o).2.2.1
  have ks1 := fun o => (K o).2.2.2.1
  have ks2 := fun o => (K o).2.2.2.2.1
  have kc0 := fun o => (K o).1
  have kc1 := fun o => (K o).2.1
  clear K hc0 hc1 hs0 hs1 hs2 hq0 hq1 hq2 hr0 hr1 hr2 hz
  go_upto_if 187 with fail
  go_cut [] (fun wx => Boxed wH (sE = 0) lN lD lE wx)
  case first =>
    have es := ES.out
    rcases es with es | es
    · skip
      have ese : (sE == 0) = true := by rw [es]; rfl
      have esn : (sE != 0) = false := by rw [es]; rfl
      have Hes := hid es
      clear es
      go_wp2_with fail
      refine (XL.out Hes.out _).mono ?_
      rintro e v6 ⟨rfl, hb⟩
      have l0 := cell_below hb (x := .int .i64 0) (a := ⟨wH.heap.size, 0, none⟩) (by simp [go_sem])
      have l1 := cell_below hb (x := .int .i64 0) (a := ⟨wH.heap.size, 1, none⟩) (by simp [go_sem])
      have l2 := cell_below hb (x := .int .i64 2) (a := ⟨wH.heap.size, 2, none⟩) (by simp [go_sem])
      have f0 : v6.frozen? ⟨wH.heap.size, 0, none⟩ = false := (hb.frozen (p := ⟨wH.heap.size, 0, none⟩) (by simp)).trans (by simp [go_sem])
      have f1 : v6.frozen? ⟨wH.heap.size, 1, none⟩ = false := (hb.frozen (p := ⟨wH.heap.size, 1, none⟩) (by simp)).trans (by simp [go_sem])
      have f2 : v6.frozen? ⟨wH.heap.size, 2, none⟩ = false := (hb.frozen (p := ⟨wH.heap.size, 2, none⟩) (by simp)).trans (by simp [go_sem])
      have hz6 : wH.heap.size < v6.heap.size := by have := hb.size; simp at this; omega
      have C6 := hid (below_step (below_a (Below.refl wH.heap.size wH) _) hb)
      clear hb ks0 ks1 ks2 kc0 kc1
      go_wp2_with fail
      go_meet
      exact ⟨⟨lN, lD, lE, by simp [go_sem, l0, l1, l2], by simp [go_sem, l0, l1, l2], by simp [go_sem, l0, l1, l2], Or.inl ⟨Hes.out, rfl, rfl, rfl⟩⟩, by simp; omega, (((C6.out.setCell (by first | exact Nat.le_refl _ | (simp; done) | (simp; omega) | omega | (simp [World.drewN]; omega)) _).setCell (by first | exact Nat.le_refl _ | (simp; done) | (simp; omega) | omega | (simp [World.drewN]; omega)) _).setCell (by first | exact Nat.le_refl _ | (simp; done) | (simp; omega) | omega | (simp [World.drewN]; omega)) _)⟩
    · skip
      have ese : (sE == 0) = false := by rw [es]; rfl
      have esn : (sE != 0) = true := by rw [es]; rfl
      have Hes := hid es
      clear es
      go_wp2_with fail
      go_meet
      exact ⟨⟨0, 0, 2, by simp [go_sem], by simp [go_sem], by simp [go_sem], Or.inr rfl⟩, by simp, below_a (Below.refl _ _) _⟩
  case rest =>
  obtain ⟨⟨eN, eD, eE, l0, l1, l2, hle⟩, hzx, hC⟩ := hcut
  obtain ⟨wI, rfl⟩ : ∃ wI : World, wI = wc := ⟨_, rfl⟩
  clear ks0 ks1 ks2 kc0 kc1
  have K := fun o => PD.out (wI.alloc o) (below_a hC o)
  have kq0 := fun o => (K o).2.2.2.2.2.1
  have kq1 := fun o => (K o).2.2.2.2.2.2.1
  have kq2 := fun o => (K o).2.2.2.2.2.2.2.1
  have kr0 := fun o => (K o).2.2.2.2.2.2.2.2.1
  have kr1 := fun o => (K o).2.2.2.2.2.2.2.2.2.1
  have kr2 := fun o => (K o).2.2.2.2.2.2.2.2.2.2.1
  have j0 := fun o => cell_below (below_a (Below.refl wI.heap.size wI) o) l0
  have j1 := fun o => cell_below (below_a (Below.refl wI.heap.size wI) o) l1
  have j2 := fun o => cell_below (below_a (Below.refl wI.heap.size wI) o) l2
  have HL := hid (show _ ∧ _ ∧ _ from ⟨l0, l1, l2⟩)
  have HC := hid hC
  clear K l0 l1 l2 hC
  have er := ER.out
  have eq := EQ.out
  have el := EL.out
  have BI := hid (below_step BH.out HC.out)
  have hzI := BI.out.size
  rcases er with er | er
  · rcases eq with eq | eq
    · skip
      have ere : (rE == 0) = true := by rw [er]; rfl
      have ern : (rE != 0) = false := by rw [er]; rfl
      have Her := hid er
      clear er
      have eqe : (qE == 0) = true := by rw [eq]; rfl
      have eqn : (qE != 0) = false := by rw [eq]; rfl
      have Heq := hid eq
      clear eq
      have C7 := hid (fun w => XR.out Her.out Heq.out w)
      go_wp2_with fail
      refine (C7.out _).mono ?_
      rintro e v7 ⟨rfl, hb⟩
      have m0 := cell_below hb (x := .int .i64 0) (a := ⟨wI.heap.size, 0, none⟩) (by simp [go_sem])
      have m1 := cell_below hb (x := .int .i64 0) (a := ⟨wI.heap.size, 1, none⟩) (by simp [go_sem])
      have m2 := cell_below hb (x := .int .i64 2) (a := ⟨wI.heap.size, 2, none⟩) (by simp [go_sem])
      have f0 : v7.frozen? ⟨wI.heap.size, 0, none⟩ = false := (hb.frozen (p := ⟨wI.heap.size, 0, none⟩) (by simp)).trans (by simp [go_sem])
      have f1 : v7.frozen? ⟨wI.heap.size, 1, none⟩ = false := (hb.frozen (p := ⟨wI.heap.size, 1, none⟩) (by simp)).trans (by simp [go_sem])
      have f2 : v7.frozen? ⟨wI.heap.size, 2, none⟩ = false := (hb.frozen (p := ⟨wI.heap.size, 2, none⟩) (by simp)).trans (by simp [go_sem])
      have g0 := cell_below hb (j0 _)
      have g1 := cell_below hb (j1 _)
      have g2 := cell_below hb (j2 _)
      have hne : wI.heap.size ≠ wH.heap.size := by omega
      have hz7 : wI.heap.size < v7.heap.size := by have := hb.size; simp at this; omega
      have C8 := hid (below_step (below_a (Below.refl wI.heap.size wI) _) hb)
      clear hb j0 j1 j2 kq0 kq1 kq2 kr0 kr1 kr2
      rcases hle with ⟨h1, h2, h3, h4⟩ | h4
      · have w1e : (eN == lN) = true := by simpa using h2
        have w1d : decide (eN = lN) = true := by simpa using h2
        have w2e : (eD == lD) = true := by simpa using h3
        have w2d : decide (eD = lD) = true := by simpa using h3
        have w3e : (eE == lE) = true := by simpa using h4
        have w3d : decide (eE = lE) = true := by simpa using h4
        clear h1 h2 h3
        rcases el with el | el
        · have u1 : (eE == 0) = true := by rw [h4, el]; rfl
          have u2 : (eE != 0) = false := by rw [h4, el]; rfl
          have u3 : (lE == 0) = true := by rw [el]; rfl
          have u4 : (lE != 0) = false := by rw [el]; rfl
          clear h4 el
          go_wp2_with fail
          go_ret
          exact ⟨rfl, ((((BI.out.trans (C8.out.mono BI.out.size)).setCell (by first | exact Nat.le_refl _ | (simp; done) | (simp; omega) | omega | (simp [World.drewN]; omega)) _).setCell (by first | exact Nat.le_refl _ | (simp; done) | (simp; omega) | omega | (simp [World.drewN]; omega)) _).setCell (by first | exact Nat.le_refl _ | (simp; done) | (simp; omega) | omega | (simp [World.drewN]; omega)) _)⟩
        · have u1 : (eE == 0) = false := by rw [h4, el]; rfl
          have u2 : (eE != 0) = true := by rw [h4, el]; rfl
          have u3 : (lE == 0) = false := by rw [el]; rfl
          have u4 : (lE != 0) = true := by rw [el]; rfl
          clear h4 el
          go_wp2_with fail
          go_ret
          exact ⟨rfl, ((((BI.out.trans (C8.out.mono BI.out.size)).setCell (by first | exact Nat.le_refl _ | (simp; done) | (simp; omega) | omega | (simp [World.drewN]; omega)) _).setCell (by first | exact Nat.le_refl _ | (simp; done) | (simp; omega) | omega | (simp [World.drewN]; omega)) _).setCell (by first | exact Nat.le_refl _ | (simp; done) | (simp; omega) | omega | (simp [World.drewN]; omega)) _)⟩
      · have u1 : (eE == 0) = false := by rw [h4]; rfl
        have u2 : (eE != 0) = true := by rw [h4]; rfl
        clear h4 el
        go_wp2_with fail
        go_ret
        exact ⟨rfl, ((((BI.out.trans (C8.out.mono BI.out.size)).setCell (by first | exact Nat.le_refl _ | (simp; done) | (simp; omega) | omega | (simp [World.drewN]; omega)) _).setCell (by first | exact Nat.le_refl _ | (simp; done) | (simp; omega) | omega | (simp [World.drewN]; omega)) _).setCell (by first | exact Nat.le_refl _ | (simp; done) | (simp; omega) | omega | (simp [World.drewN]; omega)) _)⟩
    · skip
      have ere : (rE == 0) = true := by rw [er]; rfl
      have ern : (rE != 0) = false := by rw [er]; rfl
      have Her := hid er
      clear er
      have eqe : (qE == 0) = false := by rw [eq]; rfl
      have eqn : (qE != 0) = true := by rw [eq]; rfl
      have Heq := hid eq
      clear eq
      rcases hle with ⟨h1, h2, h3, h4⟩ | h4
      · have w1e : (eN == lN) = true := by simpa using h2
        have w1d : decide (eN = lN) = true := by simpa using h2
        have w2e : (eD == lD) = true := by simpa using h3
        have w2d : decide (eD = lD) = true := by simpa using h3
        have w3e : (eE == lE) = true := by simpa using h4
        have w3d : decide (eE = lE) = true := by simpa using h4
        clear h1 h2 h3
        rcases el with el | el
        · have u1 : (eE == 0) = true := by rw [h4, el]; rfl
          have u2 : (eE != 0) = false := by rw [h4, el]; rfl
          have u3 : (lE == 0) = true := by rw [el]; rfl
          have u4 : (lE != 0) = false := by rw [el]; rfl
          clear h4 el
          go_wp2_with fail
          go_ret
          exact ⟨rfl, below_step BI.out (below_a (Below.refl _ _) _)⟩
        · have u1 : (eE == 0) = false := by rw [h4, el]; rfl
          have u2 : (eE != 0) = true := by rw [h4, el]; rfl
          have u3 : (lE == 0) = false := by rw [el]; rfl
          have u4 : (lE != 0) = true := by rw [el]; rfl
          clear h4 el
          go_wp2_with fail
          go_ret
          exact ⟨rfl, below_step BI.out (below_a (Below.refl _ _) _)⟩
      · have u1 : (eE == 0) = false := by rw [h4]; rfl
        have u2 : (eE != 0) = true := by rw [h4]; rfl
        clear h4 el
        go_wp2_with fail
        go_ret
        exact ⟨rfl, below_step BI.out (below_a (Below.refl _ _) _)⟩
  · clear eq
    have ere : (rE == 0) = false := by rw [er]; rfl
    have ern : (rE != 0) = true := by rw [er]; rfl
    have Her := hid er
    clear er
    rcases hle with ⟨h1, h2, h3, h4⟩ | h4
    · have w1e : (eN == lN) = true := by simpa using h2
      have w1d : decide (eN = lN) = true := by simpa using h2
      have w2e : (eD == lD) = true := by simpa using h3
      have w2d : decide (eD = lD) = true := by simpa using h3
      have w3e : (eE == lE) = true := by simpa using h4
      have w3d : decide (eE = lE) = true := by simpa using h4
      clear h1 h2 h3
      rcases el with el | el
      · have u1 : (eE == 0) = true := by rw [h4, el]; rfl
        have u2 : (eE != 0) = false := by rw [h4, el]; rfl
        have u3 : (lE == 0) = true := by rw [el]; rfl
        have u4 : (lE != 0) = false := by rw [el]; rfl
        clear h4 el
        go_wp2_with fail
        go_ret
        exact ⟨rfl, below_step BI.out (below_a (Below.refl _ _) _)⟩
      · have u1 : (eE == 0) = false := by rw [h4, el]; rfl
        have u2 : (eE != 0) = true := by rw [h4, el]; rfl
        have u3 : (lE == 0) = false := by rw [el]; rfl
        have u4 : (lE != 0) = true := by rw [el]; rfl
        clear h4 el
        go_wp2_with fail
        go_ret
        exact ⟨rfl, below_step BI.out (below_a (Below.refl _ _) _)⟩
    · have u1 : (eE == 0) = false := by rw [h4]; rfl
      have u2 : (eE != 0) = true := by rw [h4]; rfl
      clear h4 el
      go_wp2_with fail
      go_ret
      exact ⟨rfl, below_step BI.out (below_a (Below.refl _ _) _)⟩
end Go.Proofs.YtgkbefkgkpjmgaaDoor

import Derived.Test.YtgkbefkgkpjmgaaDoorRlq
namespace Go.Proofs.YtgkbefkgkpjmgaaDoor
open Go.RowKit Go.Instr
set_option linter.unusedVariables false

set_option maxRecDepth 100000 in
set_option maxHeartbeats 16000000 in
theorem limits_any (p q : Int) (ng : Bool) (hp : 0 ≤ p ∧ p ≤ 255) (hq : 0 ≤ q ∧ q ≤ 255) (w : World) (g : Glob w) :
    Calls Tryd.prog 8 #[.int .u8 p, .int .u8 q, .bool ng] w fun e w' => e = .returned (.bool true) ∧ Below w.heap.size w w' := by
  have EXA := hid (examples_any w g)
  obtain ⟨hp1, hp2⟩ := hp
  obtain ⟨hq1, hq2⟩ := hq
  obtain ⟨a, ha⟩ : ∃ a : Int, p % 125 - 62 = a := ⟨_, rfl⟩
  obtain ⟨b, hb⟩ : ∃ b : Int, q % 125 - 62 = b := ⟨_, rfl⟩
  have ra : -62 ≤ a ∧ a ≤ 62 := by omega
  have rb : -62 ≤ b ∧ b ≤ 62 := by omega
  have fa := (fr_pw a ra).1
  have fb := (fr_pw b rb).1
  have nb := (fr_pw b rb).2
  obtain ⟨mN, mD, mE, Tm⟩ := trip_ex (pw a * pw b)
  obtain ⟨dN, dD, dE, Td⟩ := trip_ex (pw a / pw b)
  obtain ⟨sN, sD, sE, Ts⟩ := trip_ex (pw a + pw b)
  have M1 := hid (fun w => mulT fa fb Tm w)
  have D1 := hid (fun w => divT fa fb nb Td w)
  have S1 := hid (fun w => addT fa fb Ts w)
  have UM := hid (mul_use ra rb Tm)
  have UD := hid (div_use ra rb Td)
  have UF := hid (fits_use ra rb Ts)
  have PA := hid (fun w => power_any a ra.1 ra.2 w)
  have PB := hid (fun w => power_any b rb.1 rb.2 w)
  have PS := hid (fun (h1 : -62 ≤ a + b) (h2 : a + b ≤ 62) w => power_any (a + b) h1 h2 w)
  have PD := hid (fun (h1 : -62 ≤ a - b) (h2 : a - b ≤ 62) w => power_any (a - b) h1 h2 w)
  obtain ⟨aN, haN⟩ : ∃ n, pwN a = n := ⟨_, rfl⟩
  obtain ⟨aD, haD⟩ : ∃ n, pwD a = n := ⟨_, rfl⟩
  obtain ⟨bN, hbN⟩ : ∃ n, pwN b = n := ⟨_, rfl⟩
  obtain ⟨bD, hbD⟩ : ∃ n, pwD b = n := ⟨_, rfl⟩
  rw [haN, haD] at PA
  rw [hbN, hbD] at PB
  rw [haN, haD, hbN, hbD] at M1 D1 S1
  obtain ⟨oN, eN, gN, EO0, fo, fe, fg, T1, T2, T3, T4⟩ := ends_ex ng
  have EO := hid EO0
  have MO := hid (fun w => rmost_any w)
  have SB := hid (fun w => subT fe fo T1 w)
  have A1 := hid (fun w => addT fe fo T2 w)
  have A2 := hid (fun w => addT fg fo T3 w)
  have A3 := hid (fun w => subT fe fr_half T4 w)
  clear EO0 fo fe fg T1 T2 T3 T4
  have RA := hid ra
  have RB := hid rb
  clear g Tm Td Ts fa fb nb haN haD hbN hbD ra rb
  go_enter Tryd.func8, Tryd.ntmps8
  go_wp2_with fail
  refine (EXA.out).mono ?_
  rintro e w1 ⟨rfl, hb'⟩
  have BW := hid hb'
  clear hb'
  go_wp2_with fail
  refine (PA.out _).mono ?_
  rintro e v2 ⟨rfl, hb'⟩
  have T2 := hid (below_step BW.out hb')
  clear hb'
  go_upto_region 7 with fail
  generalize hw : v2.alloc (.cells #[.int .i64 aN, .int .i64 aD] 25) = wA
  have h2 : Below v2.heap.size v2 wA := by rw [← hw]; exact ((Below.refl _ _).alloc (by first | exact Nat.le_refl _ | (simp; done) | (simp; omega) | omega | (simp [World.drewN]; omega)) _)
  have K0 := hid (fun V (hV : Below wA.heap.size wA V) => show V.cell? ⟨v2.heap.size, 0, none⟩ = some (.int .i64 aN) ∧ V.cell? ⟨v2.heap.size, 1, none⟩ = some (.int .i64 aD) ∧ wA.heap.size ≤ V.heap.size from ⟨cell_below hV (show wA.cell? ⟨v2.heap.size, 0, none⟩ = some (.int .i64 aN) by rw [← hw]; simp [go_sem]), cell_below hV (show wA.cell? ⟨v2.heap.size, 1, none⟩ = some (.int .i64 aD) by rw [← hw]; simp [go_sem]), hV.size⟩)
  have U0 := hid (below_step T2.out h2)
  clear hw h2
  obtain ⟨hx0, hx1, hz⟩ := K0.out wA (Below.refl _ _)
  go_wp2_with fail
  refine (PB.out _).mono ?_
  rintro e v3 ⟨rfl, hb⟩
  have Cv3 := hid (below_step (Below.refl _ _) hb)
  have Tv3 := hid (below_step U0.out hb)
  clear hb hx0 hx1 hz
  go_upto_region 8 with fail
  generalize hw : v3.alloc (.cells #[.int .i64 bN, .int .i64 bD] 25) = wB
  have h2 : Below v3.heap.size v3 wB := by rw [← hw]; exact ((Below.refl _ _).alloc (by first | exact Nat.le_refl _ | (simp; done) | (simp; omega) | omega | (simp [World.drewN]; omega)) _)
  have hp := K0.out wB (below_step Cv3.out h2)
  have K1 := hid (fun V (hV : Below wB.heap.size wB V) => show V.cell? ⟨v2.heap.size, 0, none⟩ = some (.int .i64 aN) ∧ V.cell? ⟨v2.heap.size, 1, none⟩ = some (.int .i64 aD) ∧ V.cell? ⟨v3.heap.size, 0, none⟩ = some (.int .i64 bN) ∧ V.cell? ⟨v3.heap.size, 1, none⟩ = some (.int .i64 bD) ∧ wB.heap.size ≤ V.heap.size from ⟨cell_below hV hp.1, cell_below hV hp.2.1, cell_below hV (show wB.cell? ⟨v3.heap.size, 0, none⟩ = some (.int .i64 bN) by rw [← hw]; simp [go_sem]), cell_below hV (show wB.cell? ⟨v3.heap.size, 1, none⟩ = some (.int .i64 bD) by rw [← hw]; simp [go_sem]), hV.size⟩)
  have U1 := hid (below_step Tv3.out h2)
  clear hw h2 hp
  obtain ⟨hx0, hx1, hy0, hy1, hz⟩ := K1.out wB (Below.refl _ _)
  go_wp2_with fail
  refine (M1.out _).mono ?_
  rintro e v4 ⟨rfl, hb⟩
  have Cv4 := hid (below_step (Below.refl _ _) hb)
  have Tv4 := hid (below_step U1.out hb)
  clear hb hx0 hx1 hy0 hy1 hz
  go_upto_region 9 with fail
  generalize hw : v4.alloc (.cells #[.int .i64 mN, .int .i64 mD, .int .i64 mE] 29) = wC
  have h2 : Below v4.heap.size v4 wC := by rw [← hw]; exact ((Below.refl _ _).alloc (by first | exact Nat.le_refl _ | (simp; done) | (simp; omega) | omega | (simp [World.drewN]; omega)) _)
  have hp := K1.out wC (below_step Cv4.out h2)
  have K2 := hid (fun V (hV : Below wC.heap.size wC V) => show V.cell? ⟨v2.heap.size, 0, none⟩ = some (.int .i64 aN) ∧ V.cell? ⟨v2.heap.size, 1, none⟩ = some (.int .i64 aD) ∧ V.cell? ⟨v3.heap.size, 0, none⟩ = some (.int .i64 bN) ∧ V.cell? ⟨v3.heap.size, 1, none⟩ = some (.int .i64 bD) ∧ V.cell? ⟨v4.heap.size, 0, none⟩ = some (.int .i64 mN) ∧ V.cell? ⟨v4.heap.size, 1, none⟩ = some (.int .i64 mD) ∧ V.cell? ⟨v4.heap.size, 2, none⟩ = some (.int .i64 mE) ∧ wC.heap.size ≤ V.heap.size from ⟨cell_below hV hp.1, cell_below hV hp.2.1, cell_below hV hp.2.2.1, cell_below hV hp.2.2.2.1, cell_below hV (show wC.cell? ⟨v4.heap.size, 0, none⟩ = some (.int .i64 mN) by rw [← hw]; simp [go_sem]), cell_below hV (show wC.cell? ⟨v4.heap.size, 1, none⟩ = some (.int .i64 mD) by rw [← hw]; simp [go_sem]), cell_below hV (show wC.cell? ⟨v4.heap.size, 2, none⟩ = some (.int .i64 mE) by rw [← hw]; simp [go_sem]), hV.size⟩)
  have U2 := hid (below_step Tv4.out h2)
  clear hw h2 hp
  obtain ⟨hx0, hx1, hy0, hy1, hm0, hm1, hm2, hz⟩ := K2.out wC (Below.refl _ _)
  go_wp2_with fail
  refine (D1.out _).mono ?_
  rintro e v5 ⟨rfl, hb⟩
  have Cv5 := hid (below_step (Below.refl _ _) hb)
  have Tv5 := hid (below_step U2.out hb)
  clear hb hx0 hx1 hy0 hy1 hm0 hm1 hm2 hz
  go_upto_region 10 with fail
  generalize hw : v5.alloc (.cells #[.int .i64 dN, .int .i64 dD, .int .i64 dE] 29) = wD
  have h2 : Below v5.heap.size v5 wD := by rw [← hw]; exact ((Below.refl _ _).alloc (by first | exact Nat.le_refl _ | (simp; done) | (simp; omega) | omega | (simp [World.drewN]; omega)) _)
  have hp := K2.out wD (below_step Cv5.out h2)
  have K3 := hid (fun V (hV : Below wD.heap.size wD V) => show V.cell? ⟨v2.heap.size, 0, none⟩ = some (.int .i64 aN) ∧ V.cell? ⟨v2.heap.size, 1, none⟩ = some (.int .i64 aD) ∧ V.cell? ⟨v3.heap.size, 0, none⟩ = some (.int .i64 bN) ∧ V.cell? ⟨v3.heap.size, 1, none⟩ = some (.int .i64 bD) ∧ V.cell? ⟨v4.heap.size, 0, none⟩ = some (.int .i64 mN) ∧ V.cell? ⟨v4.heap.size, 1, none⟩ = some (.int .i64 mD) ∧ V.cell? ⟨v4.heap.size, 2, none⟩ = some (.int .i64 mE) ∧ V.cell? ⟨v5.heap.size, 0, none⟩ = some (.int .i64 dN) ∧ V.cell? ⟨v5.heap.size, 1, none⟩ = some (.int .i64 dD) ∧ V.cell? ⟨v5.heap.size, 2, none⟩ = some (.int .i64 dE) ∧ wD.heap.size ≤ V.heap.size from ⟨cell_below hV hp.1, cell_below hV hp.2.1, cell_below hV hp.2.2.1, cell_below hV hp.2.2.2.1, cell_below hV hp.2.2.2.2.1, cell_below hV hp.2.2.2.2.2.1, cell_below hV hp.2.2.2.2.2.2.1, cell_below hV (show wD.cell? ⟨v5.heap.size, 0, none⟩ = some (.int .i64 dN) by rw [← hw]; simp [go_sem]), cell_below hV (show wD.cell? ⟨v5.heap.size, 1, none⟩ = some (.int .i64 dD) by rw [← hw]; simp [go_sem]), cell_below hV (show wD.cell? ⟨v5.heap.size, 2, none⟩ = some (.int .i64 dE) by rw [← hw]; simp [go_sem]), hV.size⟩)
  have U3 := hid (below_step Tv5.out h2)
  clear hw h2 hp
  obtain ⟨hx0, hx1, hy0, hy1, hm0, hm1, hm2, hd0, hd1, hd2, hz⟩ := K3.out wD (Below.refl _ _)
  have hsd := (Below.refl wD.heap.size wD).drew
  go_cut [99] (fun s wx => s = .bool false ∧ Below wD.heap.size wD wx)
  case first =>
    as_aux_lemma =>
    have w1 : IntKind.i64.wrap (a + b) = a + b := by have k1 := RA.out; have k2 := RB.out; rw [IntKind.wrap_i64]; omega
    have w2 : IntKind.i64.wrap (a - b) = a - b := by have k1 := RA.out; have k2 := RB.out; rw [IntKind.wrap_i64]; omega
    rcases UM.out with ⟨gm, gm1, gm2, gm3, gm4⟩ | ⟨gm, gm1⟩
    · skip
      rcases UD.out with ⟨gd, gd1, gd2, gd3, gd4⟩ | ⟨gd, gd1⟩
      · skip
        as_aux_lemma =>
        have mf0 : (mE == 0) = true := by rw [gm]; rfl
        have mf1 : decide (-62 ≤ a + b) = true := by simp; omega
        have mf2 : decide (a + b ≤ 62) = true := by simp; omega
        have df0 : (dE == 0) = true := by rw [gd]; rfl
        have df1 : decide (-62 ≤ a - b) = true := by simp; omega
        have df2 : decide (a - b ≤ 62) = true := by simp; omega
        have CM0 := PS.out gm1 gm2
        rw [← gm3, ← gm4] at CM0
        have CM := hid CM0
        clear CM0
        have CD0 := PD.out gd1 gd2
        rw [← gd3, ← gd4] at CD0
        have CD := hid CD0
        clear CD0
        clear gm gm1 gm2 gm3 gm4 gd gd1 gd2 gd3 gd4
        refine wp_region_held_drew (S := (fun V => V.cell? ⟨v4.heap.size, 0, none⟩ = some (.int .i64 mN) ∧ V.cell? ⟨v4.heap.size, 1, none⟩ = some (.int .i64 mD) ∧ V.cell? ⟨v4.heap.size, 2, none⟩ = some (.int .i64 mE) ∧ V.cell? ⟨v5.heap.size, 0, none⟩ = some (.int .i64 dN) ∧ V.cell? ⟨v5.heap.size, 1, none⟩ = some (.int .i64 dD) ∧ V.cell? ⟨v5.heap.size, 2, none⟩ = some (.int .i64 dE) ∧ Below wD.heap.size wD V)) (by kernel_rfl) ?_ (fun hHeld => ?_)
        · with_reducible exact ⟨cell_below hsd hm0, cell_below hsd hm1, cell_below hsd hm2, cell_below hsd hd0, cell_below hsd hd1, cell_below hsd hd2, hsd⟩
        refine wpAnyH_take (i := 0) (oi := (⟨some 42, Op.fieldAddr 29 (.tmp 12) 1, 0, "law.go:262", #[], none⟩ : Oper)) (v := ?_) rfl (by kernel_rfl) (by kernel_rfl) (by kernel_rfl) (fun _ _ _ h => h) (Or.inl ⟨by rfl, ?_⟩) (by assumption) ?_
        rotate_left
        · intro w hSw; (try dsimp only at hSw); go_simp <;> with_reducible rfl
        (try simp only [Act.put, List.setIfInBounds_toArray, List.set_cons_zero, List.set_cons_succ])
        refine wpAnyH_take (i := 1) (oi := (⟨some 43, Op.load 27 (.tmp 42), 27, "law.go:262", #[⟨0, .data⟩], none⟩ : Oper)) (v := ?_) rfl (by kernel_rfl) (by kernel_rfl) (by kernel_rfl) (fun _ _ _ h => h) (Or.inl ⟨by rfl, ?_⟩) (by assumption) ?_
        rotate_left
        · intro w hSw; (try dsimp only at hSw); go_simp <;> with_reducible rfl
        (try simp only [Act.put, List.setIfInBounds_toArray, List.set_cons_zero, List.set_cons_succ])
        refine wpAnyH_take (i := 2) (oi := (⟨some 44, Op.binOp .eql 27 (.tmp 43) (.const (.int IntKind.i64 0)) 27, 4, "law.go:262", #[⟨1, .data⟩], none⟩ : Oper)) (v := ?_) rfl (by kernel_rfl) (by kernel_rfl) (by kernel_rfl) (fun _ _ _ h => h) (Or.inl ⟨by rfl, ?_⟩) (by assumption) ?_
        rotate_left
        · intro w hSw; (try dsimp only at hSw); go_simp <;> with_reducible rfl
        (try simp only [Act.put, List.setIfInBounds_toArray, List.set_cons_zero, List.set_cons_succ])
        refine wpAnyH_take (i := 3) (oi := (⟨some 45, Op.move (.tmp 8), 3, "law.go:262", #[], none⟩ : Oper)) (v := ?_) rfl (by kernel_rfl) (by kernel_rfl) (by kernel_rfl) (fun _ _ _ h => h) (Or.inl ⟨by rfl, ?_⟩) (by assumption) ?_
        rotate_left
        · intro w hSw; (try dsimp only at hSw); go_simp <;> with_reducible rfl
        (try simp only [Act.put, List.setIfInBounds_toArray, List.set_cons_zero, List.set_cons_succ])
        refine wpAnyH_take (i := 4) (oi := (⟨some 46, Op.move (.tmp 9), 3, "law.go:262", #[], none⟩ : Oper)) (v := ?_) rfl (by kernel_rfl) (by kernel_rfl) (by kernel_rfl) (fun _ _ _ h => h) (Or.inl ⟨by rfl, ?_⟩) (by assumption) ?_
        rotate_left
        · intro w hSw; (try dsimp only at hSw); go_simp <;> with_reducible rfl
        (try simp only [Act.put, List.setIfInBounds_toArray, List.set_cons_zero, List.set_cons_succ])
        refine wpAnyH_take (i := 5) (oi := (⟨some 47, Op.binOp .add 3 (.tmp 45) (.tmp 46) 3, 3, "law.go:262", #[⟨3, .data⟩, ⟨4, .data⟩], none⟩ : Oper)) (v := ?_) rfl (by kernel_rfl) (by kernel_rfl) (by kernel_rfl) (fun _ _ _ h => h) (Or.inl ⟨by rfl, ?_⟩) (by assumption) ?_
        rotate_left
        · intro w hSw; (try dsimp only at hSw); go_simp <;> with_reducible rfl
        (try simp only [Act.put, List.setIfInBounds_toArray, List.set_cons_zero, List.set_cons_succ])
        refine wpAnyH_take (i := 6) (oi := (⟨some 48, Op.binOp .geq 3 (.tmp 47) (.const (.int IntKind.i64 (-62))) 3, 4, "law.go:262", #[⟨5, .data⟩], none⟩ : Oper)) (v := ?_) rfl (by kernel_rfl) (by kernel_rfl) (by kernel_rfl) (fun _ _ _ h => h) (Or.inl ⟨by rfl, ?_⟩) (by assumption) ?_
        rotate_left
        · intro w hSw; (try dsimp only at hSw); go_simp <;> with_reducible rfl
        (try simp only [Act.put, List.setIfInBounds_toArray, List.set_cons_zero, List.set_cons_succ])
        refine wpAnyH_take (i := 7) (oi := (⟨some 49, Op.move (.tmp 48), 4, "law.go:262", #[⟨6, .data⟩], none⟩ : Oper)) (v := ?_) rfl (by kernel_rfl) (by kernel_rfl) (by kernel_rfl) (fun _ _ _ h => h) (Or.inl ⟨by rfl, ?_⟩) (by assumption) ?_
        rotate_left
        · intro w hSw; (try dsimp only at hSw); go_simp <;> with_reducible rfl
        (try simp only [Act.put, List.setIfInBounds_toArray, List.set_cons_zero, List.set_cons_succ])
        refine wpAnyH_take (i := 8) (oi := (⟨some 50, Op.move (.tmp 8), 3, "law.go:262", #[⟨7, .guard⟩], some (7, true)⟩ : Oper)) (v := ?_) rfl (by kernel_rfl) (by kernel_rfl) (by kernel_rfl) (fun _ _ _ h => h) (Or.inl ⟨by rfl, ?_⟩) (by assumption) ?_
        rotate_left
        · intro w hSw; (try dsimp only at hSw); go_simp <;> with_reducible rfl
        (try simp only [Act.put, List.setIfInBounds_toArray, List.set_cons_zero, List.set_cons_succ])
        refine wpAnyH_take (i := 9) (oi := (⟨some 51, Op.move (.tmp 9), 3, "law.go:262", #[⟨7, .guard⟩], some (7, true)⟩ : Oper)) (v := ?_) rfl (by kernel_rfl) (by kernel_rfl) (by kernel_rfl) (fun _ _ _ h => h) (Or.inl ⟨by rfl, ?_⟩) (by assumption) ?_
        rotate_left
        · intro w hSw; (try dsimp only at hSw); go_simp <;> with_reducible rfl
        (try simp only [Act.put, List.setIfInBounds_toArray, List.set_cons_zero, List.set_cons_succ])
        refine wpAnyH_take (i := 10) (oi := (⟨some 52, Op.binOp .add 3 (.tmp 50) (.tmp 51) 3, 3, "law.go:262", #[⟨8, .data⟩, ⟨9, .data⟩, ⟨7, .guard⟩], some (7, true)⟩ : Oper)) (v := ?_) rfl (by kernel_rfl) (by kernel_rfl) (by kernel_rfl) (fun _ _ _ h => h) (Or.inl ⟨by rfl, ?_⟩) (by assumption) ?_
        rotate_left
        · intro w hSw; (try dsimp only at hSw); go_simp <;> with_reducible rfl
        (try simp only [Act.put, List.setIfInBounds_toArray, List.set_cons_zero, List.set_cons_succ])
        refine wpAnyH_take (i := 11) (oi := (⟨some 53, Op.binOp .leq 3 (.tmp 52) (.const (.int IntKind.i64 62)) 3, 4, "law.go:262", #[⟨10, .data⟩, ⟨7, .guard⟩], some (7, true)⟩ : Oper)) (v := ?_) rfl (by kernel_rfl) (by kernel_rfl) (by kernel_rfl) (fun _ _ _ h => h) (Or.inl ⟨by rfl, ?_⟩) (by assumption) ?_
        rotate_left
        · intro w hSw; (try dsimp only at hSw); go_simp <;> with_reducible rfl
        (try simp only [Act.put, List.setIfInBounds_toArray, List.set_cons_zero, List.set_cons_succ])
        refine wpAnyH_take (i := 12) (oi := (⟨some 54, Op.pick (.tmp 49) (.tmp 53) (.const (.bool false)), 4, "law.go:262", #[⟨7, .data⟩, ⟨11, .data⟩], none⟩ : Oper)) (v := ?_) rfl (by kernel_rfl) (by kernel_rfl) (by kernel_rfl) (fun _ _ _ h => h) (Or.inl ⟨by rfl, ?_⟩) (by assumption) ?_
        rotate_left
        · intro w hSw; (try dsimp only at hSw); go_simp <;> with_reducible rfl
        (try simp only [Act.put, List.setIfInBounds_toArray, List.set_cons_zero, List.set_cons_succ])
        refine wpAnyH_take (i := 13) (oi := (⟨some 55, Op.binOp .neq 4 (.tmp 44) (.tmp 54) 4, 4, "law.go:262", #[⟨2, .data⟩, ⟨12, .data⟩], none⟩ : Oper)) (v := ?_) rfl (by kernel_rfl) (by kernel_rfl) (by kernel_rfl) (fun _ _ _ h => h) (Or.inl ⟨by rfl, ?_⟩) (by assumption) ?_
        rotate_left
        · intro w hSw; (try dsimp only at hSw); go_simp <;> with_reducible rfl
        (try simp only [Act.put, List.setIfInBounds_toArray, List.set_cons_zero, List.set_cons_succ])
        refine wpAnyH_take (i := 14) (oi := (⟨some 56, Op.move (.tmp 55), 4, "law.go:262", #[⟨13, .data⟩, ⟨7, .chain⟩], none⟩ : Oper)) (v := ?_) rfl (by kernel_rfl) (by kernel_rfl) (by kernel_rfl) (fun _ _ _ h => h) (Or.inl ⟨by rfl, ?_⟩) (by assumption) ?_
        rotate_left
        · intro w hSw; (try dsimp only at hSw); go_simp <;> with_reducible rfl
        (try simp only [Act.put, List.setIfInBounds_toArray, List.set_cons_zero, List.set_cons_succ])
        refine wpAnyH_take (i := 15) (oi := (⟨some 57, Op.fieldAddr 29 (.tmp 12) 1, 0, "law.go:262", #[⟨14, .guard⟩], some (14, false)⟩ : Oper)) (v := ?_) rfl (by kernel_rfl) (by kernel_rfl) (by kernel_rfl) (fun _ _ _ h => h) (Or.inl ⟨by rfl, ?_⟩) (by assumption) ?_
        rotate_left
        · intro w hSw; (try dsimp only at hSw); go_simp <;> with_reducible rfl
        (try simp only [Act.put, List.setIfInBounds_toArray, List.set_cons_zero, List.set_cons_succ])
        refine wpAnyH_take (i := 16) (oi := (⟨some 58, Op.load 27 (.tmp 57), 27, "law.go:262", #[⟨15, .data⟩, ⟨14, .guard⟩], some (14, false)⟩ : Oper)) (v := ?_) rfl (by kernel_rfl) (by kernel_rfl) (by kernel_rfl) (fun _ _ _ h => h) (Or.inl ⟨by rfl, ?_⟩) (by assumption) ?_
        rotate_left
        · intro w hSw; (try dsimp only at hSw); go_simp <;> with_reducible rfl
        (try simp only [Act.put, List.setIfInBounds_toArray, List.set_cons_zero, List.set_cons_succ])
        refine wpAnyH_take (i := 17) (oi := (⟨some 59, Op.binOp .eql 27 (.tmp 58) (.const (.int IntKind.i64 0)) 27, 4, "law.go:262", #[⟨16, .data⟩, ⟨14, .guard⟩], some (14, false)⟩ : Oper)) (v := ?_) rfl (by kernel_rfl) (by kernel_rfl) (by kernel_rfl) (fun _ _ _ h => h) (Or.inl ⟨by rfl, ?_⟩) (by assumption) ?_
        rotate_left
        · intro w hSw; (try dsimp only at hSw); go_simp <;> with_reducible rfl
        (try simp only [Act.put, List.setIfInBounds_toArray, List.set_cons_zero, List.set_cons_succ])
        refine wpAnyH_take (i := 18) (oi := (⟨some 60, Op.move (.tmp 59), 4, "law.go:262", #[⟨17, .data⟩, ⟨14, .chain⟩, ⟨14, .guard⟩], some (14, false)⟩ : Oper)) (v := ?_) rfl (by kernel_rfl) (by kernel_rfl) (by kernel_rfl) (fun _ _ _ h => h) (Or.inl ⟨by rfl, ?_⟩) (by assumption) ?_
        rotate_left
        · intro w hSw; (try dsimp only at hSw); go_simp <;> with_reducible rfl
        (try simp only [Act.put, List.setIfInBounds_toArray, List.set_cons_zero, List.set_cons_succ])
        refine wpAnyH_take (i := 19) (oi := (⟨some 61, Op.fieldAddr 29 (.tmp 12) 0, 0, "law.go:262", #[⟨18, .guard⟩], some (18, true)⟩ : Oper)) (v := ?_) rfl (by kernel_rfl) (by kernel_rfl) (by kernel_rfl) (fun _ _ _ h => h) (Or.inl ⟨by rfl, ?_⟩) (by assumption) ?_
        rotate_left
        · intro w hSw; (try dsimp only at hSw); go_simp <;> with_reducible rfl
        (try simp only [Act.put, List.setIfInBounds_toArray, List.set_cons_zero, List.set_cons_succ])
        refine wpAnyH_take (i := 20) (oi := (⟨some 62, Op.load 25 (.tmp 61), 25, "law.go:262", #[⟨19, .data⟩, ⟨18, .guard⟩], some (18, true)⟩ : Oper)) (v := ?_) rfl (by kernel_rfl) (by kernel_rfl) (by kernel_rfl) (fun _ _ _ h => h) (Or.inl ⟨by rfl, ?_⟩) (by assumption) ?_
        rotate_left
        · intro w hSw; (try dsimp only at hSw); go_simp <;> with_reducible rfl
        (try simp only [Act.put, List.setIfInBounds_toArray, List.set_cons_zero, List.set_cons_succ])
        refine wpAnyH_take (i := 21) (oi := (⟨some 63, Op.move (.tmp 8), 3, "law.go:262", #[⟨18, .guard⟩], some (18, true)⟩ : Oper)) (v := ?_) rfl (by kernel_rfl) (by kernel_rfl) (by kernel_rfl) (fun _ _ _ h => h) (Or.inl ⟨by rfl, ?_⟩) (by assumption) ?_
        rotate_left
        · intro w hSw; (try dsimp only at hSw); go_simp <;> with_reducible rfl
        (try simp only [Act.put, List.setIfInBounds_toArray, List.set_cons_zero, List.set_cons_succ])
        refine wpAnyH_take (i := 22) (oi := (⟨some 64, Op.move (.tmp 9), 3, "law.go:262", #[⟨18, .guard⟩], some (18, true)⟩ : Oper)) (v := ?_) rfl (by kernel_rfl) (by kernel_rfl) (by kernel_rfl) (fun _ _ _ h => h) (Or.inl ⟨by rfl, ?_⟩) (by assumption) ?_
        rotate_left
        · intro w hSw; (try dsimp only at hSw); go_simp <;> with_reducible rfl
        (try simp only [Act.put, List.setIfInBounds_toArray, List.set_cons_zero, List.set_cons_succ])
        refine wpAnyH_take (i := 23) (oi := (⟨some 65, Op.binOp .add 3 (.tmp 63) (.tmp 64) 3, 3, "law.go:262", #[⟨21, .data⟩, ⟨22, .data⟩, ⟨18, .guard⟩], some (18, true)⟩ : Oper)) (v := ?_) rfl (by kernel_rfl) (by kernel_rfl) (by kernel_rfl) (fun _ _ _ h => h) (Or.inl ⟨by rfl, ?_⟩) (by assumption) ?_
        rotate_left
        · intro w hSw; (try dsimp only at hSw); go_simp <;> with_reducible rfl
        (try simp only [Act.put, List.setIfInBounds_toArray, List.set_cons_zero, List.set_cons_succ])
        refine wpAnyH_ready (rs := [24]) (by kernel_rfl) (by simp) ?_
        refine AllReadyH.cons (o := (⟨some 66, Op.call { callee := Callee.value (Operand.func 26), args := #[.tmp 65], argTypes := #[3] }, 25, "law.go:262", #[⟨23, .data⟩, ⟨18, .chain⟩, ⟨18, .guard⟩], some (18, true)⟩ : Oper)) rfl (fun K hK => ?_) ?_
        rotate_left
        · exact AllReadyH.nil
        go_simp
        go_at_call 26
        with_reducible refine (CM.out _).mono ?_
        rintro e y0 ⟨rfl, hq0⟩
        have hB0 := below_step hsd hq0
        clear hHeld
        first | (with_reducible refine hK.out _ _ ?_ (fun hHeld => ?_)) | (go_wp2_with fail; with_reducible refine hK.out _ _ ?_ (fun hHeld => ?_))
        · with_reducible exact ⟨cell_below hB0 hm0, cell_below hB0 hm1, cell_below hB0 hm2, cell_below hB0 hd0, cell_below hB0 hd1, cell_below hB0 hd2, hB0⟩
        clear hK K
        (try simp only [Act.put, List.setIfInBounds_toArray, List.set_cons_zero, List.set_cons_succ])
        refine wpAnyH_take (i := 25) (oi := (⟨some 67, Op.binOp .neq 25 (.tmp 62) (.tmp 66) 25, 4, "law.go:262", #[⟨20, .data⟩, ⟨24, .data⟩, ⟨18, .guard⟩], some (18, true)⟩ : Oper)) (v := ?_) rfl (by kernel_rfl) (by kernel_rfl) (by kernel_rfl) (fun _ _ _ h => h) (Or.inl ⟨by rfl, ?_⟩) (by assumption) ?_
        rotate_left
        · intro w hSw; (try dsimp only at hSw); go_simp <;> with_reducible rfl
        (try simp only [Act.put, List.setIfInBounds_toArray, List.set_cons_zero, List.set_cons_succ])
        refine wpAnyH_take (i := 26) (oi := (⟨some 68, Op.pick (.tmp 60) (.tmp 67) (.const (.bool false)), 4, "law.go:262", #[⟨18, .data⟩, ⟨25, .data⟩, ⟨14, .guard⟩], some (14, false)⟩ : Oper)) (v := ?_) rfl (by kernel_rfl) (by kernel_rfl) (by kernel_rfl) (fun _ _ _ h => h) (Or.inl ⟨by rfl, ?_⟩) (by assumption) ?_
        rotate_left
        · intro w hSw; (try dsimp only at hSw); go_simp <;> with_reducible rfl
        (try simp only [Act.put, List.setIfInBounds_toArray, List.set_cons_zero, List.set_cons_succ])
        refine wpAnyH_take (i := 27) (oi := (⟨some 69, Op.pick (.tmp 56) (.const (.bool true)) (.tmp 68), 4, "law.go:262", #[⟨14, .data⟩, ⟨26, .data⟩], none⟩ : Oper)) (v := ?_) rfl (by kernel_rfl) (by kernel_rfl) (by kernel_rfl) (fun _ _ _ h => h) (Or.inl ⟨by rfl, ?_⟩) (by assumption) ?_
        rotate_left
        · intro w hSw; (try dsimp only at hSw); go_simp <;> with_reducible rfl
        (try simp only [Act.put, List.setIfInBounds_toArray, List.set_cons_zero, List.set_cons_succ])
        refine wpAnyH_take (i := 28) (oi := (⟨some 70, Op.move (.tmp 69), 4, "law.go:262", #[⟨27, .data⟩, ⟨24, .chain⟩], none⟩ : Oper)) (v := ?_) rfl (by kernel_rfl) (by kernel_rfl) (by kernel_rfl) (fun _ _ _ h => h) (Or.inl ⟨by rfl, ?_⟩) (by assumption) ?_
        rotate_left
        · intro w hSw; (try dsimp only at hSw); go_simp <;> with_reducible rfl
        (try simp only [Act.put, List.setIfInBounds_toArray, List.set_cons_zero, List.set_cons_succ])
        refine wpAnyH_take (i := 29) (oi := (⟨some 71, Op.fieldAddr 29 (.tmp 13) 1, 0, "law.go:262", #[⟨28, .guard⟩], some (28, false)⟩ : Oper)) (v := ?_) rfl (by kernel_rfl) (by kernel_rfl) (by kernel_rfl) (fun _ _ _ h => h) (Or.inl ⟨by rfl, ?_⟩) (by assumption) ?_
        rotate_left
        · intro w hSw; (try dsimp only at hSw); go_simp <;> with_reducible rfl
        (try simp only [Act.put, List.setIfInBounds_toArray, List.set_cons_zero, List.set_cons_succ])
        refine wpAnyH_take (i := 30) (oi := (⟨some 72, Op.load 27 (.tmp 71), 27, "law.go:262", #[⟨29, .data⟩, ⟨28, .guard⟩], some (28, false)⟩ : Oper)) (v := ?_) rfl (by kernel_rfl) (by kernel_rfl) (by kernel_rfl) (fun _ _ _ h => h) (Or.inl ⟨by rfl, ?_⟩) (by assumption) ?_
        rotate_left
        · intro w hSw; (try dsimp only at hSw); go_simp <;> with_reducible rfl
        (try simp only [Act.put, List.setIfInBounds_toArray, List.set_cons_zero, List.set_cons_succ])
        refine wpAnyH_take (i := 31) (oi := (⟨some 73, Op.binOp .eql 27 (.tmp 72) (.const (.int IntKind.i64 0)) 27, 4, "law.go:262", #[⟨30, .data⟩, ⟨28, .guard⟩], some (28, false)⟩ : Oper)) (v := ?_) rfl (by kernel_rfl) (by kernel_rfl) (by kernel_rfl) (fun _ _ _ h => h) (Or.inl ⟨by rfl, ?_⟩) (by assumption) ?_
        rotate_left
        · intro w hSw; (try dsimp only at hSw); go_simp <;> with_reducible rfl
        (try simp only [Act.put, List.setIfInBounds_toArray, List.set_cons_zero, List.set_cons_succ])
        refine wpAnyH_take (i := 32) (oi := (⟨some 74, Op.move (.tmp 8), 3, "law.go:262", #[⟨28, .guard⟩], some (28, false)⟩ : Oper)) (v := ?_) rfl (by kernel_rfl) (by kernel_rfl) (by kernel_rfl) (fun _ _ _ h => h) (Or.inl ⟨by rfl, ?_⟩) (by assumption) ?_
        rotate_left
        · intro w hSw; (try dsimp only at hSw); go_simp <;> with_reducible rfl
        (try simp only [Act.put, List.setIfInBounds_toArray, List.set_cons_zero, List.set_cons_succ])
        refine wpAnyH_take (i := 33) (oi := (⟨some 75, Op.move (.tmp 9), 3, "law.go:262", #[⟨28, .guard⟩], some (28, false)⟩ : Oper)) (v := ?_) rfl (by kernel_rfl) (by kernel_rfl) (by kernel_rfl) (fun _ _ _ h => h) (Or.inl ⟨by rfl, ?_⟩) (by assumption) ?_
        rotate_left
        · intro w hSw; (try dsimp only at hSw); go_simp <;> with_reducible rfl
        (try simp only [Act.put, List.setIfInBounds_toArray, List.set_cons_zero, List.set_cons_succ])
        refine wpAnyH_take (i := 34) (oi := (⟨some 76, Op.binOp .sub 3 (.tmp 74) (.tmp 75) 3, 3, "law.go:262", #[⟨32, .data⟩, ⟨33, .data⟩, ⟨28, .guard⟩], some (28, false)⟩ : Oper)) (v := ?_) rfl (by kernel_rfl) (by kernel_rfl) (by kernel_rfl) (fun _ _ _ h => h) (Or.inl ⟨by rfl, ?_⟩) (by assumption) ?_
        rotate_left
        · intro w hSw; (try dsimp only at hSw); go_simp <;> with_reducible rfl
        (try simp only [Act.put, List.setIfInBounds_toArray, List.set_cons_zero, List.set_cons_succ])
        refine wpAnyH_take (i := 35) (oi := (⟨some 77, Op.binOp .geq 3 (.tmp 76) (.const (.int IntKind.i64 (-62))) 3, 4, "law.go:262", #[⟨34, .data⟩, ⟨28, .guard⟩], some (28, false)⟩ : Oper)) (v := ?_) rfl (by kernel_rfl) (by kernel_rfl) (by kernel_rfl) (fun _ _ _ h => h) (Or.inl ⟨by rfl, ?_⟩) (by assumption) ?_
        rotate_left
        · intro w hSw; (try dsimp only at hSw); go_simp <;> with_reducible rfl
        (try simp only [Act.put, List.setIfInBounds_toArray, List.set_cons_zero, List.set_cons_succ])
        refine wpAnyH_take (i := 36) (oi := (⟨some 78, Op.move (.tmp 77), 4, "law.go:262", #[⟨35, .data⟩, ⟨28, .chain⟩, ⟨28, .guard⟩], some (28, false)⟩ : Oper)) (v := ?_) rfl (by kernel_rfl) (by kernel_rfl) (by kernel_rfl) (fun _ _ _ h => h) (Or.inl ⟨by rfl, ?_⟩) (by assumption) ?_
        rotate_left
        · intro w hSw; (try dsimp only at hSw); go_simp <;> with_reducible rfl
        (try simp only [Act.put, List.setIfInBounds_toArray, List.set_cons_zero, List.set_cons_succ])
        refine wpAnyH_take (i := 37) (oi := (⟨some 79, Op.move (.tmp 8), 3, "law.go:262", #[⟨36, .guard⟩], some (36, true)⟩ : Oper)) (v := ?_) rfl (by kernel_rfl) (by kernel_rfl) (by kernel_rfl) (fun _ _ _ h => h) (Or.inl ⟨by rfl, ?_⟩) (by assumption) ?_
        rotate_left
        · intro w hSw; (try dsimp only at hSw); go_simp <;> with_reducible rfl
        (try simp only [Act.put, List.setIfInBounds_toArray, List.set_cons_zero, List.set_cons_succ])
        refine wpAnyH_take (i := 38) (oi := (⟨some 80, Op.move (.tmp 9), 3, "law.go:262", #[⟨36, .guard⟩], some (36, true)⟩ : Oper)) (v := ?_) rfl (by kernel_rfl) (by kernel_rfl) (by kernel_rfl) (fun _ _ _ h => h) (Or.inl ⟨by rfl, ?_⟩) (by assumption) ?_
        rotate_left
        · intro w hSw; (try dsimp only at hSw); go_simp <;> with_reducible rfl
        (try simp only [Act.put, List.setIfInBounds_toArray, List.set_cons_zero, List.set_cons_succ])
        refine wpAnyH_take (i := 39) (oi := (⟨some 81, Op.binOp .sub 3 (.tmp 79) (.tmp 80) 3, 3, "law.go:262", #[⟨37, .data⟩, ⟨38, .data⟩, ⟨36, .guard⟩], some (36, true)⟩ : Oper)) (v := ?_) rfl (by kernel_rfl) (by kernel_rfl) (by kernel_rfl) (fun _ _ _ h => h) (Or.inl ⟨by rfl, ?_⟩) (by assumption) ?_
        rotate_left
        · intro w hSw; (try dsimp only at hSw); go_simp <;> with_reducible rfl
        (try simp only [Act.put, List.setIfInBounds_toArray, List.set_cons_zero, List.set_cons_succ])
        refine wpAnyH_take (i := 40) (oi := (⟨some 82, Op.binOp .leq 3 (.tmp 81) (.const (.int IntKind.i64 62)) 3, 4, "law.go:262", #[⟨39, .data⟩, ⟨36, .guard⟩], some (36, true)⟩ : Oper)) (v := ?_) rfl (by kernel_rfl) (by kernel_rfl) (by kernel_rfl) (fun _ _ _ h => h) (Or.inl ⟨by rfl, ?_⟩) (by assumption) ?_
        rotate_left
        · intro w hSw; (try dsimp only at hSw); go_simp <;> with_reducible rfl
        (try simp only [Act.put, List.setIfInBounds_toArray, List.set_cons_zero, List.set_cons_succ])
        refine wpAnyH_take (i := 41) (oi := (⟨some 83, Op.pick (.tmp 78) (.tmp 82) (.const (.bool false)), 4, "law.go:262", #[⟨36, .data⟩, ⟨40, .data⟩, ⟨28, .guard⟩], some (28, false)⟩ : Oper)) (v := ?_) rfl (by kernel_rfl) (by kernel_rfl) (by kernel_rfl) (fun _ _ _ h => h) (Or.inl ⟨by rfl, ?_⟩) (by assumption) ?_
        rotate_left
        · intro w hSw; (try dsimp only at hSw); go_simp <;> with_reducible rfl
        (try simp only [Act.put, List.setIfInBounds_toArray, List.set_cons_zero, List.set_cons_succ])
        refine wpAnyH_take (i := 42) (oi := (⟨some 84, Op.binOp .neq 4 (.tmp 73) (.tmp 83) 4, 4, "law.go:262", #[⟨31, .data⟩, ⟨41, .data⟩, ⟨28, .guard⟩], some (28, false)⟩ : Oper)) (v := ?_) rfl (by kernel_rfl) (by kernel_rfl) (by kernel_rfl) (fun _ _ _ h => h) (Or.inl ⟨by rfl, ?_⟩) (by assumption) ?_
        rotate_left
        · intro w hSw; (try dsimp only at hSw); go_simp <;> with_reducible rfl
        (try simp only [Act.put, List.setIfInBounds_toArray, List.set_cons_zero, List.set_cons_succ])
        refine wpAnyH_take (i := 43) (oi := (⟨some 85, Op.pick (.tmp 70) (.const (.bool true)) (.tmp 84), 4, "law.go:262", #[⟨28, .data⟩, ⟨42, .data⟩], none⟩ : Oper)) (v := ?_) rfl (by kernel_rfl) (by kernel_rfl) (by kernel_rfl) (fun _ _ _ h => h) (Or.inl ⟨by rfl, ?_⟩) (by assumption) ?_
        rotate_left
        · intro w hSw; (try dsimp only at hSw); go_simp <;> with_reducible rfl
        (try simp only [Act.put, List.setIfInBounds_toArray, List.set_cons_zero, List.set_cons_succ])
        refine wpAnyH_take (i := 44) (oi := (⟨some 86, Op.move (.tmp 85), 4, "law.go:262", #[⟨43, .data⟩, ⟨36, .chain⟩], none⟩ : Oper)) (v := ?_) rfl (by kernel_rfl) (by kernel_rfl) (by kernel_rfl) (fun _ _ _ h => h) (Or.inl ⟨by rfl, ?_⟩) (by assumption) ?_
        rotate_left
        · intro w hSw; (try dsimp only at hSw); go_simp <;> with_reducible rfl
        (try simp only [Act.put, List.setIfInBounds_toArray, List.set_cons_zero, List.set_cons_succ])
        refine wpAnyH_take (i := 45) (oi := (⟨some 87, Op.fieldAddr 29 (.tmp 13) 1, 0, "law.go:262", #[⟨44, .guard⟩], some (44, false)⟩ : Oper)) (v := ?_) rfl (by kernel_rfl) (by kernel_rfl) (by kernel_rfl) (fun _ _ _ h => h) (Or.inl ⟨by rfl, ?_⟩) (by assumption) ?_
        rotate_left
        · intro w hSw; (try dsimp only at hSw); go_simp <;> with_reducible rfl
        (try simp only [Act.put, List.setIfInBounds_toArray, List.set_cons_zero, List.set_cons_succ])
        refine wpAnyH_take (i := 46) (oi := (⟨some 88, Op.load 27 (.tmp 87), 27, "law.go:262", #[⟨45, .data⟩, ⟨44, .guard⟩], some (44, false)⟩ : Oper)) (v := ?_) rfl (by kernel_rfl) (by kernel_rfl) (by kernel_rfl) (fun _ _ _ h => h) (Or.inl ⟨by rfl, ?_⟩) (by assumption) ?_
        rotate_left
        · intro w hSw; (try dsimp only at hSw); go_simp <;> with_reducible rfl
        (try simp only [Act.put, List.setIfInBounds_toArray, List.set_cons_zero, List.set_cons_succ])
        refine wpAnyH_take (i := 47) (oi := (⟨some 89, Op.binOp .eql 27 (.tmp 88) (.const (.int IntKind.i64 0)) 27, 4, "law.go:262", #[⟨46, .data⟩, ⟨44, .guard⟩], some (44, false)⟩ : Oper)) (v := ?_) rfl (by kernel_rfl) (by kernel_rfl) (by kernel_rfl) (fun _ _ _ h => h) (Or.inl ⟨by rfl, ?_⟩) (by assumption) ?_
        rotate_left
        · intro w hSw; (try dsimp only at hSw); go_simp <;> with_reducible rfl
        (try simp only [Act.put, List.setIfInBounds_toArray, List.set_cons_zero, List.set_cons_succ])
        refine wpAnyH_take (i := 48) (oi := (⟨some 90, Op.move (.tmp 89), 4, "law.go:262", #[⟨47, .data⟩, ⟨44, .chain⟩, ⟨44, .guard⟩], some (44, false)⟩ : Oper)) (v := ?_) rfl (by kernel_rfl) (by kernel_rfl) (by kernel_rfl) (fun _ _ _ h => h) (Or.inl ⟨by rfl, ?_⟩) (by assumption) ?_
        rotate_left
        · intro w hSw; (try dsimp only at hSw); go_simp <;> with_reducible rfl
        (try simp only [Act.put, List.setIfInBounds_toArray, List.set_cons_zero, List.set_cons_succ])
        refine wpAnyH_take (i := 49) (oi := (⟨some 91, Op.fieldAddr 29 (.tmp 13) 0, 0, "law.go:262", #[⟨48, .guard⟩], some (48, true)⟩ : Oper)) (v := ?_) rfl (by kernel_rfl) (by kernel_rfl) (by kernel_rfl) (fun _ _ _ h => h) (Or.inl ⟨by rfl, ?_⟩) (by assumption) ?_
        rotate_left
        · intro w hSw; (try dsimp only at hSw); go_simp <;> with_reducible rfl
        (try simp only [Act.put, List.setIfInBounds_toArray, List.set_cons_zero, List.set_cons_succ])
        refine wpAnyH_take (i := 50) (oi := (⟨some 92, Op.load 25 (.tmp 91), 25, "law.go:262", #[⟨49, .data⟩, ⟨48, .guard⟩], some (48, true)⟩ : Oper)) (v := ?_) rfl (by kernel_rfl) (by kernel_rfl) (by kernel_rfl) (fun _ _ _ h => h) (Or.inl ⟨by rfl, ?_⟩) (by assumption) ?_
        rotate_left
        · intro w hSw; (try dsimp only at hSw); go_simp <;> with_reducible rfl
        (try simp only [Act.put, List.setIfInBounds_toArray, List.set_cons_zero, List.set_cons_succ])
        refine wpAnyH_take (i := 51) (oi := (⟨some 93, Op.move (.tmp 8), 3, "law.go:262", #[⟨48, .guard⟩], some (48, true)⟩ : Oper)) (v := ?_) rfl (by kernel_rfl) (by kernel_rfl) (by kernel_rfl) (fun _ _ _ h => h) (Or.inl ⟨by rfl, ?_⟩) (by assumption) ?_
        rotate_left
        · intro w hSw; (try dsimp only at hSw); go_simp <;> with_reducible rfl
        (try simp only [Act.put, List.setIfInBounds_toArray, List.set_cons_zero, List.set_cons_succ])
        refine wpAnyH_take (i := 52) (oi := (⟨some 94, Op.move (.tmp 9), 3, "law.go:262", #[⟨48, .guard⟩], some (48, true)⟩ : Oper)) (v := ?_) rfl (by kernel_rfl) (by kernel_rfl) (by kernel_rfl) (fun _ _ _ h => h) (Or.inl ⟨by rfl, ?_⟩) (by assumption) ?_
        rotate_left
        · intro w hSw; (try dsimp only at hSw); go_simp <;> with_reducible rfl
        (try simp only [Act.put, List.setIfInBounds_toArray, List.set_cons_zero, List.set_cons_succ])
        refine wpAnyH_take (i := 53) (oi := (⟨some 95, Op.binOp .sub 3 (.tmp 93) (.tmp 94) 3, 3, "law.go:262", #[⟨51, .data⟩, ⟨52, .data⟩, ⟨48, .guard⟩], some (48, true)⟩ : Oper)) (v := ?_) rfl (by kernel_rfl) (by kernel_rfl) (by kernel_rfl) (fun _ _ _ h => h) (Or.inl ⟨by rfl, ?_⟩) (by assumption) ?_
        rotate_left
        · intro w hSw; (try dsimp only at hSw); go_simp <;> with_reducible rfl
        (try simp only [Act.put, List.setIfInBounds_toArray, List.set_cons_zero, List.set_cons_succ])
        refine wpAnyH_ready (rs := [54]) (by kernel_rfl) (by simp) ?_
        refine AllReadyH.cons (o := (⟨some 96, Op.call { callee := Callee.value (Operand.func 26), args := #[.tmp 95], argTypes := #[3] }, 25, "law.go:262", #[⟨53, .data⟩, ⟨48, .chain⟩, ⟨48, .guard⟩], some (48, true)⟩ : Oper)) rfl (fun K hK => ?_) ?_
        rotate_left
        · exact AllReadyH.nil
        go_simp
        go_at_call 26
        with_reducible refine (CD.out _).mono ?_
        rintro e y1 ⟨rfl, hq1⟩
        have hB1 := below_step hB0 hq1
        clear hHeld
        first | (with_reducible refine hK.out _ _ ?_ (fun hHeld => ?_)) | (go_wp2_with fail; with_reducible refine hK.out _ _ ?_ (fun hHeld => ?_))
        · with_reducible exact ⟨cell_below hB1 hm0, cell_below hB1 hm1, cell_below hB1 hm2, cell_below hB1 hd0, cell_below hB1 hd1, cell_below hB1 hd2, hB1⟩
        clear hK K
        (try simp only [Act.put, List.setIfInBounds_toArray, List.set_cons_zero, List.set_cons_succ])
        refine wpAnyH_take (i := 55) (oi := (⟨some 97, Op.binOp .neq 25 (.tmp 92) (.tmp 96) 25, 4, "law.go:262", #[⟨50, .data⟩, ⟨54, .data⟩, ⟨48, .guard⟩], some (48, true)⟩ : Oper)) (v := ?_) rfl (by kernel_rfl) (by kernel_rfl) (by kernel_rfl) (fun _ _ _ h => h) (Or.inl ⟨by rfl, ?_⟩) (by assumption) ?_
        rotate_left
        · intro w hSw; (try dsimp only at hSw); go_simp <;> with_reducible rfl
        (try simp only [Act.put, List.setIfInBounds_toArray, List.set_cons_zero, List.set_cons_succ])
        refine wpAnyH_take (i := 56) (oi := (⟨some 98, Op.pick (.tmp 90) (.tmp 97) (.const (.bool false)), 4, "law.go:262", #[⟨48, .data⟩, ⟨55, .data⟩, ⟨44, .guard⟩], some (44, false)⟩ : Oper)) (v := ?_) rfl (by kernel_rfl) (by kernel_rfl) (by kernel_rfl) (fun _ _ _ h => h) (Or.inl ⟨by rfl, ?_⟩) (by assumption) ?_
        rotate_left
        · intro w hSw; (try dsimp only at hSw); go_simp <;> with_reducible rfl
        (try simp only [Act.put, List.setIfInBounds_toArray, List.set_cons_zero, List.set_cons_succ])
        refine wpAnyH_take (i := 57) (oi := (⟨some 99, Op.pick (.tmp 86) (.const (.bool true)) (.tmp 98), 4, "law.go:262", #[⟨44, .data⟩, ⟨56, .data⟩], none⟩ : Oper)) (v := ?_) rfl (by kernel_rfl) (by kernel_rfl) (by kernel_rfl) (fun _ _ _ h => h) (Or.inl ⟨by rfl, ?_⟩) (by assumption) ?_
        rotate_left
        · intro w hSw; (try dsimp only at hSw); go_simp <;> with_reducible rfl
        (try simp only [Act.put, List.setIfInBounds_toArray, List.set_cons_zero, List.set_cons_succ])
        refine wpAnyH_done (by kernel_rfl) ?_ _
        go_wp2_with fail
        go_meet
        exact ⟨rfl, by assumption⟩
      · by_cases gdl : -62 ≤ a - b
        · skip
          as_aux_lemma =>
          have mf0 : (mE == 0) = true := by rw [gm]; rfl
          have mf1 : decide (-62 ≤ a + b) = true := by simp; omega
          have mf2 : decide (a + b ≤ 62) = true := by simp; omega
          have df0 : (dE == 0) = false := by rw [gd]; rfl
          have df1 : decide (-62 ≤ a - b) = true := by simp; omega
          have df2 : decide (a - b ≤ 62) = false := by simp; omega
          have CM0 := PS.out gm1 gm2
          rw [← gm3, ← gm4] at CM0
          have CM := hid CM0
          clear CM0
          clear gm gm1 gm2 gm3 gm4 gd gd1
          refine wp_region_held_drew (S := (fun V => V.cell? ⟨v4.heap.size, 0, none⟩ = some (.int .i64 mN) ∧ V.cell? ⟨v4.heap.size, 1, none⟩ = some (.int .i64 mD) ∧ V.cell? ⟨v4.heap.size, 2, none⟩ = some (.int .i64 mE) ∧ V.cell? ⟨v5.heap.size, 0, none⟩ = some (.int .i64 dN) ∧ V.cell? ⟨v5.heap.size, 1, none⟩ = some (.int .i64 dD) ∧ V.cell? ⟨v5.heap.size, 2, none⟩ = some (.int .i64 dE) ∧ Below wD.heap.size wD V)) (by kernel_rfl) ?_ (fun hHeld => ?_)
          · with_reducible exact ⟨cell_below hsd hm0, cell_below hsd hm1, cell_below hsd hm2, cell_below hsd hd0, cell_below hsd hd1, cell_below hsd hd2, hsd⟩
          refine wpAnyH_take (i := 0) (oi := (⟨some 42, Op.fieldAddr 29 (.tmp 12) 1, 0, "law.go:262", #[], none⟩ : Oper)) (v := ?_) rfl (by kernel_rfl) (by kernel_rfl) (by kernel_rfl) (fun _ _ _ h => h) (Or.inl ⟨by rfl, ?_⟩) (by assumption) ?_
          rotate_left
          · intro w hSw; (try dsimp only at hSw); go_simp <;> with_reducible rfl
          (try simp only [Act.put, List.setIfInBounds_toArray, List.set_cons_zero, List.set_cons_succ])
          refine wpAnyH_take (i := 1) (oi := (⟨some 43, Op.load 27 (.tmp 42), 27, "law.go:262", #[⟨0, .data⟩], none⟩ : Oper)) (v := ?_) rfl (by kernel_rfl) (by kernel_rfl) (by kernel_rfl) (fun _ _ _ h => h) (Or.inl ⟨by rfl, ?_⟩) (by assumption) ?_
          rotate_left
          · intro w hSw; (try dsimp only at hSw); go_simp <;> with_reducible rfl
          (try simp only [Act.put, List.setIfInBounds_toArray, List.set_cons_zero, List.set_cons_succ])
          refine wpAnyH_take (i := 2) (oi := (⟨some 44, Op.binOp .eql 27 (.tmp 43) (.const (.int IntKind.i64 0)) 27, 4, "law.go:262", #[⟨1, .data⟩], none⟩ : Oper)) (v := ?_) rfl (by kernel_rfl) (by kernel_rfl) (by kernel_rfl) (fun _ _ _ h => h) (Or.inl ⟨by rfl, ?_⟩) (by assumption) ?_
          rotate_left
          · intro w hSw; (try dsimp only at hSw); go_simp <;> with_reducible rfl
          (try simp only [Act.put, List.setIfInBounds_toArray, List.set_cons_zero, List.set_cons_succ])
          refine wpAnyH_take (i := 3) (oi := (⟨some 45, Op.move (.tmp 8), 3, "law.go:262", #[], none⟩ : Oper)) (v := ?_) rfl (by kernel_rfl) (by kernel_rfl) (by kernel_rfl) (fun _ _ _ h => h) (Or.inl ⟨by rfl, ?_⟩) (by assumption) ?_
          rotate_left
          · intro w hSw; (try dsimp only at hSw); go_simp <;> with_reducible rfl
          (try simp only [Act.put, List.setIfInBounds_toArray, List.set_cons_zero, List.set_cons_succ])
          refine wpAnyH_take (i := 4) (oi := (⟨some 46, Op.move (.tmp 9), 3, "law.go:262", #[], none⟩ : Oper)) (v := ?_) rfl (by kernel_rfl) (by kernel_rfl) (by kernel_rfl) (fun _ _ _ h => h) (Or.inl ⟨by rfl, ?_⟩) (by assumption) ?_
          rotate_left
          · intro w hSw; (try dsimp only at hSw); go_simp <;> with_reducible rfl
          (try simp only [Act.put, List.setIfInBounds_toArray, List.set_cons_zero, List.set_cons_succ])
          refine wpAnyH_take (i := 5) (oi := (⟨some 47, Op.binOp .add 3 (.tmp 45) (.tmp 46) 3, 3, "law.go:262", #[⟨3, .data⟩, ⟨4, .data⟩], none⟩ : Oper)) (v := ?_) rfl (by kernel_rfl) (by kernel_rfl) (by kernel_rfl) (fun _ _ _ h => h) (Or.inl ⟨by rfl, ?_⟩) (by assumption) ?_
          rotate_left
          · intro w hSw; (try dsimp only at hSw); go_simp <;> with_reducible rfl
          (try simp only [Act.put, List.setIfInBounds_toArray, List.set_cons_zero, List.set_cons_succ])
          refine wpAnyH_take (i := 6) (oi := (⟨some 48, Op.binOp .geq 3 (.tmp 47) (.const (.int IntKind.i64 (-62))) 3, 4, "law.go:262", #[⟨5, .data⟩], none⟩ : Oper)) (v := ?_) rfl (by kernel_rfl) (by kernel_rfl) (by kernel_rfl) (fun _ _ _ h => h) (Or.inl ⟨by rfl, ?_⟩) (by assumption) ?_
          rotate_left
          · intro w hSw; (try dsimp only at hSw); go_simp <;> with_reducible rfl
          (try simp only [Act.put, List.setIfInBounds_toArray, List.set_cons_zero, List.set_cons_succ])
          refine wpAnyH_take (i := 7) (oi := (⟨some 49, Op.move (.tmp 48), 4, "law.go:262", #[⟨6, .data⟩], none⟩ : Oper)) (v := ?_) rfl (by kernel_rfl) (by kernel_rfl) (by kernel_rfl) (fun _ _ _ h => h) (Or.inl ⟨by rfl, ?_⟩) (by assumption) ?_
          rotate_left
          · intro w hSw; (try dsimp only at hSw); go_simp <;> with_reducible rfl
          (try simp only [Act.put, List.setIfInBounds_toArray, List.set_cons_zero, List.set_cons_succ])
          refine wpAnyH_take (i := 8) (oi := (⟨some 50, Op.move (.tmp 8), 3, "law.go:262", #[⟨7, .guard⟩], some (7, true)⟩ : Oper)) (v := ?_) rfl (by kernel_rfl) (by kernel_rfl) (by kernel_rfl) (fun _ _ _ h => h) (Or.inl ⟨by rfl, ?_⟩) (by assumption) ?_
          rotate_left
          · intro w hSw; (try dsimp only at hSw); go_simp <;> with_reducible rfl
          (try simp only [Act.put, List.setIfInBounds_toArray, List.set_cons_zero, List.set_cons_succ])
          refine wpAnyH_take (i := 9) (oi := (⟨some 51, Op.move (.tmp 9), 3, "law.go:262", #[⟨7, .guard⟩], some (7, true)⟩ : Oper)) (v := ?_) rfl (by kernel_rfl) (by kernel_rfl) (by kernel_rfl) (fun _ _ _ h => h) (Or.inl ⟨by rfl, ?_⟩) (by assumption) ?_
          rotate_left
          · intro w hSw; (try dsimp only at hSw); go_simp <;> with_reducible rfl
          (try simp only [Act.put, List.setIfInBounds_toArray, List.set_cons_zero, List.set_cons_succ])
          refine wpAnyH_take (i := 10) (oi := (⟨some 52, Op.binOp .add 3 (.tmp 50) (.tmp 51) 3, 3, "law.go:262", #[⟨8, .data⟩, ⟨9, .data⟩, ⟨7, .guard⟩], some (7, true)⟩ : Oper)) (v := ?_) rfl (by kernel_rfl) (by kernel_rfl) (by kernel_rfl) (fun _ _ _ h => h) (Or.inl ⟨by rfl, ?_⟩) (by assumption) ?_
          rotate_left
          · intro w hSw; (try dsimp only at hSw); go_simp <;> with_reducible rfl
          (try simp only [Act.put, List.setIfInBounds_toArray, List.set_cons_zero, List.set_cons_succ])
          refine wpAnyH_take (i := 11) (oi := (⟨some 53, Op.binOp .leq 3 (.tmp 52) (.const (.int IntKind.i64 62)) 3, 4, "law.go:262", #[⟨10, .data⟩, ⟨7, .guard⟩], some (7, true)⟩ : Oper)) (v := ?_) rfl (by kernel_rfl) (by kernel_rfl) (by kernel_rfl) (fun _ _ _ h => h) (Or.inl ⟨by rfl, ?_⟩) (by assumption) ?_
          rotate_left
          · intro w hSw; (try dsimp only at hSw); go_simp <;> with_reducible rfl
          (try simp only [Act.put, List.setIfInBounds_toArray, List.set_cons_zero, List.set_cons_succ])
          refine wpAnyH_take (i := 12) (oi := (⟨some 54, Op.pick (.tmp 49) (.tmp 53) (.const (.bool false)), 4, "law.go:262", #[⟨7, .data⟩, ⟨11, .data⟩], none⟩ : Oper)) (v := ?_) rfl (by kernel_rfl) (by kernel_rfl) (by kernel_rfl) (fun _ _ _ h => h) (Or.inl ⟨by rfl, ?_⟩) (by assumption) ?_
          rotate_left
          · intro w hSw; (try dsimp only at hSw); go_simp <;> with_reducible rfl
          (try simp only [Act.put, List.setIfInBounds_toArray, List.set_cons_zero, List.set_cons_succ])
          refine wpAnyH_take (i := 13) (oi := (⟨some 55, Op.binOp .neq 4 (.tmp 44) (.tmp 54) 4, 4, "law.go:262", #[⟨2, .data⟩, ⟨12, .data⟩], none⟩ : Oper)) (v := ?_) rfl (by kernel_rfl) (by kernel_rfl) (by kernel_rfl) (fun _ _ _ h => h) (Or.inl ⟨by rfl, ?_⟩) (by assumption) ?_
          rotate_left
          · intro w hSw; (try dsimp only at hSw); go_simp <;> with_reducible rfl
          (try simp only [Act.put, List.setIfInBounds_toArray, List.set_cons_zero, List.set_cons_succ])
          refine wpAnyH_take (i := 14) (oi := (⟨some 56, Op.move (.tmp 55), 4, "law.go:262", #[⟨13, .data⟩, ⟨7, .chain⟩], none⟩ : Oper)) (v := ?_) rfl (by kernel_rfl) (by kernel_rfl) (by kernel_rfl) (fun _ _ _ h => h) (Or.inl ⟨by rfl, ?_⟩) (by assumption) ?_
          rotate_left
          · intro w hSw; (try dsimp only at hSw); go_simp <;> with_reducible rfl
          (try simp only [Act.put, List.setIfInBounds_toArray, List.set_cons_zero, List.set_cons_succ])
          refine wpAnyH_take (i := 15) (oi := (⟨some 57, Op.fieldAddr 29 (.tmp 12) 1, 0, "law.go:262", #[⟨14, .guard⟩], some (14, false)⟩ : Oper)) (v := ?_) rfl (by kernel_rfl) (by kernel_rfl) (by kernel_rfl) (fun _ _ _ h => h) (Or.inl ⟨by rfl, ?_⟩) (by assumption) ?_
          rotate_left
          · intro w hSw; (try dsimp only at hSw); go_simp <;> with_reducible rfl
          (try simp only [Act.put, List.setIfInBounds_toArray, List.set_cons_zero, List.set_cons_succ])
          refine wpAnyH_take (i := 16) (oi := (⟨some 58, Op.load 27 (.tmp 57), 27, "law.go:262", #[⟨15, .data⟩, ⟨14, .guard⟩], some (14, false)⟩ : Oper)) (v := ?_) rfl (by kernel_rfl) (by kernel_rfl) (by kernel_rfl) (fun _ _ _ h => h) (Or.inl ⟨by rfl, ?_⟩) (by assumption) ?_
          rotate_left
          · intro w hSw; (try dsimp only at hSw); go_simp <;> with_reducible rfl
          (try simp only [Act.put, List.setIfInBounds_toArray, List.set_cons_zero, List.set_cons_succ])
          refine wpAnyH_take (i := 17) (oi := (⟨some 59, Op.binOp .eql 27 (.tmp 58) (.const (.int IntKind.i64 0)) 27, 4, "law.go:262", #[⟨16, .data⟩, ⟨14, .guard⟩], some (14, false)⟩ : Oper)) (v := ?_) rfl (by kernel_rfl) (by kernel_rfl) (by kernel_rfl) (fun _ _ _ h => h) (Or.inl ⟨by rfl, ?_⟩) (by assumption) ?_
          rotate_left
          · intro w hSw; (try dsimp only at hSw); go_simp <;> with_reducible rfl
          (try simp only [Act.put, List.setIfInBounds_toArray, List.set_cons_zero, List.set_cons_succ])
          refine wpAnyH_take (i := 18) (oi := (⟨some 60, Op.move (.tmp 59), 4, "law.go:262", #[⟨17, .data⟩, ⟨14, .chain⟩, ⟨14, .guard⟩], some (14, false)⟩ : Oper)) (v := ?_) rfl (by kernel_rfl) (by kernel_rfl) (by kernel_rfl) (fun _ _ _ h => h) (Or.inl ⟨by rfl, ?_⟩) (by assumption) ?_
          rotate_left
          · intro w hSw; (try dsimp only at hSw); go_simp <;> with_reducible rfl
          (try simp only [Act.put, List.setIfInBounds_toArray, List.set_cons_zero, List.set_cons_succ])
          refine wpAnyH_take (i := 19) (oi := (⟨some 61, Op.fieldAddr 29 (.tmp 12) 0, 0, "law.go:262", #[⟨18, .guard⟩], some (18, true)⟩ : Oper)) (v := ?_) rfl (by kernel_rfl) (by kernel_rfl) (by kernel_rfl) (fun _ _ _ h => h) (Or.inl ⟨by rfl, ?_⟩) (by assumption) ?_
          rotate_left
          · intro w hSw; (try dsimp only at hSw); go_simp <;> with_reducible rfl
          (try simp only [Act.put, List.setIfInBounds_toArray, List.set_cons_zero, List.set_cons_succ])
          refine wpAnyH_take (i := 20) (oi := (⟨some 62, Op.load 25 (.tmp 61), 25, "law.go:262", #[⟨19, .data⟩, ⟨18, .guard⟩], some (18, true)⟩ : Oper)) (v := ?_) rfl (by kernel_rfl) (by kernel_rfl) (by kernel_rfl) (fun _ _ _ h => h) (Or.inl ⟨by rfl, ?_⟩) (by assumption) ?_
          rotate_left
          · intro w hSw; (try dsimp only at hSw); go_simp <;> with_reducible rfl
          (try simp only [Act.put, List.setIfInBounds_toArray, List.set_cons_zero, List.set_cons_succ])
          refine wpAnyH_take (i := 21) (oi := (⟨some 63, Op.move (.tmp 8), 3, "law.go:262", #[⟨18, .guard⟩], some (18, true)⟩ : Oper)) (v := ?_) rfl (by kernel_rfl) (by kernel_rfl) (by kernel_rfl) (fun _ _ _ h => h) (Or.inl ⟨by rfl, ?_⟩) (by assumption) ?_
          rotate_left
          · intro w hSw; (try dsimp only at hSw); go_simp <;> with_reducible rfl
          (try simp only [Act.put, List.setIfInBounds_toArray, List.set_cons_zero, List.set_cons_succ])
          refine wpAnyH_take (i := 22) (oi := (⟨some 64, Op.move (.tmp 9), 3, "law.go:262", #[⟨18, .guard⟩], some (18, true)⟩ : Oper)) (v := ?_) rfl (by kernel_rfl) (by kernel_rfl) (by kernel_rfl) (fun _ _ _ h => h) (Or.inl ⟨by rfl, ?_⟩) (by assumption) ?_
          rotate_left
          · intro w hSw; (try dsimp only at hSw); go_simp <;> with_reducible rfl
          (try simp only [Act.put, List.setIfInBounds_toArray, List.set_cons_zero, List.set_cons_succ])
          refine wpAnyH_take (i := 23) (oi := (⟨some 65, Op.binOp .add 3 (.tmp 63) (.tmp 64) 3, 3, "law.go:262", #[⟨21, .data⟩, ⟨22, .data⟩, ⟨18, .guard⟩], some (18, true)⟩ : Oper)) (v := ?_) rfl (by kernel_rfl) (by kernel_rfl) (by kernel_rfl) (fun _ _ _ h => h) (Or.inl ⟨by rfl, ?_⟩) (by assumption) ?_
          rotate_left
          · intro w hSw; (try dsimp only at hSw); go_simp <;> with_reducible rfl
          (try simp only [Act.put, List.setIfInBounds_toArray, List.set_cons_zero, List.set_cons_succ])
          refine wpAnyH_ready (rs := [24]) (by kernel_rfl) (by simp) ?_
          refine AllReadyH.cons (o := (⟨some 66, Op.call { callee := Callee.value (Operand.func 26), args := #[.tmp 65], argTypes := #[3] }, 25, "law.go:262", #[⟨23, .data⟩, ⟨18, .chain⟩, ⟨18, .guard⟩], some (18, true)⟩ : Oper)) rfl (fun K hK => ?_) ?_
          rotate_left
          · exact AllReadyH.nil
          go_simp
          go_at_call 26
          with_reducible refine (CM.out _).mono ?_
          rintro e y0 ⟨rfl, hq0⟩
          have hB0 := below_step hsd hq0
          clear hHeld
          first | (with_reducible refine hK.out _ _ ?_ (fun hHeld => ?_)) | (go_wp2_with fail; with_reducible refine hK.out _ _ ?_ (fun hHeld => ?_))
          · with_reducible exact ⟨cell_below hB0 hm0, cell_below hB0 hm1, cell_below hB0 hm2, cell_below hB0 hd0, cell_below hB0 hd1, cell_below hB0 hd2, hB0⟩
          clear hK K
          (try simp only [Act.put, List.setIfInBounds_toArray, List.set_cons_zero, List.set_cons_succ])
          refine wpAnyH_take (i := 25) (oi := (⟨some 67, Op.binOp .neq 25 (.tmp 62) (.tmp 66) 25, 4, "law.go:262", #[⟨20, .data⟩, ⟨24, .data⟩, ⟨18, .guard⟩], some (18, true)⟩ : Oper)) (v := ?_) rfl (by kernel_rfl) (by kernel_rfl) (by kernel_rfl) (fun _ _ _ h => h) (Or.inl ⟨by rfl, ?_⟩) (by assumption) ?_
          rotate_left
          · intro w hSw; (try dsimp only at hSw); go_simp <;> with_reducible rfl
          (try simp only [Act.put, List.setIfInBounds_toArray, List.set_cons_zero, List.set_cons_succ])
          refine wpAnyH_take (i := 26) (oi := (⟨some 68, Op.pick (.tmp 60) (.tmp 67) (.const (.bool false)), 4, "law.go:262", #[⟨18, .data⟩, ⟨25, .data⟩, ⟨14, .guard⟩], some (14, false)⟩ : Oper)) (v := ?_) rfl (by kernel_rfl) (by kernel_rfl) (by kernel_rfl) (fun _ _ _ h => h) (Or.inl ⟨by rfl, ?_⟩) (by assumption) ?_
          rotate_left
          · intro w hSw; (try dsimp only at hSw); go_simp <;> with_reducible rfl
          (try simp only [Act.put, List.setIfInBounds_toArray, List.set_cons_zero, List.set_cons_succ])
          refine wpAnyH_take (i := 27) (oi := (⟨some 69, Op.pick (.tmp 56) (.const (.bool true)) (.tmp 68), 4, "law.go:262", #[⟨14, .data⟩, ⟨26, .data⟩], none⟩ : Oper)) (v := ?_) rfl (by kernel_rfl) (by kernel_rfl) (by kernel_rfl) (fun _ _ _ h => h) (Or.inl ⟨by rfl, ?_⟩) (by assumption) ?_
          rotate_left
          · intro w hSw; (try dsimp only at hSw); go_simp <;> with_reducible rfl
          (try simp only [Act.put, List.setIfInBounds_toArray, List.set_cons_zero, List.set_cons_succ])
          refine wpAnyH_take (i := 28) (oi := (⟨some 70, Op.move (.tmp 69), 4, "law.go:262", #[⟨27, .data⟩, ⟨24, .chain⟩], none⟩ : Oper)) (v := ?_) rfl (by kernel_rfl) (by kernel_rfl) (by kernel_rfl) (fun _ _ _ h => h) (Or.inl ⟨by rfl, ?_⟩) (by assumption) ?_
          rotate_left
          · intro w hSw; (try dsimp only at hSw); go_simp <;> with_reducible rfl
          (try simp only [Act.put, List.setIfInBounds_toArray, List.set_cons_zero, List.set_cons_succ])
          refine wpAnyH_take (i := 29) (oi := (⟨some 71, Op.fieldAddr 29 (.tmp 13) 1, 0, "law.go:262", #[⟨28, .guard⟩], some (28, false)⟩ : Oper)) (v := ?_) rfl (by kernel_rfl) (by kernel_rfl) (by kernel_rfl) (fun _ _ _ h => h) (Or.inl ⟨by rfl, ?_⟩) (by assumption) ?_
          rotate_left
          · intro w hSw; (try dsimp only at hSw); go_simp <;> with_reducible rfl
          (try simp only [Act.put, List.setIfInBounds_toArray, List.set_cons_zero, List.set_cons_succ])
          refine wpAnyH_take (i := 30) (oi := (⟨some 72, Op.load 27 (.tmp 71), 27, "law.go:262", #[⟨29, .data⟩, ⟨28, .guard⟩], some (28, false)⟩ : Oper)) (v := ?_) rfl (by kernel_rfl) (by kernel_rfl) (by kernel_rfl) (fun _ _ _ h => h) (Or.inl ⟨by rfl, ?_⟩) (by assumption) ?_
          rotate_left
          · intro w hSw; (try dsimp only at hSw); go_simp <;> with_reducible rfl
          (try simp only [Act.put, List.setIfInBounds_toArray, List.set_cons_zero, List.set_cons_succ])
          refine wpAnyH_take (i := 31) (oi := (⟨some 73, Op.binOp .eql 27 (.tmp 72) (.const (.int IntKind.i64 0)) 27, 4, "law.go:262", #[⟨30, .data⟩, ⟨28, .guard⟩], some (28, false)⟩ : Oper)) (v := ?_) rfl (by kernel_rfl) (by kernel_rfl) (by kernel_rfl) (fun _ _ _ h => h) (Or.inl ⟨by rfl, ?_⟩) (by assumption) ?_
          rotate_left
          · intro w hSw; (try dsimp only at hSw); go_simp <;> with_reducible rfl
          (try simp only [Act.put, List.setIfInBounds_toArray, List.set_cons_zero, List.set_cons_succ])
          refine wpAnyH_take (i := 32) (oi := (⟨some 74, Op.move (.tmp 8), 3, "law.go:262", #[⟨28, .guard⟩], some (28, false)⟩ : Oper)) (v := ?_) rfl (by kernel_rfl) (by kernel_rfl) (by kernel_rfl) (fun _ _ _ h => h) (Or.inl ⟨by rfl, ?_⟩) (by assumption) ?_
          rotate_left
          · intro w hSw; (try dsimp only at hSw); go_simp <;> with_reducible rfl
          (try simp only [Act.put, List.setIfInBounds_toArray, List.set_cons_zero, List.set_cons_succ])
          refine wpAnyH_take (i := 33) (oi := (⟨some 75, Op.move (.tmp 9), 3, "law.go:262", #[⟨28, .guard⟩], some (28, false)⟩ : Oper)) (v := ?_) rfl (by kernel_rfl) (by kernel_rfl) (by kernel_rfl) (fun _ _ _ h => h) (Or.inl ⟨by rfl, ?_⟩) (by assumption) ?_
          rotate_left
          · intro w hSw; (try dsimp only at hSw); go_simp <;> with_reducible rfl
          (try simp only [Act.put, List.setIfInBounds_toArray, List.set_cons_zero, List.set_cons_succ])
          refine wpAnyH_take (i := 34) (oi := (⟨some 76, Op.binOp .sub 3 (.tmp 74) (.tmp 75) 3, 3, "law.go:262", #[⟨32, .data⟩, ⟨33, .data⟩, ⟨28, .guard⟩], some (28, false)⟩ : Oper)) (v := ?_) rfl (by kernel_rfl) (by kernel_rfl) (by kernel_rfl) (fun _ _ _ h => h) (Or.inl ⟨by rfl, ?_⟩) (by assumption) ?_
          rotate_left
          · intro w hSw; (try dsimp only at hSw); go_simp <;> with_reducible rfl
          (try simp only [Act.put, List.setIfInBounds_toArray, List.set_cons_zero, List.set_cons_succ])
          refine wpAnyH_take (i := 35) (oi := (⟨some 77, Op.binOp .geq 3 (.tmp 76) (.const (.int IntKind.i64 (-62))) 3, 4, "law.go:262", #[⟨34, .data⟩, ⟨28, .guard⟩], some (28, false)⟩ : Oper)) (v := ?_) rfl (by kernel_rfl) (by kernel_rfl) (by kernel_rfl) (fun _ _ _ h => h) (Or.inl ⟨by rfl, ?_⟩) (by assumption) ?_
          rotate_left
          · intro w hSw; (try dsimp only at hSw); go_simp <;> with_reducible rfl
          (try simp only [Act.put, List.setIfInBounds_toArray, List.set_cons_zero, List.set_cons_succ])
          refine wpAnyH_take (i := 36) (oi := (⟨some 78, Op.move (.tmp 77), 4, "law.go:262", #[⟨35, .data⟩, ⟨28, .chain⟩, ⟨28, .guard⟩], some (28, false)⟩ : Oper)) (v := ?_) rfl (by kernel_rfl) (by kernel_rfl) (by kernel_rfl) (fun _ _ _ h => h) (Or.inl ⟨by rfl, ?_⟩) (by assumption) ?_
          rotate_left
          · intro w hSw; (try dsimp only at hSw); go_simp <;> with_reducible rfl
          (try simp only [Act.put, List.setIfInBounds_toArray, List.set_cons_zero, List.set_cons_succ])
          refine wpAnyH_take (i := 37) (oi := (⟨some 79, Op.move (.tmp 8), 3, "law.go:262", #[⟨36, .guard⟩], some (36, true)⟩ : Oper)) (v := ?_) rfl (by kernel_rfl) (by kernel_rfl) (by kernel_rfl) (fun _ _ _ h => h) (Or.inl ⟨by rfl, ?_⟩) (by assumption) ?_
          rotate_left
          · intro w hSw; (try dsimp only at hSw); go_simp <;> with_reducible rfl
          (try simp only [Act.put, List.setIfInBounds_toArray, List.set_cons_zero, List.set_cons_succ])
          refine wpAnyH_take (i := 38) (oi := (⟨some 80, Op.move (.tmp 9), 3, "law.go:262", #[⟨36, .guard⟩], some (36, true)⟩ : Oper)) (v := ?_) rfl (by kernel_rfl) (by kernel_rfl) (by kernel_rfl) (fun _ _ _ h => h) (Or.inl ⟨by rfl, ?_⟩) (by assumption) ?_
          rotate_left
          · intro w hSw; (try dsimp only at hSw); go_simp <;> with_reducible rfl
          (try simp only [Act.put, List.setIfInBounds_toArray, List.set_cons_zero, List.set_cons_succ])
          refine wpAnyH_take (i := 39) (oi := (⟨some 81, Op.binOp .sub 3 (.tmp 79) (.tmp 80) 3, 3, "law.go:262", #[⟨37, .data⟩, ⟨38, .data⟩, ⟨36, .guard⟩], some (36, true)⟩ : Oper)) (v := ?_) rfl (by kernel_rfl) (by kernel_rfl) (by kernel_rfl) (fun _ _ _ h => h) (Or.inl ⟨by rfl, ?_⟩) (by assumption) ?_
          rotate_left
          · intro w hSw; (try dsimp only at hSw); go_simp <;> with_reducible rfl
          (try simp only [Act.put, List.setIfInBounds_toArray, List.set_cons_zero, List.set_cons_succ])
          refine wpAnyH_take (i := 40) (oi := (⟨some 82, Op.binOp .leq 3 (.tmp 81) (.const (.int IntKind.i64 62)) 3, 4, "law.go:262", #[⟨39, .data⟩, ⟨36, .guard⟩], some (36, true)⟩ : Oper)) (v := ?_) rfl (by kernel_rfl) (by kernel_rfl) (by kernel_rfl) (fun _ _ _ h => h) (Or.inl ⟨by rfl, ?_⟩) (by assumption) ?_
          rotate_left
          · intro w hSw; (try dsimp only at hSw); go_simp <;> with_reducible rfl
          (try simp only [Act.put, List.setIfInBounds_toArray, List.set_cons_zero, List.set_cons_succ])
          refine wpAnyH_take (i := 41) (oi := (⟨some 83, Op.pick (.tmp 78) (.tmp 82) (.const (.bool false)), 4, "law.go:262", #[⟨36, .data⟩, ⟨40, .data⟩, ⟨28, .guard⟩], some (28, false)⟩ : Oper)) (v := ?_) rfl (by kernel_rfl) (by kernel_rfl) (by kernel_rfl) (fun _ _ _ h => h) (Or.inl ⟨by rfl, ?_⟩) (by assumption) ?_
          rotate_left
          · intro w hSw; (try dsimp only at hSw); go_simp <;> with_reducible rfl
          (try simp only [Act.put, List.setIfInBounds_toArray, List.set_cons_zero, List.set_cons_succ])
          refine wpAnyH_take (i := 42) (oi := (⟨some 84, Op.binOp .neq 4 (.tmp 73) (.tmp 83) 4, 4, "law.go:262", #[⟨31, .data⟩, ⟨41, .data⟩, ⟨28, .guard⟩], some (28, false)⟩ : Oper)) (v := ?_) rfl (by kernel_rfl) (by kernel_rfl) (by kernel_rfl) (fun _ _ _ h => h) (Or.inl ⟨by rfl, ?_⟩) (by assumption) ?_
          rotate_left
          · intro w hSw; (try dsimp only at hSw); go_simp <;> with_reducible rfl
          (try simp only [Act.put, List.setIfInBounds_toArray, List.set_cons_zero, List.set_cons_succ])
          refine wpAnyH_take (i := 43) (oi := (⟨some 85, Op.pick (.tmp 70) (.const (.bool true)) (.tmp 84), 4, "law.go:262", #[⟨28, .data⟩, ⟨42, .data⟩], none⟩ : Oper)) (v := ?_) rfl (by kernel_rfl) (by kernel_rfl) (by kernel_rfl) (fun _ _ _ h => h) (Or.inl ⟨by rfl, ?_⟩) (by assumption) ?_
          rotate_left
          · intro w hSw; (try dsimp only at hSw); go_simp <;> with_reducible rfl
          (try simp only [Act.put, List.setIfInBounds_toArray, List.set_cons_zero, List.set_cons_succ])
          refine wpAnyH_take (i := 44) (oi := (⟨some 86, Op.move (.tmp 85), 4, "law.go:262", #[⟨43, .data⟩, ⟨36, .chain⟩], none⟩ : Oper)) (v := ?_) rfl (by kernel_rfl) (by kernel_rfl) (by kernel_rfl) (fun _ _ _ h => h) (Or.inl ⟨by rfl, ?_⟩) (by assumption) ?_
          rotate_left
          · intro w hSw; (try dsimp only at hSw); go_simp <;> with_reducible rfl
          (try simp only [Act.put, List.setIfInBounds_toArray, List.set_cons_zero, List.set_cons_succ])
          refine wpAnyH_take (i := 45) (oi := (⟨some 87, Op.fieldAddr 29 (.tmp 13) 1, 0, "law.go:262", #[⟨44, .guard⟩], some (44, false)⟩ : Oper)) (v := ?_) rfl (by kernel_rfl) (by kernel_rfl) (by kernel_rfl) (fun _ _ _ h => h) (Or.inl ⟨by rfl, ?_⟩) (by assumption) ?_
          rotate_left
          · intro w hSw; (try dsimp only at hSw); go_simp <;> with_reducible rfl
          (try simp only [Act.put, List.setIfInBounds_toArray, List.set_cons_zero, List.set_cons_succ])
          refine wpAnyH_take (i := 46) (oi := (⟨some 88, Op.load 27 (.tmp 87), 27, "law.go:262", #[⟨45, .data⟩, ⟨44, .guard⟩], some (44, false)⟩ : Oper)) (v := ?_) rfl (by kernel_rfl) (by kernel_rfl) (by kernel_rfl) (fun _ _ _ h => h) (Or.inl ⟨by rfl, ?_⟩) (by assumption) ?_
          rotate_left
          · intro w hSw; (try dsimp only at hSw); go_simp <;> with_reducible rfl
          (try simp only [Act.put, List.setIfInBounds_toArray, List.set_cons_zero, List.set_cons_succ])
          refine wpAnyH_take (i := 47) (oi := (⟨some 89, Op.binOp .eql 27 (.tmp 88) (.const (.int IntKind.i64 0)) 27, 4, "law.go:262", #[⟨46, .data⟩, ⟨44, .guard⟩], some (44, false)⟩ : Oper)) (v := ?_) rfl (by kernel_rfl) (by kernel_rfl) (by kernel_rfl) (fun _ _ _ h => h) (Or.inl ⟨by rfl, ?_⟩) (by assumption) ?_
          rotate_left
          · intro w hSw; (try dsimp only at hSw); go_simp <;> with_reducible rfl
          (try simp only [Act.put, List.setIfInBounds_toArray, List.set_cons_zero, List.set_cons_succ])
          refine wpAnyH_take (i := 48) (oi := (⟨some 90, Op.move (.tmp 89), 4, "law.go:262", #[⟨47, .data⟩, ⟨44, .chain⟩, ⟨44, .guard⟩], some (44, false)⟩ : Oper)) (v := ?_) rfl (by kernel_rfl) (by kernel_rfl) (by kernel_rfl) (fun _ _ _ h => h) (Or.inl ⟨by rfl, ?_⟩) (by assumption) ?_
          rotate_left
          · intro w hSw; (try dsimp only at hSw); go_simp <;> with_reducible rfl
          (try simp only [Act.put, List.setIfInBounds_toArray, List.set_cons_zero, List.set_cons_succ])
          refine wpAnyH_take (i := 49) (oi := (⟨some 91, Op.fieldAddr 29 (.tmp 13) 0, 0, "law.go:262", #[⟨48, .guard⟩], some (48, true)⟩ : Oper)) (v := undef) rfl (by kernel_rfl) (by kernel_rfl) (by kernel_rfl) (fun _ _ _ h => h) (Or.inr ⟨by rfl, rfl⟩) (by assumption) ?_
          (try simp only [Act.put, List.setIfInBounds_toArray, List.set_cons_zero, List.set_cons_succ])
          refine wpAnyH_take (i := 50) (oi := (⟨some 92, Op.load 25 (.tmp 91), 25, "law.go:262", #[⟨49, .data⟩, ⟨48, .guard⟩], some (48, true)⟩ : Oper)) (v := undef) rfl (by kernel_rfl) (by kernel_rfl) (by kernel_rfl) (fun _ _ _ h => h) (Or.inr ⟨by rfl, rfl⟩) (by assumption) ?_
          (try simp only [Act.put, List.setIfInBounds_toArray, List.set_cons_zero, List.set_cons_succ])
          refine wpAnyH_take (i := 51) (oi := (⟨some 93, Op.move (.tmp 8), 3, "law.go:262", #[⟨48, .guard⟩], some (48, true)⟩ : Oper)) (v := undef) rfl (by kernel_rfl) (by kernel_rfl) (by kernel_rfl) (fun _ _ _ h => h) (Or.inr ⟨by rfl, rfl⟩) (by assumption) ?_
          (try simp only [Act.put, List.setIfInBounds_toArray, List.set_cons_zero, List.set_cons_succ])
          refine wpAnyH_take (i := 52) (oi := (⟨some 94, Op.move (.tmp 9), 3, "law.go:262", #[⟨48, .guard⟩], some (48, true)⟩ : Oper)) (v := undef) rfl (by kernel_rfl) (by kernel_rfl) (by kernel_rfl) (fun _ _ _ h => h) (Or.inr ⟨by rfl, rfl⟩) (by assumption) ?_
          (try simp only [Act.put, List.setIfInBounds_toArray, List.set_cons_zero, List.set_cons_succ])
          refine wpAnyH_take (i := 53) (oi := (⟨some 95, Op.binOp .sub 3 (.tmp 93) (.tmp 94) 3, 3, "law.go:262", #[⟨51, .data⟩, ⟨52, .data⟩, ⟨48, .guard⟩], some (48, true)⟩ : Oper)) (v := undef) rfl (by kernel_rfl) (by kernel_rfl) (by kernel_rfl) (fun _ _ _ h => h) (Or.inr ⟨by rfl, rfl⟩) (by assumption) ?_
          (try simp only [Act.put, List.setIfInBounds_toArray, List.set_cons_zero, List.set_cons_succ])
          refine wpAnyH_take (i := 54) (oi := (⟨some 96, Op.call { callee := Callee.value (Operand.func 26), args := #[.tmp 95], argTypes := #[3] }, 25, "law.go:262", #[⟨53, .data⟩, ⟨48, .chain⟩, ⟨48, .guard⟩], some (48, true)⟩ : Oper)) (v := undef) rfl (by kernel_rfl) (by kernel_rfl) (by kernel_rfl) (fun _ _ _ h => h) (Or.inr ⟨by rfl, rfl⟩) (by assumption) ?_
          (try simp only [Act.put, List.setIfInBounds_toArray, List.set_cons_zero, List.set_cons_succ])
          refine wpAnyH_take (i := 55) (oi := (⟨some 97, Op.binOp .neq 25 (.tmp 92) (.tmp 96) 25, 4, "law.go:262", #[⟨50, .data⟩, ⟨54, .data⟩, ⟨48, .guard⟩], some (48, true)⟩ : Oper)) (v := undef) rfl (by kernel_rfl) (by kernel_rfl) (by kernel_rfl) (fun _ _ _ h => h) (Or.inr ⟨by rfl, rfl⟩) (by assumption) ?_
          (try simp only [Act.put, List.setIfInBounds_toArray, List.set_cons_zero, List.set_cons_succ])
          refine wpAnyH_take (i := 56) (oi := (⟨some 98, Op.pick (.tmp 90) (.tmp 97) (.const (.bool false)), 4, "law.go:262", #[⟨48, .data⟩, ⟨55, .data⟩, ⟨44, .guard⟩], some (44, false)⟩ : Oper)) (v := ?_) rfl (by kernel_rfl) (by kernel_rfl) (by kernel_rfl) (fun _ _ _ h => h) (Or.inl ⟨by rfl, ?_⟩) (by assumption) ?_
          rotate_left
          · intro w hSw; (try dsimp only at hSw); go_simp <;> with_reducible rfl
          (try simp only [Act.put, List.setIfInBounds_toArray, List.set_cons_zero, List.set_cons_succ])
          refine wpAnyH_take (i := 57) (oi := (⟨some 99, Op.pick (.tmp 86) (.const (.bool true)) (.tmp 98), 4, "law.go:262", #[⟨44, .data⟩, ⟨56, .data⟩], none⟩ : Oper)) (v := ?_) rfl (by kernel_rfl) (by kernel_rfl) (by kernel_rfl) (fun _ _ _ h => h) (Or.inl ⟨by rfl, ?_⟩) (by assumption) ?_
          rotate_left
          · intro w hSw; (try dsimp only at hSw); go_simp <;> with_reducible rfl
          (try simp only [Act.put, List.setIfInBounds_toArray, List.set_cons_zero, List.set_cons_succ])
          refine wpAnyH_done (by kernel_rfl) ?_ _
          go_wp2_with fail
          go_meet
          exact ⟨rfl, by assumption⟩
        · skip
          as_aux_lemma =>
          have mf0 : (mE == 0) = true := by rw [gm]; rfl
          have mf1 : decide (-62 ≤ a + b) = true := by simp; omega
          have mf2 : decide (a + b ≤ 62) = true := by simp; omega
          have df0 : (dE == 0) = false := by rw [gd]; rfl
          have df1 : decide (-62 ≤ a - b) = false := by simp; omega
          have CM0 := PS.out gm1 gm2
          rw [← gm3, ← gm4] at CM0
          have CM := hid CM0
          clear CM0
          clear gm gm1 gm2 gm3 gm4 gd gd1
          refine wp_region_held_drew (S := (fun V => V.cell? ⟨v4.heap.size, 0, none⟩ = some (.int .i64 mN) ∧ V.cell? ⟨v4.heap.size, 1, none⟩ = some (.int .i64 mD) ∧ V.cell? ⟨v4.heap.size, 2, none⟩ = some (.int .i64 mE) ∧ V.cell? ⟨v5.heap.size, 0, none⟩ = some (.int .i64 dN) ∧ V.cell? ⟨v5.heap.size, 1, none⟩ = some (.int .i64 dD) ∧ V.cell? ⟨v5.heap.size, 2, none⟩ = some (.int .i64 dE) ∧ Below wD.heap.size wD V)) (by kernel_rfl) ?_ (fun hHeld => ?_)
          · with_reducible exact ⟨cell_below hsd hm0, cell_below hsd hm1, cell_below hsd hm2, cell_below hsd hd0, cell_below hsd hd1, cell_below hsd hd2, hsd⟩
          refine wpAnyH_take (i := 0) (oi := (⟨some 42, Op.fieldAddr 29 (.tmp 12) 1, 0, "law.go:262", #[], none⟩ : Oper)) (v := ?_) rfl (by kernel_rfl) (by kernel_rfl) (by kernel_rfl) (fun _ _ _ h => h) (Or.inl ⟨by rfl, ?_⟩) (by assumption) ?_
          rotate_left
          · intro w hSw; (try dsimp only at hSw); go_simp <;> with_reducible rfl
          (try simp only [Act.put, List.setIfInBounds_toArray, List.set_cons_zero, List.set_cons_succ])
          refine wpAnyH_take (i := 1) (oi := (⟨some 43, Op.load 27 (.tmp 42), 27, "law.go:262", #[⟨0, .data⟩], none⟩ : Oper)) (v := ?_) rfl (by kernel_rfl) (by kernel_rfl) (by kernel_rfl) (fun _ _ _ h => h) (Or.inl ⟨by rfl, ?_⟩) (by assumption) ?_
          rotate_left
          · intro w hSw; (try dsimp only at hSw); go_simp <;> with_reducible rfl
          (try simp only [Act.put, List.setIfInBounds_toArray, List.set_cons_zero, List.set_cons_succ])
          refine wpAnyH_take (i := 2) (oi := (⟨some 44, Op.binOp .eql 27 (.tmp 43) (.const (.int IntKind.i64 0)) 27, 4, "law.go:262", #[⟨1, .data⟩], none⟩ : Oper)) (v := ?_) rfl (by kernel_rfl) (by kernel_rfl) (by kernel_rfl) (fun _ _ _ h => h) (Or.inl ⟨by rfl, ?_⟩) (by assumption) ?_
          rotate_left
          · intro w hSw; (try dsimp only at hSw); go_simp <;> with_reducible rfl
          (try simp only [Act.put, List.setIfInBounds_toArray, List.set_cons_zero, List.set_cons_succ])
          refine wpAnyH_take (i := 3) (oi := (⟨some 45, Op.move (.tmp 8), 3, "law.go:262", #[], none⟩ : Oper)) (v := ?_) rfl (by kernel_rfl) (by kernel_rfl) (by kernel_rfl) (fun _ _ _ h => h) (Or.inl ⟨by rfl, ?_⟩) (by assumption) ?_
          rotate_left
          · intro w hSw; (try dsimp only at hSw); go_simp <;> with_reducible rfl
          (try simp only [Act.put, List.setIfInBounds_toArray, List.set_cons_zero, List.set_cons_succ])
          refine wpAnyH_take (i := 4) (oi := (⟨some 46, Op.move (.tmp 9), 3, "law.go:262", #[], none⟩ : Oper)) (v := ?_) rfl (by kernel_rfl) (by kernel_rfl) (by kernel_rfl) (fun _ _ _ h => h) (Or.inl ⟨by rfl, ?_⟩) (by assumption) ?_
          rotate_left
          · intro w hSw; (try dsimp only at hSw); go_simp <;> with_reducible rfl
          (try simp only [Act.put, List.setIfInBounds_toArray, List.set_cons_zero, List.set_cons_succ])
          refine wpAnyH_take (i := 5) (oi := (⟨some 47, Op.binOp .add 3 (.tmp 45) (.tmp 46) 3, 3, "law.go:262", #[⟨3, .data⟩, ⟨4, .data⟩], none⟩ : Oper)) (v := ?_) rfl (by kernel_rfl) (by kernel_rfl) (by kernel_rfl) (fun _ _ _ h => h) (Or.inl ⟨by rfl, ?_⟩) (by assumption) ?_
          rotate_left
          · intro w hSw; (try dsimp only at hSw); go_simp <;> with_reducible rfl
          (try simp only [Act.put, List.setIfInBounds_toArray, List.set_cons_zero, List.set_cons_succ])
          refine wpAnyH_take (i := 6) (oi := (⟨some 48, Op.binOp .geq 3 (.tmp 47) (.const (.int IntKind.i64 (-62))) 3, 4, "law.go:262", #[⟨5, .data⟩], none⟩ : Oper)) (v := ?_) rfl (by kernel_rfl) (by kernel_rfl) (by kernel_rfl) (fun _ _ _ h => h) (Or.inl ⟨by rfl, ?_⟩) (by assumption) ?_
          rotate_left
          · intro w hSw; (try dsimp only at hSw); go_simp <;> with_reducible rfl
          (try simp only [Act.put, List.setIfInBounds_toArray, List.set_cons_zero, List.set_cons_succ])
          refine wpAnyH_take (i := 7) (oi := (⟨some 49, Op.move (.tmp 48), 4, "law.go:262", #[⟨6, .data⟩], none⟩ : Oper)) (v := ?_) rfl (by kernel_rfl) (by kernel_rfl) (by kernel_rfl) (fun _ _ _ h => h) (Or.inl ⟨by rfl, ?_⟩) (by assumption) ?_
          rotate_left
          · intro w hSw; (try dsimp only at hSw); go_simp <;> with_reducible rfl
          (try simp only [Act.put, List.setIfInBounds_toArray, List.set_cons_zero, List.set_cons_succ])
          refine wpAnyH_take (i := 8) (oi := (⟨some 50, Op.move (.tmp 8), 3, "law.go:262", #[⟨7, .guard⟩], some (7, true)⟩ : Oper)) (v := ?_) rfl (by kernel_rfl) (by kernel_rfl) (by kernel_rfl) (fun _ _ _ h => h) (Or.inl ⟨by rfl, ?_⟩) (by assumption) ?_
          rotate_left
          · intro w hSw; (try dsimp only at hSw); go_simp <;> with_reducible rfl
          (try simp only [Act.put, List.setIfInBounds_toArray, List.set_cons_zero, List.set_cons_succ])
          refine wpAnyH_take (i := 9) (oi := (⟨some 51, Op.move (.tmp 9), 3, "law.go:262", #[⟨7, .guard⟩], some (7, true)⟩ : Oper)) (v := ?_) rfl (by kernel_rfl) (by kernel_rfl) (by kernel_rfl) (fun _ _ _ h => h) (Or.inl ⟨by rfl, ?_⟩) (by assumption) ?_
          rotate_left
          · intro w hSw; (try dsimp only at hSw); go_simp <;> with_reducible rfl
          (try simp only [Act.put, List.setIfInBounds_toArray, List.set_cons_zero, List.set_cons_succ])
          refine wpAnyH_take (i := 10) (oi := (⟨some 52, Op.binOp .add 3 (.tmp 50) (.tmp 51) 3, 3, "law.go:262", #[⟨8, .data⟩, ⟨9, .data⟩, ⟨7, .guard⟩], some (7, true)⟩ : Oper)) (v := ?_) rfl (by kernel_rfl) (by kernel_rfl) (by kernel_rfl) (fun _ _ _ h => h) (Or.inl ⟨by rfl, ?_⟩) (by assumption) ?_
          rotate_left
          · intro w hSw; (try dsimp only at hSw); go_simp <;> with_reducible rfl
          (try simp only [Act.put, List.setIfInBounds_toArray, List.set_cons_zero, List.set_cons_succ])
          refine wpAnyH_take (i := 11) (oi := (⟨some 53, Op.binOp .leq 3 (.tmp 52) (.const (.int IntKind.i64 62)) 3, 4, "law.go:262", #[⟨10, .data⟩, ⟨7, .guard⟩], some (7, true)⟩ : Oper)) (v := ?_) rfl (by kernel_rfl) (by kernel_rfl) (by kernel_rfl) (fun _ _ _ h => h) (Or.inl ⟨by rfl, ?_⟩) (by assumption) ?_
          rotate_left
          · intro w hSw; (try dsimp only at hSw); go_simp <;> with_reducible rfl
          (try simp only [Act.put, List.setIfInBounds_toArray, List.set_cons_zero, List.set_cons_succ])
          refine wpAnyH_take (i := 12) (oi := (⟨some 54, Op.pick (.tmp 49) (.tmp 53) (.const (.bool false)), 4, "law.go:262", #[⟨7, .data⟩, ⟨11, .data⟩], none⟩ : Oper)) (v := ?_) rfl (by kernel_rfl) (by kernel_rfl) (by kernel_rfl) (fun _ _ _ h => h) (Or.inl ⟨by rfl, ?_⟩) (by assumption) ?_
          rotate_left
          · intro w hSw; (try dsimp only at hSw); go_simp <;> with_reducible rfl
          (try simp only [Act.put, List.setIfInBounds_toArray, List.set_cons_zero, List.set_cons_succ])
          refine wpAnyH_take (i := 13) (oi := (⟨some 55, Op.binOp .neq 4 (.tmp 44) (.tmp 54) 4, 4, "law.go:262", #[⟨2, .data⟩, ⟨12, .data⟩], none⟩ : Oper)) (v := ?_) rfl (by kernel_rfl) (by kernel_rfl) (by kernel_rfl) (fun _ _ _ h => h) (Or.inl ⟨by rfl, ?_⟩) (by assumption) ?_
          rotate_left
          · intro w hSw; (try dsimp only at hSw); go_simp <;> with_reducible rfl
          (try simp only [Act.put, List.setIfInBounds_toArray, List.set_cons_zero, List.set_cons_succ])
          refine wpAnyH_take (i := 14) (oi := (⟨some 56, Op.move (.tmp 55), 4, "law.go:262", #[⟨13, .data⟩, ⟨7, .chain⟩], none⟩ : Oper)) (v := ?_) rfl (by kernel_rfl) (by kernel_rfl) (by kernel_rfl) (fun _ _ _ h => h) (Or.inl ⟨by rfl, ?_⟩) (by assumption) ?_
          rotate_left
          · intro w hSw; (try dsimp only at hSw); go_simp <;> with_reducible rfl
          (try simp only [Act.put, List.setIfInBounds_toArray, List.set_cons_zero, List.set_cons_succ])
          refine wpAnyH_take (i := 15) (oi := (⟨some 57, Op.fieldAddr 29 (.tmp 12) 1, 0, "law.go:262", #[⟨14, .guard⟩], some (14, false)⟩ : Oper)) (v := ?_) rfl (by kernel_rfl) (by kernel_rfl) (by kernel_rfl) (fun _ _ _ h => h) (Or.inl ⟨by rfl, ?_⟩) (by assumption) ?_
          rotate_left
          · intro w hSw; (try dsimp only at hSw); go_simp <;> with_reducible rfl
          (try simp only [Act.put, List.setIfInBounds_toArray, List.set_cons_zero, List.set_cons_succ])
          refine wpAnyH_take (i := 16) (oi := (⟨some 58, Op.load 27 (.tmp 57), 27, "law.go:262", #[⟨15, .data⟩, ⟨14, .guard⟩], some (14, false)⟩ : Oper)) (v := ?_) rfl (by kernel_rfl) (by kernel_rfl) (by kernel_rfl) (fun _ _ _ h => h) (Or.inl ⟨by rfl, ?_⟩) (by assumption) ?_
          rotate_left
          · intro w hSw; (try dsimp only at hSw); go_simp <;> with_reducible rfl
          (try simp only [Act.put, List.setIfInBounds_toArray, List.set_cons_zero, List.set_cons_succ])
          refine wpAnyH_take (i := 17) (oi := (⟨some 59, Op.binOp .eql 27 (.tmp 58) (.const (.int IntKind.i64 0)) 27, 4, "law.go:262", #[⟨16, .data⟩, ⟨14, .guard⟩], some (14, false)⟩ : Oper)) (v := ?_) rfl (by kernel_rfl) (by kernel_rfl) (by kernel_rfl) (fun _ _ _ h => h) (Or.inl ⟨by rfl, ?_⟩) (by assumption) ?_
          rotate_left
          · intro w hSw; (try dsimp only at hSw); go_simp <;> with_reducible rfl
          (try simp only [Act.put, List.setIfInBounds_toArray, List.set_cons_zero, List.set_cons_succ])
          refine wpAnyH_take (i := 18) (oi := (⟨some 60, Op.move (.tmp 59), 4, "law.go:262", #[⟨17, .data⟩, ⟨14, .chain⟩, ⟨14, .guard⟩], some (14, false)⟩ : Oper)) (v := ?_) rfl (by kernel_rfl) (by kernel_rfl) (by kernel_rfl) (fun _ _ _ h => h) (Or.inl ⟨by rfl, ?_⟩) (by assumption) ?_
          rotate_left
          · intro w hSw; (try dsimp only at hSw); go_simp <;> with_reducible rfl
          (try simp only [Act.put, List.setIfInBounds_toArray, List.set_cons_zero, List.set_cons_succ])
          refine wpAnyH_take (i := 19) (oi := (⟨some 61, Op.fieldAddr 29 (.tmp 12) 0, 0, "law.go:262", #[⟨18, .guard⟩], some (18, true)⟩ : Oper)) (v := ?_) rfl (by kernel_rfl) (by kernel_rfl) (by kernel_rfl) (fun _ _ _ h => h) (Or.inl ⟨by rfl, ?_⟩) (by assumption) ?_
          rotate_left
          · intro w hSw; (try dsimp only at hSw); go_simp <;> with_reducible rfl
          (try simp only [Act.put, List.setIfInBounds_toArray, List.set_cons_zero, List.set_cons_succ])
          refine wpAnyH_take (i := 20) (oi := (⟨some 62, Op.load 25 (.tmp 61), 25, "law.go:262", #[⟨19, .data⟩, ⟨18, .guard⟩], some (18, true)⟩ : Oper)) (v := ?_) rfl (by kernel_rfl) (by kernel_rfl) (by kernel_rfl) (fun _ _ _ h => h) (Or.inl ⟨by rfl, ?_⟩) (by assumption) ?_
          rotate_left
          · intro w hSw; (try dsimp only at hSw); go_simp <;> with_reducible rfl
          (try simp only [Act.put, List.setIfInBounds_toArray, List.set_cons_zero, List.set_cons_succ])
          refine wpAnyH_take (i := 21) (oi := (⟨some 63, Op.move (.tmp 8), 3, "law.go:262", #[⟨18, .guard⟩], some (18, true)⟩ : Oper)) (v := ?_) rfl (by kernel_rfl) (by kernel_rfl) (by kernel_rfl) (fun _ _ _ h => h) (Or.inl ⟨by rfl, ?_⟩) (by assumption) ?_
          rotate_left
          · intro w hSw; (try dsimp only at hSw); go_simp <;> with_reducible rfl
          (try simp only [Act.put, List.setIfInBounds_toArray, List.set_cons_zero, List.set_cons_succ])
          refine wpAnyH_take (i := 22) (oi := (⟨some 64, Op.move (.tmp 9), 3, "law.go:262", #[⟨18, .guard⟩], some (18, true)⟩ : Oper)) (v := ?_) rfl (by kernel_rfl) (by kernel_rfl) (by kernel_rfl) (fun _ _ _ h => h) (Or.inl ⟨by rfl, ?_⟩) (by assumption) ?_
          rotate_left
          · intro w hSw; (try dsimp only at hSw); go_simp <;> with_reducible rfl
          (try simp only [Act.put, List.setIfInBounds_toArray, List.set_cons_zero, List.set_cons_succ])
          refine wpAnyH_take (i := 23) (oi := (⟨some 65, Op.binOp .add 3 (.tmp 63) (.tmp 64) 3, 3, "law.go:262", #[⟨21, .data⟩, ⟨22, .data⟩, ⟨18, .guard⟩], some (18, true)⟩ : Oper)) (v := ?_) rfl (by kernel_rfl) (by kernel_rfl) (by kernel_rfl) (fun _ _ _ h => h) (Or.inl ⟨by rfl, ?_⟩) (by assumption) ?_
          rotate_left
          · intro w hSw; (try dsimp only at hSw); go_simp <;> with_reducible rfl
          (try simp only [Act.put, List.setIfInBounds_toArray, List.set_cons_zero, List.set_cons_succ])
          refine wpAnyH_ready (rs := [24]) (by kernel_rfl) (by simp) ?_
          refine AllReadyH.cons (o := (⟨some 66, Op.call { callee := Callee.value (Operand.func 26), args := #[.tmp 65], argTypes := #[3] }, 25, "law.go:262", #[⟨23, .data⟩, ⟨18, .chain⟩, ⟨18, .guard⟩], some (18, true)⟩ : Oper)) rfl (fun K hK => ?_) ?_
          rotate_left
          · exact AllReadyH.nil
          go_simp
          go_at_call 26
          with_reducible refine (CM.out _).mono ?_
          rintro e y0 ⟨rfl, hq0⟩
          have hB0 := below_step hsd hq0
          clear hHeld
          first | (with_reducible refine hK.out _ _ ?_ (fun hHeld => ?_)) | (go_wp2_with fail; with_reducible refine hK.out _ _ ?_ (fun hHeld => ?_))
          · with_reducible exact ⟨cell_below hB0 hm0, cell_below hB0 hm1, cell_below hB0 hm2, cell_below hB0 hd0, cell_below hB0 hd1, cell_below hB0 hd2, hB0⟩
          clear hK K
          (try simp only [Act.put, List.setIfInBounds_toArray, List.set_cons_zero, List.set_cons_succ])
          refine wpAnyH_take (i := 25) (oi := (⟨some 67, Op.binOp .neq 25 (.tmp 62) (.tmp 66) 25, 4, "law.go:262", #[⟨20, .data⟩, ⟨24, .data⟩, ⟨18, .guard⟩], some (18, true)⟩ : Oper)) (v := ?_) rfl (by kernel_rfl) (by kernel_rfl) (by kernel_rfl) (fun _ _ _ h => h) (Or.inl ⟨by rfl, ?_⟩) (by assumption) ?_
          rotate_left
          · intro w hSw; (try dsimp only at hSw); go_simp <;> with_reducible rfl
          (try simp only [Act.put, List.setIfInBounds_toArray, List.set_cons_zero, List.set_cons_succ])
          refine wpAnyH_take (i := 26) (oi := (⟨some 68, Op.pick (.tmp 60) (.tmp 67) (.const (.bool false)), 4, "law.go:262", #[⟨18, .data⟩, ⟨25, .data⟩, ⟨14, .guard⟩], some (14, false)⟩ : Oper)) (v := ?_) rfl (by kernel_rfl) (by kernel_rfl) (by kernel_rfl) (fun _ _ _ h => h) (Or.inl ⟨by rfl, ?_⟩) (by assumption) ?_
          rotate_left
          · intro w hSw; (try dsimp only at hSw); go_simp <;> with_reducible rfl
          (try simp only [Act.put, List.setIfInBounds_toArray, List.set_cons_zero, List.set_cons_succ])
          refine wpAnyH_take (i := 27) (oi := (⟨some 69, Op.pick (.tmp 56) (.const (.bool true)) (.tmp 68), 4, "law.go:262", #[⟨14, .data⟩, ⟨26, .data⟩], none⟩ : Oper)) (v := ?_) rfl (by kernel_rfl) (by kernel_rfl) (by kernel_rfl) (fun _ _ _ h => h) (Or.inl ⟨by rfl, ?_⟩) (by assumption) ?_
          rotate_left
          · intro w hSw; (try dsimp only at hSw); go_simp <;> with_reducible rfl
          (try simp only [Act.put, List.setIfInBounds_toArray, List.set_cons_zero, List.set_cons_succ])
          refine wpAnyH_take (i := 28) (oi := (⟨some 70, Op.move (.tmp 69), 4, "law.go:262", #[⟨27, .data⟩, ⟨24, .chain⟩], none⟩ : Oper)) (v := ?_) rfl (by kernel_rfl) (by kernel_rfl) (by kernel_rfl) (fun _ _ _ h => h) (Or.inl ⟨by rfl, ?_⟩) (by assumption) ?_
          rotate_left
          · intro w hSw; (try dsimp only at hSw); go_simp <;> with_reducible rfl
          (try simp only [Act.put, List.setIfInBounds_toArray, List.set_cons_zero, List.set_cons_succ])
          refine wpAnyH_take (i := 29) (oi := (⟨some 71, Op.fieldAddr 29 (.tmp 13) 1, 0, "law.go:262", #[⟨28, .guard⟩], some (28, false)⟩ : Oper)) (v := ?_) rfl (by kernel_rfl) (by kernel_rfl) (by kernel_rfl) (fun _ _ _ h => h) (Or.inl ⟨by rfl, ?_⟩) (by assumption) ?_
          rotate_left
          · intro w hSw; (try dsimp only at hSw); go_simp <;> with_reducible rfl
          (try simp only [Act.put, List.setIfInBounds_toArray, List.set_cons_zero, List.set_cons_succ])
          refine wpAnyH_take (i := 30) (oi := (⟨some 72, Op.load 27 (.tmp 71), 27, "law.go:262", #[⟨29, .data⟩, ⟨28, .guard⟩], some (28, false)⟩ : Oper)) (v := ?_) rfl (by kernel_rfl) (by kernel_rfl) (by kernel_rfl) (fun _ _ _ h => h) (Or.inl ⟨by rfl, ?_⟩) (by assumption) ?_
          rotate_left
          · intro w hSw; (try dsimp only at hSw); go_simp <;> with_reducible rfl
          (try simp only [Act.put, List.setIfInBounds_toArray, List.set_cons_zero, List.set_cons_succ])
          refine wpAnyH_take (i := 31) (oi := (⟨some 73, Op.binOp .eql 27 (.tmp 72) (.const (.int IntKind.i64 0)) 27, 4, "law.go:262", #[⟨30, .data⟩, ⟨28, .guard⟩], some (28, false)⟩ : Oper)) (v := ?_) rfl (by kernel_rfl) (by kernel_rfl) (by kernel_rfl) (fun _ _ _ h => h) (Or.inl ⟨by rfl, ?_⟩) (by assumption) ?_
          rotate_left
          · intro w hSw; (try dsimp only at hSw); go_simp <;> with_reducible rfl
          (try simp only [Act.put, List.setIfInBounds_toArray, List.set_cons_zero, List.set_cons_succ])
          refine wpAnyH_take (i := 32) (oi := (⟨some 74, Op.move (.tmp 8), 3, "law.go:262", #[⟨28, .guard⟩], some (28, false)⟩ : Oper)) (v := ?_) rfl (by kernel_rfl) (by kernel_rfl) (by kernel_rfl) (fun _ _ _ h => h) (Or.inl ⟨by rfl, ?_⟩) (by assumption) ?_
          rotate_left
          · intro w hSw; (try dsimp only at hSw); go_simp <;> with_reducible rfl
          (try simp only [Act.put, List.setIfInBounds_toArray, List.set_cons_zero, List.set_cons_succ])
          refine wpAnyH_take (i := 33) (oi := (⟨some 75, Op.move (.tmp 9), 3, "law.go:262", #[⟨28, .guard⟩], some (28, false)⟩ : Oper)) (v := ?_) rfl (by kernel_rfl) (by kernel_rfl) (by kernel_rfl) (fun _ _ _ h => h) (Or.inl ⟨by rfl, ?_⟩) (by assumption) ?_
          rotate_left
          · intro w hSw; (try dsimp only at hSw); go_simp <;> with_reducible rfl
          (try simp only [Act.put, List.setIfInBounds_toArray, List.set_cons_zero, List.set_cons_succ])
          refine wpAnyH_take (i := 34) (oi := (⟨some 76, Op.binOp .sub 3 (.tmp 74) (.tmp 75) 3, 3, "law.go:262", #[⟨32, .data⟩, ⟨33, .data⟩, ⟨28, .guard⟩], some (28, false)⟩ : Oper)) (v := ?_) rfl (by kernel_rfl) (by kernel_rfl) (by kernel_rfl) (fun _ _ _ h => h) (Or.inl ⟨by rfl, ?_⟩) (by assumption) ?_
          rotate_left
          · intro w hSw; (try dsimp only at hSw); go_simp <;> with_reducible rfl
          (try simp only [Act.put, List.setIfInBounds_toArray, List.set_cons_zero, List.set_cons_succ])
          refine wpAnyH_take (i := 35) (oi := (⟨some 77, Op.binOp .geq 3 (.tmp 76) (.const (.int IntKind.i64 (-62))) 3, 4, "law.go:262", #[⟨34, .data⟩, ⟨28, .guard⟩], some (28, false)⟩ : Oper)) (v := ?_) rfl (by kernel_rfl) (by kernel_rfl) (by kernel_rfl) (fun _ _ _ h => h) (Or.inl ⟨by rfl, ?_⟩) (by assumption) ?_
          rotate_left
          · intro w hSw; (try dsimp only at hSw); go_simp <;> with_reducible rfl
          (try simp only [Act.put, List.setIfInBounds_toArray, List.set_cons_zero, List.set_cons_succ])
          refine wpAnyH_take (i := 36) (oi := (⟨some 78, Op.move (.tmp 77), 4, "law.go:262", #[⟨35, .data⟩, ⟨28, .chain⟩, ⟨28, .guard⟩], some (28, false)⟩ : Oper)) (v := ?_) rfl (by kernel_rfl) (by kernel_rfl) (by kernel_rfl) (fun _ _ _ h => h) (Or.inl ⟨by rfl, ?_⟩) (by assumption) ?_
          rotate_left
          · intro w hSw; (try dsimp only at hSw); go_simp <;> with_reducible rfl
          (try simp only [Act.put, List.setIfInBounds_toArray, List.set_cons_zero, List.set_cons_succ])
          refine wpAnyH_take (i := 37) (oi := (⟨some 79, Op.move (.tmp 8), 3, "law.go:262", #[⟨36, .guard⟩], some (36, true)⟩ : Oper)) (v := undef) rfl (by kernel_rfl) (by kernel_rfl) (by kernel_rfl) (fun _ _ _ h => h) (Or.inr ⟨by rfl, rfl⟩) (by assumption) ?_
          (try simp only [Act.put, List.setIfInBounds_toArray, List.set_cons_zero, List.set_cons_succ])
          refine wpAnyH_take (i := 38) (oi := (⟨some 80, Op.move (.tmp 9), 3, "law.go:262", #[⟨36, .guard⟩], some (36, true)⟩ : Oper)) (v := undef) rfl (by kernel_rfl) (by kernel_rfl) (by kernel_rfl) (fun _ _ _ h => h) (Or.inr ⟨by rfl, rfl⟩) (by assumption) ?_
          (try simp only [Act.put, List.setIfInBounds_toArray, List.set_cons_zero, List.set_cons_succ])
          refine wpAnyH_take (i := 39) (oi := (⟨some 81, Op.binOp .sub 3 (.tmp 79) (.tmp 80) 3, 3, "law.go:262", #[⟨37, .data⟩, ⟨38, .data⟩, ⟨36, .guard⟩], some (36, true)⟩ : Oper)) (v := undef) rfl (by kernel_rfl) (by kernel_rfl) (by kernel_rfl) (fun _ _ _ h => h) (Or.inr ⟨by rfl, rfl⟩) (by assumption) ?_
          (try simp only [Act.put, List.setIfInBounds_toArray, List.set_cons_zero, List.set_cons_succ])
          refine wpAnyH_take (i := 40) (oi := (⟨some 82, Op.binOp .leq 3 (.tmp 81) (.const (.int IntKind.i64 62)) 3, 4, "law.go:262", #[⟨39, .data⟩, ⟨36, .guard⟩], some (36, true)⟩ : Oper)) (v := undef) rfl (by kernel_rfl) (by kernel_rfl) (by kernel_rfl) (fun _ _ _ h => h) (Or.inr ⟨by rfl, rfl⟩) (by assumption) ?_
          (try simp only [Act.put, List.setIfInBounds_toArray, List.set_cons_zero, List.set_cons_succ])
          refine wpAnyH_take (i := 41) (oi := (⟨some 83, Op.pick (.tmp 78) (.tmp 82) (.const (.bool false)), 4, "law.go:262", #[⟨36, .data⟩, ⟨40, .data⟩, ⟨28, .guard⟩], some (28, false)⟩ : Oper)) (v := ?_) rfl (by kernel_rfl) (by kernel_rfl) (by kernel_rfl) (fun _ _ _ h => h) (Or.inl ⟨by rfl, ?_⟩) (by assumption) ?_
          rotate_left
          · intro w hSw; (try dsimp only at hSw); go_simp <;> with_reducible rfl
          (try simp only [Act.put, List.setIfInBounds_toArray, List.set_cons_zero, List.set_cons_succ])
          refine wpAnyH_take (i := 42) (oi := (⟨some 84, Op.binOp .neq 4 (.tmp 73) (.tmp 83) 4, 4, "law.go:262", #[⟨31, .data⟩, ⟨41, .data⟩, ⟨28, .guard⟩], some (28, false)⟩ : Oper)) (v := ?_) rfl (by kernel_rfl) (by kernel_rfl) (by kernel_rfl) (fun _ _ _ h => h) (Or.inl ⟨by rfl, ?_⟩) (by assumption) ?_
          rotate_left
          · intro w hSw; (try dsimp only at hSw); go_simp <;> with_reducible rfl
          (try simp only [Act.put, List.setIfInBounds_toArray, List.set_cons_zero, List.set_cons_succ])
          refine wpAnyH_take (i := 43) (oi := (⟨some 85, Op.pick (.tmp 70) (.const (.bool true)) (.tmp 84), 4, "law.go:262", #[⟨28, .data⟩, ⟨42, .data⟩], none⟩ : Oper)) (v := ?_) rfl (by kernel_rfl) (by kernel_rfl) (by kernel_rfl) (fun _ _ _ h => h) (Or.inl ⟨by rfl, ?_⟩) (by assumption) ?_
          rotate_left
          · intro w hSw; (try dsimp only at hSw); go_simp <;> with_reducible rfl
          (try simp only [Act.put, List.setIfInBounds_toArray, List.set_cons_zero, List.set_cons_succ])
          refine wpAnyH_take (i := 44) (oi := (⟨some 86, Op.move (.tmp 85), 4, "law.go:262", #[⟨43, .data⟩, ⟨36, .chain⟩], none⟩ : Oper)) (v := ?_) rfl (by kernel_rfl) (by kernel_rfl) (by kernel_rfl) (fun _ _ _ h => h) (Or.inl ⟨by rfl, ?_⟩) (by assumption) ?_
          rotate_left
          · intro w hSw; (try dsimp only at hSw); go_simp <;> with_reducible rfl
          (try simp only [Act.put, List.setIfInBounds_toArray, List.set_cons_zero, List.set_cons_succ])
          refine wpAnyH_take (i := 45) (oi := (⟨some 87, Op.fieldAddr 29 (.tmp 13) 1, 0, "law.go:262", #[⟨44, .guard⟩], some (44, false)⟩ : Oper)) (v := ?_) rfl (by kernel_rfl) (by kernel_rfl) (by kernel_rfl) (fun _ _ _ h => h) (Or.inl ⟨by rfl, ?_⟩) (by assumption) ?_
          rotate_left
          · intro w hSw; (try dsimp only at hSw); go_simp <;> with_reducible rfl
          (try simp only [Act.put, List.setIfInBounds_toArray, List.set_cons_zero, List.set_cons_succ])
          refine wpAnyH_take (i := 46) (oi := (⟨some 88, Op.load 27 (.tmp 87), 27, "law.go:262", #[⟨45, .data⟩, ⟨44, .guard⟩], some (44, false)⟩ : Oper)) (v := ?_) rfl (by kernel_rfl) (by kernel_rfl) (by kernel_rfl) (fun _ _ _ h => h) (Or.inl ⟨by rfl, ?_⟩) (by assumption) ?_
          rotate_left
          · intro w hSw; (try dsimp only at hSw); go_simp <;> with_reducible rfl
          (try simp only [Act.put, List.setIfInBounds_toArray, List.set_cons_zero, List.set_cons_succ])
          refine wpAnyH_take (i := 47) (oi := (⟨some 89, Op.binOp .eql 27 (.tmp 88) (.const (.int IntKind.i64 0)) 27, 4, "law.go:262", #[⟨46, .data⟩, ⟨44, .guard⟩], some (44, false)⟩ : Oper)) (v := ?_) rfl (by kernel_rfl) (by kernel_rfl) (by kernel_rfl) (fun _ _ _ h => h) (Or.inl ⟨by rfl, ?_⟩) (by assumption) ?_
          rotate_left
          · intro w hSw; (try dsimp only at hSw); go_simp <;> with_reducible rfl
          (try simp only [Act.put, List.setIfInBounds_toArray, List.set_cons_zero, List.set_cons_succ])
          refine wpAnyH_take (i := 48) (oi := (⟨some 90, Op.move (.tmp 89), 4, "law.go:262", #[⟨47, .data⟩, ⟨44, .chain⟩, ⟨44, .guard⟩], some (44, false)⟩ : Oper)) (v := ?_) rfl (by kernel_rfl) (by kernel_rfl) (by kernel_rfl) (fun _ _ _ h => h) (Or.inl ⟨by rfl, ?_⟩) (by assumption) ?_
          rotate_left
          · intro w hSw; (try dsimp only at hSw); go_simp <;> with_reducible rfl
          (try simp only [Act.put, List.setIfInBounds_toArray, List.set_cons_zero, List.set_cons_succ])
          refine wpAnyH_take (i := 49) (oi := (⟨some 91, Op.fieldAddr 29 (.tmp 13) 0, 0, "law.go:262", #[⟨48, .guard⟩], some (48, true)⟩ : Oper)) (v := undef) rfl (by kernel_rfl) (by kernel_rfl) (by kernel_rfl) (fun _ _ _ h => h) (Or.inr ⟨by rfl, rfl⟩) (by assumption) ?_
          (try simp only [Act.put, List.setIfInBounds_toArray, List.set_cons_zero, List.set_cons_succ])
          refine wpAnyH_take (i := 50) (oi := (⟨some 92, Op.load 25 (.tmp 91), 25, "law.go:262", #[⟨49, .data⟩, ⟨48, .guard⟩], some (48, true)⟩ : Oper)) (v := undef) rfl (by kernel_rfl) (by kernel_rfl) (by kernel_rfl) (fun _ _ _ h => h) (Or.inr ⟨by rfl, rfl⟩) (by assumption) ?_
          (try simp only [Act.put, List.setIfInBounds_toArray, List.set_cons_zero, List.set_cons_succ])
          refine wpAnyH_take (i := 51) (oi := (⟨some 93, Op.move (.tmp 8), 3, "law.go:262", #[⟨48, .guard⟩], some (48, true)⟩ : Oper)) (v := undef) rfl (by kernel_rfl) (by kernel_rfl) (by kernel_rfl) (fun _ _ _ h => h) (Or.inr ⟨by rfl, rfl⟩) (by assumption) ?_
          (try simp only [Act.put, List.setIfInBounds_toArray, List.set_cons_zero, List.set_cons_succ])
          refine wpAnyH_take (i := 52) (oi := (⟨some 94, Op.move (.tmp 9), 3, "law.go:262", #[⟨48, .guard⟩], some (48, true)⟩ : Oper)) (v := undef) rfl (by kernel_rfl) (by kernel_rfl) (by kernel_rfl) (fun _ _ _ h => h) (Or.inr ⟨by rfl, rfl⟩) (by assumption) ?_
          (try simp only [Act.put, List.setIfInBounds_toArray, List.set_cons_zero, List.set_cons_succ])
          refine wpAnyH_take (i := 53) (oi := (⟨some 95, Op.binOp .sub 3 (.tmp 93) (.tmp 94) 3, 3, "law.go:262", #[⟨51, .data⟩, ⟨52, .data⟩, ⟨48, .guard⟩], some (48, true)⟩ : Oper)) (v := undef) rfl (by kernel_rfl) (by kernel_rfl) (by kernel_rfl) (fun _ _ _ h => h) (Or.inr ⟨by rfl, rfl⟩) (by assumption) ?_
          (try simp only [Act.put, List.setIfInBounds_toArray, List.set_cons_zero, List.set_cons_succ])
          refine wpAnyH_take (i := 54) (oi := (⟨some 96, Op.call { callee := Callee.value (Operand.func 26), args := #[.tmp 95], argTypes := #[3] }, 25, "law.go:262", #[⟨53, .data⟩, ⟨48, .chain⟩, ⟨48, .guard⟩], some (48, true)⟩ : Oper)) (v := undef) rfl (by kernel_rfl) (by kernel_rfl) (by kernel_rfl) (fun _ _ _ h => h) (Or.inr ⟨by rfl, rfl⟩) (by assumption) ?_
          (try simp only [Act.put, List.setIfInBounds_toArray, List.set_cons_zero, List.set_cons_succ])
          refine wpAnyH_take (i := 55) (oi := (⟨some 97, Op.binOp .neq 25 (.tmp 92) (.tmp 96) 25, 4, "law.go:262", #[⟨50, .data⟩, ⟨54, .data⟩, ⟨48, .guard⟩], some (48, true)⟩ : Oper)) (v := undef) rfl (by kernel_rfl) (by kernel_rfl) (by kernel_rfl) (fun _ _ _ h => h) (Or.inr ⟨by rfl, rfl⟩) (by assumption) ?_
          (try simp only [Act.put, List.setIfInBounds_toArray, List.set_cons_zero, List.set_cons_succ])
          refine wpAnyH_take (i := 56) (oi := (⟨some 98, Op.pick (.tmp 90) (.tmp 97) (.const (.bool false)), 4, "law.go:262", #[⟨48, .data⟩, ⟨55, .data⟩, ⟨44, .guard⟩], some (44, false)⟩ : Oper)) (v := ?_) rfl (by kernel_rfl) (by kernel_rfl) (by kernel_rfl) (fun _ _ _ h => h) (Or.inl ⟨by rfl, ?_⟩) (by assumption) ?_
          rotate_left
          · intro w hSw; (try dsimp only at hSw); go_simp <;> with_reducible rfl
          (try simp only [Act.put, List.setIfInBounds_toArray, List.set_cons_zero, List.set_cons_succ])
          refine wpAnyH_take (i := 57) (oi := (⟨some 99, Op.pick (.tmp 86) (.const (.bool true)) (.tmp 98), 4, "law.go:262", #[⟨44, .data⟩, ⟨56, .data⟩], none⟩ : Oper)) (v := ?_) rfl (by kernel_rfl) (by kernel_rfl) (by kernel_rfl) (fun _ _ _ h => h) (Or.inl ⟨by rfl, ?_⟩) (by assumption) ?_
          rotate_left
          · intro w hSw; (try dsimp only at hSw); go_simp <;> with_reducible rfl
          (try simp only [Act.put, List.setIfInBounds_toArray, List.set_cons_zero, List.set_cons_succ])
          refine wpAnyH_done (by kernel_rfl) ?_ _
          go_wp2_with fail
          go_meet
          exact ⟨rfl, by assumption⟩
    · by_cases gml : -62 ≤ a + b
      · skip
        rcases UD.out with ⟨gd, gd1, gd2, gd3, gd4⟩ | ⟨gd, gd1⟩
        · skip
          as_aux_lemma =>
          have mf0 : (mE == 0) = false := by rw [gm]; rfl
          have mf1 : decide (-62 ≤ a + b) = true := by simp; omega
          have mf2 : decide (a + b ≤ 62) = false := by simp; omega
          have df0 : (dE == 0) = true := by rw [gd]; rfl
          have df1 : decide (-62 ≤ a - b) = true := by simp; omega
          have df2 : decide (a - b ≤ 62) = true := by simp; omega
          have CD0 := PD.out gd1 gd2
          rw [← gd3, ← gd4] at CD0
          have CD := hid CD0
          clear CD0
          clear gm gm1 gd gd1 gd2 gd3 gd4
          refine wp_region_held_drew (S := (fun V => V.cell? ⟨v4.heap.size, 0, none⟩ = some (.int .i64 mN) ∧ V.cell? ⟨v4.heap.size, 1, none⟩ = some (.int .i64 mD) ∧ V.cell? ⟨v4.heap.size, 2, none⟩ = some (.int .i64 mE) ∧ V.cell? ⟨v5.heap.size, 0, none⟩ = some (.int .i64 dN) ∧ V.cell? ⟨v5.heap.size, 1, none⟩ = some (.int .i64 dD) ∧ V.cell? ⟨v5.heap.size, 2, none⟩ = some (.int .i64 dE) ∧ Below wD.heap.size wD V)) (by kernel_rfl) ?_ (fun hHeld => ?_)
          · with_reducible exact ⟨cell_below hsd hm0, cell_below hsd hm1, cell_below hsd hm2, cell_below hsd hd0, cell_below hsd hd1, cell_below hsd hd2, hsd⟩
          refine wpAnyH_take (i := 0) (oi := (⟨some 42, Op.fieldAddr 29 (.tmp 12) 1, 0, "law.go:262", #[], none⟩ : Oper)) (v := ?_) rfl (by kernel_rfl) (by kernel_rfl) (by kernel_rfl) (fun _ _ _ h => h) (Or.inl ⟨by rfl, ?_⟩) (by assumption) ?_
          rotate_left
          · intro w hSw; (try dsimp only at hSw); go_simp <;> with_reducible rfl
          (try simp only [Act.put, List.setIfInBounds_toArray, List.set_cons_zero, List.set_cons_succ])
          refine wpAnyH_take (i := 1) (oi := (⟨some 43, Op.load 27 (.tmp 42), 27, "law.go:262", #[⟨0, .data⟩], none⟩ : Oper)) (v := ?_) rfl (by kernel_rfl) (by kernel_rfl) (by kernel_rfl) (fun _ _ _ h => h) (Or.inl ⟨by rfl, ?_⟩) (by assumption) ?_
          rotate_left
          · intro w hSw; (try dsimp only at hSw); go_simp <;> with_reducible rfl
          (try simp only [Act.put, List.setIfInBounds_toArray, List.set_cons_zero, List.set_cons_succ])
          refine wpAnyH_take (i := 2) (oi := (⟨some 44, Op.binOp .eql 27 (.tmp 43) (.const (.int IntKind.i64 0)) 27, 4, "law.go:262", #[⟨1, .data⟩], none⟩ : Oper)) (v := ?_) rfl (by kernel_rfl) (by kernel_rfl) (by kernel_rfl) (fun _ _ _ h => h) (Or.inl ⟨by rfl, ?_⟩) (by assumption) ?_
          rotate_left
          · intro w hSw; (try dsimp only at hSw); go_simp <;> with_reducible rfl
          (try simp only [Act.put, List.setIfInBounds_toArray, List.set_cons_zero, List.set_cons_succ])
          refine wpAnyH_take (i := 3) (oi := (⟨some 45, Op.move (.tmp 8), 3, "law.go:262", #[], none⟩ : Oper)) (v := ?_) rfl (by kernel_rfl) (by kernel_rfl) (by kernel_rfl) (fun _ _ _ h => h) (Or.inl ⟨by rfl, ?_⟩) (by assumption) ?_
          rotate_left
          · intro w hSw; (try dsimp only at hSw); go_simp <;> with_reducible rfl
          (try simp only [Act.put, List.setIfInBounds_toArray, List.set_cons_zero, List.set_cons_succ])
          refine wpAnyH_take (i := 4) (oi := (⟨some 46, Op.move (.tmp 9), 3, "law.go:262", #[], none⟩ : Oper)) (v := ?_) rfl (by kernel_rfl) (by kernel_rfl) (by kernel_rfl) (fun _ _ _ h => h) (Or.inl ⟨by rfl, ?_⟩) (by assumption) ?_
          rotate_left
          · intro w hSw; (try dsimp only at hSw); go_simp <;> with_reducible rfl
          (try simp only [Act.put, List.setIfInBounds_toArray, List.set_cons_zero, List.set_cons_succ])
          refine wpAnyH_take (i := 5) (oi := (⟨some 47, Op.binOp .add 3 (.tmp 45) (.tmp 46) 3, 3, "law.go:262", #[⟨3, .data⟩, ⟨4, .data⟩], none⟩ : Oper)) (v := ?_) rfl (by kernel_rfl) (by kernel_rfl) (by kernel_rfl) (fun _ _ _ h => h) (Or.inl ⟨by rfl, ?_⟩) (by assumption) ?_
          rotate_left
          · intro w hSw; (try dsimp only at hSw); go_simp <;> with_reducible rfl
          (try simp only [Act.put, List.setIfInBounds_toArray, List.set_cons_zero, List.set_cons_succ])
          refine wpAnyH_take (i := 6) (oi := (⟨some 48, Op.binOp .geq 3 (.tmp 47) (.const (.int IntKind.i64 (-62))) 3, 4, "law.go:262", #[⟨5, .data⟩], none⟩ : Oper)) (v := ?_) rfl (by kernel_rfl) (by kernel_rfl) (by kernel_rfl) (fun _ _ _ h => h) (Or.inl ⟨by rfl, ?_⟩) (by assumption) ?_
          rotate_left
          · intro w hSw; (try dsimp only at hSw); go_simp <;> with_reducible rfl
          (try simp only [Act.put, List.setIfInBounds_toArray, List.set_cons_zero, List.set_cons_succ])
          refine wpAnyH_take (i := 7) (oi := (⟨some 49, Op.move (.tmp 48), 4, "law.go:262", #[⟨6, .data⟩], none⟩ : Oper)) (v := ?_) rfl (by kernel_rfl) (by kernel_rfl) (by kernel_rfl) (fun _ _ _ h => h) (Or.inl ⟨by rfl, ?_⟩) (by assumption) ?_
          rotate_left
          · intro w hSw; (try dsimp only at hSw); go_simp <;> with_reducible rfl
          (try simp only [Act.put, List.setIfInBounds_toArray, List.set_cons_zero, List.set_cons_succ])
          refine wpAnyH_take (i := 8) (oi := (⟨some 50, Op.move (.tmp 8), 3, "law.go:262", #[⟨7, .guard⟩], some (7, true)⟩ : Oper)) (v := ?_) rfl (by kernel_rfl) (by kernel_rfl) (by kernel_rfl) (fun _ _ _ h => h) (Or.inl ⟨by rfl, ?_⟩) (by assumption) ?_
          rotate_left
          · intro w hSw; (try dsimp only at hSw); go_simp <;> with_reducible rfl
          (try simp only [Act.put, List.setIfInBounds_toArray, List.set_cons_zero, List.set_cons_succ])
          refine wpAnyH_take (i := 9) (oi := (⟨some 51, Op.move (.tmp 9), 3, "law.go:262", #[⟨7, .guard⟩], some (7, true)⟩ : Oper)) (v := ?_) rfl (by kernel_rfl) (by kernel_rfl) (by kernel_rfl) (fun _ _ _ h => h) (Or.inl ⟨by rfl, ?_⟩) (by assumption) ?_
          rotate_left
          · intro w hSw; (try dsimp only at hSw); go_simp <;> with_reducible rfl
          (try simp only [Act.put, List.setIfInBounds_toArray, List.set_cons_zero, List.set_cons_succ])
          refine wpAnyH_take (i := 10) (oi := (⟨some 52, Op.binOp .add 3 (.tmp 50) (.tmp 51) 3, 3, "law.go:262", #[⟨8, .data⟩, ⟨9, .data⟩, ⟨7, .guard⟩], some (7, true)⟩ : Oper)) (v := ?_) rfl (by kernel_rfl) (by kernel_rfl) (by kernel_rfl) (fun _ _ _ h => h) (Or.inl ⟨by rfl, ?_⟩) (by assumption) ?_
          rotate_left
          · intro w hSw; (try dsimp only at hSw); go_simp <;> with_reducible rfl
          (try simp only [Act.put, List.setIfInBounds_toArray, List.set_cons_zero, List.set_cons_succ])
          refine wpAnyH_take (i := 11) (oi := (⟨some 53, Op.binOp .leq 3 (.tmp 52) (.const (.int IntKind.i64 62)) 3, 4, "law.go:262", #[⟨10, .data⟩, ⟨7, .guard⟩], some (7, true)⟩ : Oper)) (v := ?_) rfl (by kernel_rfl) (by kernel_rfl) (by kernel_rfl) (fun _ _ _ h => h) (Or.inl ⟨by rfl, ?_⟩) (by assumption) ?_
          rotate_left
          · intro w hSw; (try dsimp only at hSw); go_simp <;> with_reducible rfl
          (try simp only [Act.put, List.setIfInBounds_toArray, List.set_cons_zero, List.set_cons_succ])
          refine wpAnyH_take (i := 12) (oi := (⟨some 54, Op.pick (.tmp 49) (.tmp 53) (.const (.bool false)), 4, "law.go:262", #[⟨7, .data⟩, ⟨11, .data⟩], none⟩ : Oper)) (v := ?_) rfl (by kernel_rfl) (by kernel_rfl) (by kernel_rfl) (fun _ _ _ h => h) (Or.inl ⟨by rfl, ?_⟩) (by assumption) ?_
          rotate_left
          · intro w hSw; (try dsimp only at hSw); go_simp <;> with_reducible rfl
          (try simp only [Act.put, List.setIfInBounds_toArray, List.set_cons_zero, List.set_cons_succ])
          refine wpAnyH_take (i := 13) (oi := (⟨some 55, Op.binOp .neq 4 (.tmp 44) (.tmp 54) 4, 4, "law.go:262", #[⟨2, .data⟩, ⟨12, .data⟩], none⟩ : Oper)) (v := ?_) rfl (by kernel_rfl) (by kernel_rfl) (by kernel_rfl) (fun _ _ _ h => h) (Or.inl ⟨by rfl, ?_⟩) (by assumption) ?_
          rotate_left
          · intro w hSw; (try dsimp only at hSw); go_simp <;> with_reducible rfl
          (try simp only [Act.put, List.setIfInBounds_toArray, List.set_cons_zero, List.set_cons_succ])
          refine wpAnyH_take (i := 14) (oi := (⟨some 56, Op.move (.tmp 55), 4, "law.go:262", #[⟨13, .data⟩, ⟨7, .chain⟩], none⟩ : Oper)) (v := ?_) rfl (by kernel_rfl) (by kernel_rfl) (by kernel_rfl) (fun _ _ _ h => h) (Or.inl ⟨by rfl, ?_⟩) (by assumption) ?_
          rotate_left
          · intro w hSw; (try dsimp only at hSw); go_simp <;> with_reducible rfl
          (try simp only [Act.put, List.setIfInBounds_toArray, List.set_cons_zero, List.set_cons_succ])
          refine wpAnyH_take (i := 15) (oi := (⟨some 57, Op.fieldAddr 29 (.tmp 12) 1, 0, "law.go:262", #[⟨14, .guard⟩], some (14, false)⟩ : Oper)) (v := ?_) rfl (by kernel_rfl) (by kernel_rfl) (by kernel_rfl) (fun _ _ _ h => h) (Or.inl ⟨by rfl, ?_⟩) (by assumption) ?_
          rotate_left
          · intro w hSw; (try dsimp only at hSw); go_simp <;> with_reducible rfl
          (try simp only [Act.put, List.setIfInBounds_toArray, List.set_cons_zero, List.set_cons_succ])
          refine wpAnyH_take (i := 16) (oi := (⟨some 58, Op.load 27 (.tmp 57), 27, "law.go:262", #[⟨15, .data⟩, ⟨14, .guard⟩], some (14, false)⟩ : Oper)) (v := ?_) rfl (by kernel_rfl) (by kernel_rfl) (by kernel_rfl) (fun _ _ _ h => h) (Or.inl ⟨by rfl, ?_⟩) (by assumption) ?_
          rotate_left
          · intro w hSw; (try dsimp only at hSw); go_simp <;> with_reducible rfl
          (try simp only [Act.put, List.setIfInBounds_toArray, List.set_cons_zero, List.set_cons_succ])
          refine wpAnyH_take (i := 17) (oi := (⟨some 59, Op.binOp .eql 27 (.tmp 58) (.const (.int IntKind.i64 0)) 27, 4, "law.go:262", #[⟨16, .data⟩, ⟨14, .guard⟩], some (14, false)⟩ : Oper)) (v := ?_) rfl (by kernel_rfl) (by kernel_rfl) (by kernel_rfl) (fun _ _ _ h => h) (Or.inl ⟨by rfl, ?_⟩) (by assumption) ?_
          rotate_left
          · intro w hSw; (try dsimp only at hSw); go_simp <;> with_reducible rfl
          (try simp only [Act.put, List.setIfInBounds_toArray, List.set_cons_zero, List.set_cons_succ])
          refine wpAnyH_take (i := 18) (oi := (⟨some 60, Op.move (.tmp 59), 4, "law.go:262", #[⟨17, .data⟩, ⟨14, .chain⟩, ⟨14, .guard⟩], some (14, false)⟩ : Oper)) (v := ?_) rfl (by kernel_rfl) (by kernel_rfl) (by kernel_rfl) (fun _ _ _ h => h) (Or.inl ⟨by rfl, ?_⟩) (by assumption) ?_
          rotate_left
          · intro w hSw; (try dsimp only at hSw); go_simp <;> with_reducible rfl
          (try simp only [Act.put, List.setIfInBounds_toArray, List.set_cons_zero, List.set_cons_succ])
          refine wpAnyH_take (i := 19) (oi := (⟨some 61, Op.fieldAddr 29 (.tmp 12) 0, 0, "law.go:262", #[⟨18, .guard⟩], some (18, true)⟩ : Oper)) (v := undef) rfl (by kernel_rfl) (by kernel_rfl) (by kernel_rfl) (fun _ _ _ h => h) (Or.inr ⟨by rfl, rfl⟩) (by assumption) ?_
          (try simp only [Act.put, List.setIfInBounds_toArray, List.set_cons_zero, List.set_cons_succ])
          refine wpAnyH_take (i := 20) (oi := (⟨some 62, Op.load 25 (.tmp 61), 25, "law.go:262", #[⟨19, .data⟩, ⟨18, .guard⟩], some (18, true)⟩ : Oper)) (v := undef) rfl (by kernel_rfl) (by kernel_rfl) (by kernel_rfl) (fun _ _ _ h => h) (Or.inr ⟨by rfl, rfl⟩) (by assumption) ?_
          (try simp only [Act.put, List.setIfInBounds_toArray, List.set_cons_zero, List.set_cons_succ])
          refine wpAnyH_take (i := 21) (oi := (⟨some 63, Op.move (.tmp 8), 3, "law.go:262", #[⟨18, .guard⟩], some (18, true)⟩ : Oper)) (v := undef) rfl (by kernel_rfl) (by kernel_rfl) (by kernel_rfl) (fun _ _ _ h => h) (Or.inr ⟨by rfl, rfl⟩) (by assumption) ?_
          (try simp only [Act.put, List.setIfInBounds_toArray, List.set_cons_zero, List.set_cons_succ])
          refine wpAnyH_take (i := 22) (oi := (⟨some 64, Op.move (.tmp 9), 3, "law.go:262", #[⟨18, .guard⟩], some (18, true)⟩ : Oper)) (v := undef) rfl (by kernel_rfl) (by kernel_rfl) (by kernel_rfl) (fun _ _ _ h => h) (Or.inr ⟨by rfl, rfl⟩) (by assumption) ?_
          (try simp only [Act.put, List.setIfInBounds_toArray, List.set_cons_zero, List.set_cons_succ])
          refine wpAnyH_take (i := 23) (oi := (⟨some 65, Op.binOp .add 3 (.tmp 63) (.tmp 64) 3, 3, "law.go:262", #[⟨21, .data⟩, ⟨22, .data⟩, ⟨18, .guard⟩], some (18, true)⟩ : Oper)) (v := undef) rfl (by kernel_rfl) (by kernel_rfl) (by kernel_rfl) (fun _ _ _ h => h) (Or.inr ⟨by rfl, rfl⟩) (by assumption) ?_
          (try simp only [Act.put, List.setIfInBounds_toArray, List.set_cons_zero, List.set_cons_succ])
          refine wpAnyH_take (i := 24) (oi := (⟨some 66, Op.call { callee := Callee.value (Operand.func 26), args := #[.tmp 65], argTypes := #[3] }, 25, "law.go:262", #[⟨23, .data⟩, ⟨18, .chain⟩, ⟨18, .guard⟩], some (18, true)⟩ : Oper)) (v := undef) rfl (by kernel_rfl) (by kernel_rfl) (by kernel_rfl) (fun _ _ _ h => h) (Or.inr ⟨by rfl, rfl⟩) (by assumption) ?_
          (try simp only [Act.put, List.setIfInBounds_toArray, List.set_cons_zero, List.set_cons_succ])
          refine wpAnyH_take (i := 25) (oi := (⟨some 67, Op.binOp .neq 25 (.tmp 62) (.tmp 66) 25, 4, "law.go:262", #[⟨20, .data⟩, ⟨24, .data⟩, ⟨18, .guard⟩], some (18, true)⟩ : Oper)) (v := undef) rfl (by kernel_rfl) (by kernel_rfl) (by kernel_rfl) (fun _ _ _ h => h) (Or.inr ⟨by rfl, rfl⟩) (by assumption) ?_
          (try simp only [Act.put, List.setIfInBounds_toArray, List.set_cons_zero, List.set_cons_succ])
          refine wpAnyH_take (i := 26) (oi := (⟨some 68, Op.pick (.tmp 60) (.tmp 67) (.const (.bool false)), 4, "law.go:262", #[⟨18, .data⟩, ⟨25, .data⟩, ⟨14, .guard⟩], some (14, false)⟩ : Oper)) (v := ?_) rfl (by kernel_rfl) (by kernel_rfl) (by kernel_rfl) (fun _ _ _ h => h) (Or.inl ⟨by rfl, ?_⟩) (by assumption) ?_
          rotate_left
          · intro w hSw; (try dsimp only at hSw); go_simp <;> with_reducible rfl
          (try simp only [Act.put, List.setIfInBounds_toArray, List.set_cons_zero, List.set_cons_succ])
          refine wpAnyH_take (i := 27) (oi := (⟨some 69, Op.pick (.tmp 56) (.const (.bool true)) (.tmp 68), 4, "law.go:262", #[⟨14, .data⟩, ⟨26, .data⟩], none⟩ : Oper)) (v := ?_) rfl (by kernel_rfl) (by kernel_rfl) (by kernel_rfl) (fun _ _ _ h => h) (Or.inl ⟨by rfl, ?_⟩) (by assumption) ?_
          rotate_left
          · intro w hSw; (try dsimp only at hSw); go_simp <;> with_reducible rfl
          (try simp only [Act.put, List.setIfInBounds_toArray, List.set_cons_zero, List.set_cons_succ])
          refine wpAnyH_take (i := 28) (oi := (⟨some 70, Op.move (.tmp 69), 4, "law.go:262", #[⟨27, .data⟩, ⟨24, .chain⟩], none⟩ : Oper)) (v := ?_) rfl (by kernel_rfl) (by kernel_rfl) (by kernel_rfl) (fun _ _ _ h => h) (Or.inl ⟨by rfl, ?_⟩) (by assumption) ?_
          rotate_left
          · intro w hSw; (try dsimp only at hSw); go_simp <;> with_reducible rfl
          (try simp only [Act.put, List.setIfInBounds_toArray, List.set_cons_zero, List.set_cons_succ])
          refine wpAnyH_take (i := 29) (oi := (⟨some 71, Op.fieldAddr 29 (.tmp 13) 1, 0, "law.go:262", #[⟨28, .guard⟩], some (28, false)⟩ : Oper)) (v := ?_) rfl (by kernel_rfl) (by kernel_rfl) (by kernel_rfl) (fun _ _ _ h => h) (Or.inl ⟨by rfl, ?_⟩) (by assumption) ?_
          rotate_left
          · intro w hSw; (try dsimp only at hSw); go_simp <;> with_reducible rfl
          (try simp only [Act.put, List.setIfInBounds_toArray, List.set_cons_zero, List.set_cons_succ])
          refine wpAnyH_take (i := 30) (oi := (⟨some 72, Op.load 27 (.tmp 71), 27, "law.go:262", #[⟨29, .data⟩, ⟨28, .guard⟩], some (28, false)⟩ : Oper)) (v := ?_) rfl (by kernel_rfl) (by kernel_rfl) (by kernel_rfl) (fun _ _ _ h => h) (Or.inl ⟨by rfl, ?_⟩) (by assumption) ?_
          rotate_left
          · intro w hSw; (try dsimp only at hSw); go_simp <;> with_reducible rfl
          (try simp only [Act.put, List.setIfInBounds_toArray, List.set_cons_zero, List.set_cons_succ])
          refine wpAnyH_take (i := 31) (oi := (⟨some 73, Op.binOp .eql 27 (.tmp 72) (.const (.int IntKind.i64 0)) 27, 4, "law.go:262", #[⟨30, .data⟩, ⟨28, .guard⟩], some (28, false)⟩ : Oper)) (v := ?_) rfl (by kernel_rfl) (by kernel_rfl) (by kernel_rfl) (fun _ _ _ h => h) (Or.inl ⟨by rfl, ?_⟩) (by assumption) ?_
          rotate_left
          · intro w hSw; (try dsimp only at hSw); go_simp <;> with_reducible rfl
          (try simp only [Act.put, List.setIfInBounds_toArray, List.set_cons_zero, List.set_cons_succ])
          refine wpAnyH_take (i := 32) (oi := (⟨some 74, Op.move (.tmp 8), 3, "law.go:262", #[⟨28, .guard⟩], some (28, false)⟩ : Oper)) (v := ?_) rfl (by kernel_rfl) (by kernel_rfl) (by kernel_rfl) (fun _ _ _ h => h) (Or.inl ⟨by rfl, ?_⟩) (by assumption) ?_
          rotate_left
          · intro w hSw; (try dsimp only at hSw); go_simp <;> with_reducible rfl
          (try simp only [Act.put, List.setIfInBounds_toArray, List.set_cons_zero, List.set_cons_succ])
          refine wpAnyH_take (i := 33) (oi := (⟨some 75, Op.move (.tmp 9), 3, "law.go:262", #[⟨28, .guard⟩], some (28, false)⟩ : Oper)) (v := ?_) rfl (by kernel_rfl) (by kernel_rfl) (by kernel_rfl) (fun _ _ _ h => h) (Or.inl ⟨by rfl, ?_⟩) (by assumption) ?_
          rotate_left
          · intro w hSw; (try dsimp only at hSw); go_simp <;> with_reducible rfl
          (try simp only [Act.put, List.setIfInBounds_toArray, List.set_cons_zero, List.set_cons_succ])
          refine wpAnyH_take (i := 34) (oi := (⟨some 76, Op.binOp .sub 3 (.tmp 74) (.tmp 75) 3, 3, "law.go:262", #[⟨32, .data⟩, ⟨33, .data⟩, ⟨28, .guard⟩], some (28, false)⟩ : Oper)) (v := ?_) rfl (by kernel_rfl) (by kernel_rfl) (by kernel_rfl) (fun _ _ _ h => h) (Or.inl ⟨by rfl, ?_⟩) (by assumption) ?_
          rotate_left
          · intro w hSw; (try dsimp only at hSw); go_simp <;> with_reducible rfl
          (try simp only [Act.put, List.setIfInBounds_toArray, List.set_cons_zero, List.set_cons_succ])
          refine wpAnyH_take (i := 35) (oi := (⟨some 77, Op.binOp .geq 3 (.tmp 76) (.const (.int IntKind.i64 (-62))) 3, 4, "law.go:262", #[⟨34, .data⟩, ⟨28, .guard⟩], some (28, false)⟩ : Oper)) (v := ?_) rfl (by kernel_rfl) (by kernel_rfl) (by kernel_rfl) (fun _ _ _ h => h) (Or.inl ⟨by rfl, ?_⟩) (by assumption) ?_
          rotate_left
          · intro w hSw; (try dsimp only at hSw); go_simp <;> with_reducible rfl
          (try simp only [Act.put, List.setIfInBounds_toArray, List.set_cons_zero, List.set_cons_succ])
          refine wpAnyH_take (i := 36) (oi := (⟨some 78, Op.move (.tmp 77), 4, "law.go:262", #[⟨35, .data⟩, ⟨28, .chain⟩, ⟨28, .guard⟩], some (28, false)⟩ : Oper)) (v := ?_) rfl (by kernel_rfl) (by kernel_rfl) (by kernel_rfl) (fun _ _ _ h => h) (Or.inl ⟨by rfl, ?_⟩) (by assumption) ?_
          rotate_left
          · intro w hSw; (try dsimp only at hSw); go_simp <;> with_reducible rfl
          (try simp only [Act.put, List.setIfInBounds_toArray, List.set_cons_zero, List.set_cons_succ])
          refine wpAnyH_take (i := 37) (oi := (⟨some 79, Op.move (.tmp 8), 3, "law.go:262", #[⟨36, .guard⟩], some (36, true)⟩ : Oper)) (v := ?_) rfl (by kernel_rfl) (by kernel_rfl) (by kernel_rfl) (fun _ _ _ h => h) (Or.inl ⟨by rfl, ?_⟩) (by assumption) ?_
          rotate_left
          · intro w hSw; (try dsimp only at hSw); go_simp <;> with_reducible rfl
          (try simp only [Act.put, List.setIfInBounds_toArray, List.set_cons_zero, List.set_cons_succ])
          refine wpAnyH_take (i := 38) (oi := (⟨some 80, Op.move (.tmp 9), 3, "law.go:262", #[⟨36, .guard⟩], some (36, true)⟩ : Oper)) (v := ?_) rfl (by kernel_rfl) (by kernel_rfl) (by kernel_rfl) (fun _ _ _ h => h) (Or.inl ⟨by rfl, ?_⟩) (by assumption) ?_
          rotate_left
          · intro w hSw; (try dsimp only at hSw); go_simp <;> with_reducible rfl
          (try simp only [Act.put, List.setIfInBounds_toArray, List.set_cons_zero, List.set_cons_succ])
          refine wpAnyH_take (i := 39) (oi := (⟨some 81, Op.binOp .sub 3 (.tmp 79) (.tmp 80) 3, 3, "law.go:262", #[⟨37, .data⟩, ⟨38, .data⟩, ⟨36, .guard⟩], some (36, true)⟩ : Oper)) (v := ?_) rfl (by kernel_rfl) (by kernel_rfl) (by kernel_rfl) (fun _ _ _ h => h) (Or.inl ⟨by rfl, ?_⟩) (by assumption) ?_
          rotate_left
          · intro w hSw; (try dsimp only at hSw); go_simp <;> with_reducible rfl
          (try simp only [Act.put, List.setIfInBounds_toArray, List.set_cons_zero, List.set_cons_succ])
          refine wpAnyH_take (i := 40) (oi := (⟨some 82, Op.binOp .leq 3 (.tmp 81) (.const (.int IntKind.i64 62)) 3, 4, "law.go:262", #[⟨39, .data⟩, ⟨36, .guard⟩], some (36, true)⟩ : Oper)) (v := ?_) rfl (by kernel_rfl) (by kernel_rfl) (by kernel_rfl) (fun _ _ _ h => h) (Or.inl ⟨by rfl, ?_⟩) (by assumption) ?_
          rotate_left
          · intro w hSw; (try dsimp only at hSw); go_simp <;> with_reducible rfl
          (try simp only [Act.put, List.setIfInBounds_toArray, List.set_cons_zero, List.set_cons_succ])
          refine wpAnyH_take (i := 41) (oi := (⟨some 83, Op.pick (.tmp 78) (.tmp 82) (.const (.bool false)), 4, "law.go:262", #[⟨36, .data⟩, ⟨40, .data⟩, ⟨28, .guard⟩], some (28, false)⟩ : Oper)) (v := ?_) rfl (by kernel_rfl) (by kernel_rfl) (by kernel_rfl) (fun _ _ _ h => h) (Or.inl ⟨by rfl, ?_⟩) (by assumption) ?_
          rotate_left
          · intro w hSw; (try dsimp only at hSw); go_simp <;> with_reducible rfl
          (try simp only [Act.put, List.setIfInBounds_toArray, List.set_cons_zero, List.set_cons_succ])
          refine wpAnyH_take (i := 42) (oi := (⟨some 84, Op.binOp .neq 4 (.tmp 73) (.tmp 83) 4, 4, "law.go:262", #[⟨31, .data⟩, ⟨41, .data⟩, ⟨28, .guard⟩], some (28, false)⟩ : Oper)) (v := ?_) rfl (by kernel_rfl) (by kernel_rfl) (by kernel_rfl) (fun _ _ _ h => h) (Or.inl ⟨by rfl, ?_⟩) (by assumption) ?_
          rotate_left
          · intro w hSw; (try dsimp only at hSw); go_simp <;> with_reducible rfl
          (try simp only [Act.put, List.setIfInBounds_toArray, List.set_cons_zero, List.set_cons_succ])
          refine wpAnyH_take (i := 43) (oi := (⟨some 85, Op.pick (.tmp 70) (.const (.bool true)) (.tmp 84), 4, "law.go:262", #[⟨28, .data⟩, ⟨42, .data⟩], none⟩ : Oper)) (v := ?_) rfl (by kernel_rfl) (by kernel_rfl) (by kernel_rfl) (fun _ _ _ h => h) (Or.inl ⟨by rfl, ?_⟩) (by assumption) ?_
          rotate_left
          · intro w hSw; (try dsimp only at hSw); go_simp <;> with_reducible rfl
          (try simp only [Act.put, List.setIfInBounds_toArray, List.set_cons_zero, List.set_cons_succ])
          refine wpAnyH_take (i := 44) (oi := (⟨some 86, Op.move (.tmp 85), 4, "law.go:262", #[⟨43, .data⟩, ⟨36, .chain⟩], none⟩ : Oper)) (v := ?_) rfl (by kernel_rfl) (by kernel_rfl) (by kernel_rfl) (fun _ _ _ h => h) (Or.inl ⟨by rfl, ?_⟩) (by assumption) ?_
          rotate_left
          · intro w hSw; (try dsimp only at hSw); go_simp <;> with_reducible rfl
          (try simp only [Act.put, List.setIfInBounds_toArray, List.set_cons_zero, List.set_cons_succ])
          refine wpAnyH_take (i := 45) (oi := (⟨some 87, Op.fieldAddr 29 (.tmp 13) 1, 0, "law.go:262", #[⟨44, .guard⟩], some (44, false)⟩ : Oper)) (v := ?_) rfl (by kernel_rfl) (by kernel_rfl) (by kernel_rfl) (fun _ _ _ h => h) (Or.inl ⟨by rfl, ?_⟩) (by assumption) ?_
          rotate_left
          · intro w hSw; (try dsimp only at hSw); go_simp <;> with_reducible rfl
          (try simp only [Act.put, List.setIfInBounds_toArray, List.set_cons_zero, List.set_cons_succ])
          refine wpAnyH_take (i := 46) (oi := (⟨some 88, Op.load 27 (.tmp 87), 27, "law.go:262", #[⟨45, .data⟩, ⟨44, .guard⟩], some (44, false)⟩ : Oper)) (v := ?_) rfl (by kernel_rfl) (by kernel_rfl) (by kernel_rfl) (fun _ _ _ h => h) (Or.inl ⟨by rfl, ?_⟩) (by assumption) ?_
          rotate_left
          · intro w hSw; (try dsimp only at hSw); go_simp <;> with_reducible rfl
          (try simp only [Act.put, List.setIfInBounds_toArray, List.set_cons_zero, List.set_cons_succ])
          refine wpAnyH_take (i := 47) (oi := (⟨some 89, Op.binOp .eql 27 (.tmp 88) (.const (.int IntKind.i64 0)) 27, 4, "law.go:262", #[⟨46, .data⟩, ⟨44, .guard⟩], some (44, false)⟩ : Oper)) (v := ?_) rfl (by kernel_rfl) (by kernel_rfl) (by kernel_rfl) (fun _ _ _ h => h) (Or.inl ⟨by rfl, ?_⟩) (by assumption) ?_
          rotate_left
          · intro w hSw; (try dsimp only at hSw); go_simp <;> with_reducible rfl
          (try simp only [Act.put, List.setIfInBounds_toArray, List.set_cons_zero, List.set_cons_succ])
          refine wpAnyH_take (i := 48) (oi := (⟨some 90, Op.move (.tmp 89), 4, "law.go:262", #[⟨47, .data⟩, ⟨44, .chain⟩, ⟨44, .guard⟩], some (44, false)⟩ : Oper)) (v := ?_) rfl (by kernel_rfl) (by kernel_rfl) (by kernel_rfl) (fun _ _ _ h => h) (Or.inl ⟨by rfl, ?_⟩) (by assumption) ?_
          rotate_left
          · intro w hSw; (try dsimp only at hSw); go_simp <;> with_reducible rfl
          (try simp only [Act.put, List.setIfInBounds_toArray, List.set_cons_zero, List.set_cons_succ])
          refine wpAnyH_take (i := 49) (oi := (⟨some 91, Op.fieldAddr 29 (.tmp 13) 0, 0, "law.go:262", #[⟨48, .guard⟩], some (48, true)⟩ : Oper)) (v := ?_) rfl (by kernel_rfl) (by kernel_rfl) (by kernel_rfl) (fun _ _ _ h => h) (Or.inl ⟨by rfl, ?_⟩) (by assumption) ?_
          rotate_left
          · intro w hSw; (try dsimp only at hSw); go_simp <;> with_reducible rfl
          (try simp only [Act.put, List.setIfInBounds_toArray, List.set_cons_zero, List.set_cons_succ])
          refine wpAnyH_take (i := 50) (oi := (⟨some 92, Op.load 25 (.tmp 91), 25, "law.go:262", #[⟨49, .data⟩, ⟨48, .guard⟩], some (48, true)⟩ : Oper)) (v := ?_) rfl (by kernel_rfl) (by kernel_rfl) (by kernel_rfl) (fun _ _ _ h => h) (Or.inl ⟨by rfl, ?_⟩) (by assumption) ?_
          rotate_left
          · intro w hSw; (try dsimp only at hSw); go_simp <;> with_reducible rfl
          (try simp only [Act.put, List.setIfInBounds_toArray, List.set_cons_zero, List.set_cons_succ])
          refine wpAnyH_take (i := 51) (oi := (⟨some 93, Op.move (.tmp 8), 3, "law.go:262", #[⟨48, .guard⟩], some (48, true)⟩ : Oper)) (v := ?_) rfl (by kernel_rfl) (by kernel_rfl) (by kernel_rfl) (fun _ _ _ h => h) (Or.inl ⟨by rfl, ?_⟩) (by assumption) ?_
          rotate_left
          · intro w hSw; (try dsimp only at hSw); go_simp <;> with_reducible rfl
          (try simp only [Act.put, List.setIfInBounds_toArray, List.set_cons_zero, List.set_cons_succ])
          refine wpAnyH_take (i := 52) (oi := (⟨some 94, Op.move (.tmp 9), 3, "law.go:262", #[⟨48, .guard⟩], some (48, true)⟩ : Oper)) (v := ?_) rfl (by kernel_rfl) (by kernel_rfl) (by kernel_rfl) (fun _ _ _ h => h) (Or.inl ⟨by rfl, ?_⟩) (by assumption) ?_
          rotate_left
          · intro w hSw; (try dsimp only at hSw); go_simp <;> with_reducible rfl
          (try simp only [Act.put, List.setIfInBounds_toArray, List.set_cons_zero, List.set_cons_succ])
          refine wpAnyH_take (i := 53) (oi := (⟨some 95, Op.binOp .sub 3 (.tmp 93) (.tmp 94) 3, 3, "law.go:262", #[⟨51, .data⟩, ⟨52, .data⟩, ⟨48, .guard⟩], some (48, true)⟩ : Oper)) (v := ?_) rfl (by kernel_rfl) (by kernel_rfl) (by kernel_rfl) (fun _ _ _ h => h) (Or.inl ⟨by rfl, ?_⟩) (by assumption) ?_
          rotate_left
          · intro w hSw; (try dsimp only at hSw); go_simp <;> with_reducible rfl
          (try simp only [Act.put, List.setIfInBounds_toArray, List.set_cons_zero, List.set_cons_succ])
          refine wpAnyH_ready (rs := [54]) (by kernel_rfl) (by simp) ?_
          refine AllReadyH.cons (o := (⟨some 96, Op.call { callee := Callee.value (Operand.func 26), args := #[.tmp 95], argTypes := #[3] }, 25, "law.go:262", #[⟨53, .data⟩, ⟨48, .chain⟩, ⟨48, .guard⟩], some (48, true)⟩ : Oper)) rfl (fun K hK => ?_) ?_
          rotate_left
          · exact AllReadyH.nil
          go_simp
          go_at_call 26
          with_reducible refine (CD.out _).mono ?_
          rintro e y0 ⟨rfl, hq0⟩
          have hB0 := below_step hsd hq0
          clear hHeld
          first | (with_reducible refine hK.out _ _ ?_ (fun hHeld => ?_)) | (go_wp2_with fail; with_reducible refine hK.out _ _ ?_ (fun hHeld => ?_))
          · with_reducible exact ⟨cell_below hB0 hm0, cell_below hB0 hm1, cell_below hB0 hm2, cell_below hB0 hd0, cell_below hB0 hd1, cell_below hB0 hd2, hB0⟩
          clear hK K
          (try simp only [Act.put, List.setIfInBounds_toArray, List.set_cons_zero, List.set_cons_succ])
          refine wpAnyH_take (i := 55) (oi := (⟨some 97, Op.binOp .neq 25 (.tmp 92) (.tmp 96) 25, 4, "law.go:262", #[⟨50, .data⟩, ⟨54, .data⟩, ⟨48, .guard⟩], some (48, true)⟩ : Oper)) (v := ?_) rfl (by kernel_rfl) (by kernel_rfl) (by kernel_rfl) (fun _ _ _ h => h) (Or.inl ⟨by rfl, ?_⟩) (by assumption) ?_
          rotate_left
          · intro w hSw; (try dsimp only at hSw); go_simp <;> with_reducible rfl
          (try simp only [Act.put, List.setIfInBounds_toArray, List.set_cons_zero, List.set_cons_succ])
          refine wpAnyH_take (i := 56) (oi := (⟨some 98, Op.pick (.tmp 90) (.tmp 97) (.const (.bool false)), 4, "law.go:262", #[⟨48, .data⟩, ⟨55, .data⟩, ⟨44, .guard⟩], some (44, false)⟩ : Oper)) (v := ?_) rfl (by kernel_rfl) (by kernel_rfl) (by kernel_rfl) (fun _ _ _ h => h) (Or.inl ⟨by rfl, ?_⟩) (by assumption) ?_
          rotate_left
          · intro w hSw; (try dsimp only at hSw); go_simp <;> with_reducible rfl
          (try simp only [Act.put, List.setIfInBounds_toArray, List.set_cons_zero, List.set_cons_succ])
          refine wpAnyH_take (i := 57) (oi := (⟨some 99, Op.pick (.tmp 86) (.const (.bool true)) (.tmp 98), 4, "law.go:262", #[⟨44, .data⟩, ⟨56, .data⟩], none⟩ : Oper)) (v := ?_) rfl (by kernel_rfl) (by kernel_rfl) (by kernel_rfl) (fun _ _ _ h => h) (Or.inl ⟨by rfl, ?_⟩) (by assumption) ?_
          rotate_left
          · intro w hSw; (try dsimp only at hSw); go_simp <;> with_reducible rfl
          (try simp only [Act.put, List.setIfInBounds_toArray, List.set_cons_zero, List.set_cons_succ])
          refine wpAnyH_done (by kernel_rfl) ?_ _
          go_wp2_with fail
          go_meet
          exact ⟨rfl, by assumption⟩
        · by_cases gdl : -62 ≤ a - b
          · skip
            as_aux_lemma =>
            have mf0 : (mE == 0) = false := by rw [gm]; rfl
            have mf1 : decide (-62 ≤ a + b) = true := by simp; omega
            have mf2 : decide (a + b ≤ 62) = false := by simp; omega
            have df0 : (dE == 0) = false := by rw [gd]; rfl
            have df1 : decide (-62 ≤ a - b) = true := by simp; omega
            have df2 : decide (a - b ≤ 62) = false := by simp; omega
            clear gm gm1 gd gd1
            refine wp_region_held_drew (S := (fun V => V.cell? ⟨v4.heap.size, 0, none⟩ = some (.int .i64 mN) ∧ V.cell? ⟨v4.heap.size, 1, none⟩ = some (.int .i64 mD) ∧ V.cell? ⟨v4.heap.size, 2, none⟩ = some (.int .i64 mE) ∧ V.cell? ⟨v5.heap.size, 0, none⟩ = some (.int .i64 dN) ∧ V.cell? ⟨v5.heap.size, 1, none⟩ = some (.int .i64 dD) ∧ V.cell? ⟨v5.heap.size, 2, none⟩ = some (.int .i64 dE) ∧ Below wD.heap.size wD V)) (by kernel_rfl) ?_ (fun hHeld => ?_)
            · with_reducible exact ⟨cell_below hsd hm0, cell_below hsd hm1, cell_below hsd hm2, cell_below hsd hd0, cell_below hsd hd1, cell_below hsd hd2, hsd⟩
            refine wpAnyH_take (i := 0) (oi := (⟨some 42, Op.fieldAddr 29 (.tmp 12) 1, 0, "law.go:262", #[], none⟩ : Oper)) (v := ?_) rfl (by kernel_rfl) (by kernel_rfl) (by kernel_rfl) (fun _ _ _ h => h) (Or.inl ⟨by rfl, ?_⟩) (by assumption) ?_
            rotate_left
            · intro w hSw; (try dsimp only at hSw); go_simp <;> with_reducible rfl
            (try simp only [Act.put, List.setIfInBounds_toArray, List.set_cons_zero, List.set_cons_succ])
            refine wpAnyH_take (i := 1) (oi := (⟨some 43, Op.load 27 (.tmp 42), 27, "law.go:262", #[⟨0, .data⟩], none⟩ : Oper)) (v := ?_) rfl (by kernel_rfl) (by kernel_rfl) (by kernel_rfl) (fun _ _ _ h => h) (Or.inl ⟨by rfl, ?_⟩) (by assumption) ?_
            rotate_left
            · intro w hSw; (try dsimp only at hSw); go_simp <;> with_reducible rfl
            (try simp only [Act.put, List.setIfInBounds_toArray, List.set_cons_zero, List.set_cons_succ])
            refine wpAnyH_take (i := 2) (oi := (⟨some 44, Op.binOp .eql 27 (.tmp 43) (.const (.int IntKind.i64 0)) 27, 4, "law.go:262", #[⟨1, .data⟩], none⟩ : Oper)) (v := ?_) rfl (by kernel_rfl) (by kernel_rfl) (by kernel_rfl) (fun _ _ _ h => h) (Or.inl ⟨by rfl, ?_⟩) (by assumption) ?_
            rotate_left
            · intro w hSw; (try dsimp only at hSw); go_simp <;> with_reducible rfl
            (try simp only [Act.put, List.setIfInBounds_toArray, List.set_cons_zero, List.set_cons_succ])
            refine wpAnyH_take (i := 3) (oi := (⟨some 45, Op.move (.tmp 8), 3, "law.go:262", #[], none⟩ : Oper)) (v := ?_) rfl (by kernel_rfl) (by kernel_rfl) (by kernel_rfl) (fun _ _ _ h => h) (Or.inl ⟨by rfl, ?_⟩) (by assumption) ?_
            rotate_left
            · intro w hSw; (try dsimp only at hSw); go_simp <;> with_reducible rfl
            (try simp only [Act.put, List.setIfInBounds_toArray, List.set_cons_zero, List.set_cons_succ])
            refine wpAnyH_take (i := 4) (oi := (⟨some 46, Op.move (.tmp 9), 3, "law.go:262", #[], none⟩ : Oper)) (v := ?_) rfl (by kernel_rfl) (by kernel_rfl) (by kernel_rfl) (fun _ _ _ h => h) (Or.inl ⟨by rfl, ?_⟩) (by assumption) ?_
            rotate_left
            · intro w hSw; (try dsimp only at hSw); go_simp <;> with_reducible rfl
            (try simp only [Act.put, List.setIfInBounds_toArray, List.set_cons_zero, List.set_cons_succ])
            refine wpAnyH_take (i := 5) (oi := (⟨some 47, Op.binOp .add 3 (.tmp 45) (.tmp 46) 3, 3, "law.go:262", #[⟨3, .data⟩, ⟨4, .data⟩], none⟩ : Oper)) (v := ?_) rfl (by kernel_rfl) (by kernel_rfl) (by kernel_rfl) (fun _ _ _ h => h) (Or.inl ⟨by rfl, ?_⟩) (by assumption) ?_
            rotate_left
            · intro w hSw; (try dsimp only at hSw); go_simp <;> with_reducible rfl
            (try simp only [Act.put, List.setIfInBounds_toArray, List.set_cons_zero, List.set_cons_succ])
            refine wpAnyH_take (i := 6) (oi := (⟨some 48, Op.binOp .geq 3 (.tmp 47) (.const (.int IntKind.i64 (-62))) 3, 4, "law.go:262", #[⟨5, .data⟩], none⟩ : Oper)) (v := ?_) rfl (by kernel_rfl) (by kernel_rfl) (by kernel_rfl) (fun _ _ _ h => h) (Or.inl ⟨by rfl, ?_⟩) (by assumption) ?_
            rotate_left
            · intro w hSw; (try dsimp only at hSw); go_simp <;> with_reducible rfl
            (try simp only [Act.put, List.setIfInBounds_toArray, List.set_cons_zero, List.set_cons_succ])
            refine wpAnyH_take (i := 7) (oi := (⟨some 49, Op.move (.tmp 48), 4, "law.go:262", #[⟨6, .data⟩], none⟩ : Oper)) (v := ?_) rfl (by kernel_rfl) (by kernel_rfl) (by kernel_rfl) (fun _ _ _ h => h) (Or.inl ⟨by rfl, ?_⟩) (by assumption) ?_
            rotate_left
            · intro w hSw; (try dsimp only at hSw); go_simp <;> with_reducible rfl
            (try simp only [Act.put, List.setIfInBounds_toArray, List.set_cons_zero, List.set_cons_succ])
            refine wpAnyH_take (i := 8) (oi := (⟨some 50, Op.move (.tmp 8), 3, "law.go:262", #[⟨7, .guard⟩], some (7, true)⟩ : Oper)) (v := ?_) rfl (by kernel_rfl) (by kernel_rfl) (by kernel_rfl) (fun _ _ _ h => h) (Or.inl ⟨by rfl, ?_⟩) (by assumption) ?_
            rotate_left
            · intro w hSw; (try dsimp only at hSw); go_simp <;> with_reducible rfl
            (try simp only [Act.put, List.setIfInBounds_toArray, List.set_cons_zero, List.set_cons_succ])
            refine wpAnyH_take (i := 9) (oi := (⟨some 51, Op.move (.tmp 9), 3, "law.go:262", #[⟨7, .guard⟩], some (7, true)⟩ : Oper)) (v := ?_) rfl (by kernel_rfl) (by kernel_rfl) (by kernel_rfl) (fun _ _ _ h => h) (Or.inl ⟨by rfl, ?_⟩) (by assumption) ?_
            rotate_left
            · intro w hSw; (try dsimp only at hSw); go_simp <;> with_reducible rfl
            (try simp only [Act.put, List.setIfInBounds_toArray, List.set_cons_zero, List.set_cons_succ])
            refine wpAnyH_take (i := 10) (oi := (⟨some 52, Op.binOp .add 3 (.tmp 50) (.tmp 51) 3, 3, "law.go:262", #[⟨8, .data⟩, ⟨9, .data⟩, ⟨7, .guard⟩], some (7, true)⟩ : Oper)) (v := ?_) rfl (by kernel_rfl) (by kernel_rfl) (by kernel_rfl) (fun _ _ _ h => h) (Or.inl ⟨by rfl, ?_⟩) (by assumption) ?_
            rotate_left
            · intro w hSw; (try dsimp only at hSw); go_simp <;> with_reducible rfl
            (try simp only [Act.put, List.setIfInBounds_toArray, List.set_cons_zero, List.set_cons_succ])
            refine wpAnyH_take (i := 11) (oi := (⟨some 53, Op.binOp .leq 3 (.tmp 52) (.const (.int IntKind.i64 62)) 3, 4, "law.go:262", #[⟨10, .data⟩, ⟨7, .guard⟩], some (7, true)⟩ : Oper)) (v := ?_) rfl (by kernel_rfl) (by kernel_rfl) (by kernel_rfl) (fun _ _ _ h => h) (Or.inl ⟨by rfl, ?_⟩) (by assumption) ?_
            rotate_left
            · intro w hSw; (try dsimp only at hSw); go_simp <;> with_reducible rfl
            (try simp only [Act.put, List.setIfInBounds_toArray, List.set_cons_zero, List.set_cons_succ])
            refine wpAnyH_take (i := 12) (oi := (⟨some 54, Op.pick (.tmp 49) (.tmp 53) (.const (.bool false)), 4, "law.go:262", #[⟨7, .data⟩, ⟨11, .data⟩], none⟩ : Oper)) (v := ?_) rfl (by kernel_rfl) (by kernel_rfl) (by kernel_rfl) (fun _ _ _ h => h) (Or.inl ⟨by rfl, ?_⟩) (by assumption) ?_
            rotate_left
            · intro w hSw; (try dsimp only at hSw); go_simp <;> with_reducible rfl
            (try simp only [Act.put, List.setIfInBounds_toArray, List.set_cons_zero, List.set_cons_succ])
            refine wpAnyH_take (i := 13) (oi := (⟨some 55, Op.binOp .neq 4 (.tmp 44) (.tmp 54) 4, 4, "law.go:262", #[⟨2, .data⟩, ⟨12, .data⟩], none⟩ : Oper)) (v := ?_) rfl (by kernel_rfl) (by kernel_rfl) (by kernel_rfl) (fun _ _ _ h => h) (Or.inl ⟨by rfl, ?_⟩) (by assumption) ?_
            rotate_left
            · intro w hSw; (try dsimp only at hSw); go_simp <;> with_reducible rfl
            (try simp only [Act.put, List.setIfInBounds_toArray, List.set_cons_zero, List.set_cons_succ])
            refine wpAnyH_take (i := 14) (oi := (⟨some 56, Op.move (.tmp 55), 4, "law.go:262", #[⟨13, .data⟩, ⟨7, .chain⟩], none⟩ : Oper)) (v := ?_) rfl (by kernel_rfl) (by kernel_rfl) (by kernel_rfl) (fun _ _ _ h => h) (Or.inl ⟨by rfl, ?_⟩) (by assumption) ?_
            rotate_left
            · intro w hSw; (try dsimp only at hSw); go_simp <;> with_reducible rfl
            (try simp only [Act.put, List.setIfInBounds_toArray, List.set_cons_zero, List.set_cons_succ])
            refine wpAnyH_take (i := 15) (oi := (⟨some 57, Op.fieldAddr 29 (.tmp 12) 1, 0, "law.go:262", #[⟨14, .guard⟩], some (14, false)⟩ : Oper)) (v := ?_) rfl (by kernel_rfl) (by kernel_rfl) (by kernel_rfl) (fun _ _ _ h => h) (Or.inl ⟨by rfl, ?_⟩) (by assumption) ?_
            rotate_left
            · intro w hSw; (try dsimp only at hSw); go_simp <;> with_reducible rfl
            (try simp only [Act.put, List.setIfInBounds_toArray, List.set_cons_zero, List.set_cons_succ])
            refine wpAnyH_take (i := 16) (oi := (⟨some 58, Op.load 27 (.tmp 57), 27, "law.go:262", #[⟨15, .data⟩, ⟨14, .guard⟩], some (14, false)⟩ : Oper)) (v := ?_) rfl (by kernel_rfl) (by kernel_rfl) (by kernel_rfl) (fun _ _ _ h => h) (Or.inl ⟨by rfl, ?_⟩) (by assumption) ?_
            rotate_left
            · intro w hSw; (try dsimp only at hSw); go_simp <;> with_reducible rfl
            (try simp only [Act.put, List.setIfInBounds_toArray, List.set_cons_zero, List.set_cons_succ])
            refine wpAnyH_take (i := 17) (oi := (⟨some 59, Op.binOp .eql 27 (.tmp 58) (.const (.int IntKind.i64 0)) 27, 4, "law.go:262", #[⟨16, .data⟩, ⟨14, .guard⟩], some (14, false)⟩ : Oper)) (v := ?_) rfl (by kernel_rfl) (by kernel_rfl) (by kernel_rfl) (fun _ _ _ h => h) (Or.inl ⟨by rfl, ?_⟩) (by assumption) ?_
            rotate_left
            · intro w hSw; (try dsimp only at hSw); go_simp <;> with_reducible rfl
            (try simp only [Act.put, List.setIfInBounds_toArray, List.set_cons_zero, List.set_cons_succ])
            refine wpAnyH_take (i := 18) (oi := (⟨some 60, Op.move (.tmp 59), 4, "law.go:262", #[⟨17, .data⟩, ⟨14, .chain⟩, ⟨14, .guard⟩], some (14, false)⟩ : Oper)) (v := ?_) rfl (by kernel_rfl) (by kernel_rfl) (by kernel_rfl) (fun _ _ _ h => h) (Or.inl ⟨by rfl, ?_⟩) (by assumption) ?_
            rotate_left
            · intro w hSw; (try dsimp only at hSw); go_simp <;> with_reducible rfl
            (try simp only [Act.put, List.setIfInBounds_toArray, List.set_cons_zero, List.set_cons_succ])
            refine wpAnyH_take (i := 19) (oi := (⟨some 61, Op.fieldAddr 29 (.tmp 12) 0, 0, "law.go:262", #[⟨18, .guard⟩], some (18, true)⟩ : Oper)) (v := undef) rfl (by kernel_rfl) (by kernel_rfl) (by kernel_rfl) (fun _ _ _ h => h) (Or.inr ⟨by rfl, rfl⟩) (by assumption) ?_
            (try simp only [Act.put, List.setIfInBounds_toArray, List.set_cons_zero, List.set_cons_succ])
            refine wpAnyH_take (i := 20) (oi := (⟨some 62, Op.load 25 (.tmp 61), 25, "law.go:262", #[⟨19, .data⟩, ⟨18, .guard⟩], some (18, true)⟩ : Oper)) (v := undef) rfl (by kernel_rfl) (by kernel_rfl) (by kernel_rfl) (fun _ _ _ h => h) (Or.inr ⟨by rfl, rfl⟩) (by assumption) ?_
            (try simp only [Act.put, List.setIfInBounds_toArray, List.set_cons_zero, List.set_cons_succ])
            refine wpAnyH_take (i := 21) (oi := (⟨some 63, Op.move (.tmp 8), 3, "law.go:262", #[⟨18, .guard⟩], some (18, true)⟩ : Oper)) (v := undef) rfl (by kernel_rfl) (by kernel_rfl) (by kernel_rfl) (fun _ _ _ h => h) (Or.inr ⟨by rfl, rfl⟩) (by assumption) ?_
            (try simp only [Act.put, List.setIfInBounds_toArray, List.set_cons_zero, List.set_cons_succ])
            refine wpAnyH_take (i := 22) (oi := (⟨some 64, Op.move (.tmp 9), 3, "law.go:262", #[⟨18, .guard⟩], some (18, true)⟩ : Oper)) (v := undef) rfl (by kernel_rfl) (by kernel_rfl) (by kernel_rfl) (fun _ _ _ h => h) (Or.inr ⟨by rfl, rfl⟩) (by assumption) ?_
            (try simp only [Act.put, List.setIfInBounds_toArray, List.set_cons_zero, List.set_cons_succ])
            refine wpAnyH_take (i := 23) (oi := (⟨some 65, Op.binOp .add 3 (.tmp 63) (.tmp 64) 3, 3, "law.go:262", #[⟨21, .data⟩, ⟨22, .data⟩, ⟨18, .guard⟩], some (18, true)⟩ : Oper)) (v := undef) rfl (by kernel_rfl) (by kernel_rfl) (by kernel_rfl) (fun _ _ _ h => h) (Or.inr ⟨by rfl, rfl⟩) (by assumption) ?_
            (try simp only [Act.put, List.setIfInBounds_toArray, List.set_cons_zero, List.set_cons_succ])
            refine wpAnyH_take (i := 24) (oi := (⟨some 66, Op.call { callee := Callee.value (Operand.func 26), args := #[.tmp 65], argTypes := #[3] }, 25, "law.go:262", #[⟨23, .data⟩, ⟨18, .chain⟩, ⟨18, .guard⟩], some (18, true)⟩ : Oper)) (v := undef) rfl (by kernel_rfl) (by kernel_rfl) (by kernel_rfl) (fun _ _ _ h => h) (Or.inr ⟨by rfl, rfl⟩) (by assumption) ?_
            (try simp only [Act.put, List.setIfInBounds_toArray, List.set_cons_zero, List.set_cons_succ])
            refine wpAnyH_take (i := 25) (oi := (⟨some 67, Op.binOp .neq 25 (.tmp 62) (.tmp 66) 25, 4, "law.go:262", #[⟨20, .data⟩, ⟨24, .data⟩, ⟨18, .guard⟩], some (18, true)⟩ : Oper)) (v := undef) rfl (by kernel_rfl) (by kernel_rfl) (by kernel_rfl) (fun _ _ _ h => h) (Or.inr ⟨by rfl, rfl⟩) (by assumption) ?_
            (try simp only [Act.put, List.setIfInBounds_toArray, List.set_cons_zero, List.set_cons_succ])
            refine wpAnyH_take (i := 26) (oi := (⟨some 68, Op.pick (.tmp 60) (.tmp 67) (.const (.bool false)), 4, "law.go:262", #[⟨18, .data⟩, ⟨25, .data⟩, ⟨14, .guard⟩], some (14, false)⟩ : Oper)) (v := ?_) rfl (by kernel_rfl) (by kernel_rfl) (by kernel_rfl) (fun _ _ _ h => h) (Or.inl ⟨by rfl, ?_⟩) (by assumption) ?_
            rotate_left
            · intro w hSw; (try dsimp only at hSw); go_simp <;> with_reducible rfl
            (try simp only [Act.put, List.setIfInBounds_toArray, List.set_cons_zero, List.set_cons_succ])
            refine wpAnyH_take (i := 27) (oi := (⟨some 69, Op.pick (.tmp 56) (.const (.bool true)) (.tmp 68), 4, "law.go:262", #[⟨14, .data⟩, ⟨26, .data⟩], none⟩ : Oper)) (v := ?_) rfl (by kernel_rfl) (by kernel_rfl) (by kernel_rfl) (fun _ _ _ h => h) (Or.inl ⟨by rfl, ?_⟩) (by assumption) ?_
            rotate_left
            · intro w hSw; (try dsimp only at hSw); go_simp <;> with_reducible rfl
            (try simp only [Act.put, List.setIfInBounds_toArray, List.set_cons_zero, List.set_cons_succ])
            refine wpAnyH_take (i := 28) (oi := (⟨some 70, Op.move (.tmp 69), 4, "law.go:262", #[⟨27, .data⟩, ⟨24, .chain⟩], none⟩ : Oper)) (v := ?_) rfl (by kernel_rfl) (by kernel_rfl) (by kernel_rfl) (fun _ _ _ h => h) (Or.inl ⟨by rfl, ?_⟩) (by assumption) ?_
            rotate_left
            · intro w hSw; (try dsimp only at hSw); go_simp <;> with_reducible rfl
            (try simp only [Act.put, List.setIfInBounds_toArray, List.set_cons_zero, List.set_cons_succ])
            refine wpAnyH_take (i := 29) (oi := (⟨some 71, Op.fieldAddr 29 (.tmp 13) 1, 0, "law.go:262", #[⟨28, .guard⟩], some (28, false)⟩ : Oper)) (v := ?_) rfl (by kernel_rfl) (by kernel_rfl) (by kernel_rfl) (fun _ _ _ h => h) (Or.inl ⟨by rfl, ?_⟩) (by assumption) ?_
            rotate_left
            · intro w hSw; (try dsimp only at hSw); go_simp <;> with_reducible rfl
            (try simp only [Act.put, List.setIfInBounds_toArray, List.set_cons_zero, List.set_cons_succ])
            refine wpAnyH_take (i := 30) (oi := (⟨some 72, Op.load 27 (.tmp 71), 27, "law.go:262", #[⟨29, .data⟩, ⟨28, .guard⟩], some (28, false)⟩ : Oper)) (v := ?_) rfl (by kernel_rfl) (by kernel_rfl) (by kernel_rfl) (fun _ _ _ h => h) (Or.inl ⟨by rfl, ?_⟩) (by assumption) ?_
            rotate_left
            · intro w hSw; (try dsimp only at hSw); go_simp <;> with_reducible rfl
            (try simp only [Act.put, List.setIfInBounds_toArray, List.set_cons_zero, List.set_cons_succ])
            refine wpAnyH_take (i := 31) (oi := (⟨some 73, Op.binOp .eql 27 (.tmp 72) (.const (.int IntKind.i64 0)) 27, 4, "law.go:262", #[⟨30, .data⟩, ⟨28, .guard⟩], some (28, false)⟩ : Oper)) (v := ?_) rfl (by kernel_rfl) (by kernel_rfl) (by kernel_rfl) (fun _ _ _ h => h) (Or.inl ⟨by rfl, ?_⟩) (by assumption) ?_
            rotate_left
            · intro w hSw; (try dsimp only at hSw); go_simp <;> with_reducible rfl
            (try simp only [Act.put, List.setIfInBounds_toArray, List.set_cons_zero, List.set_cons_succ])
            refine wpAnyH_take (i := 32) (oi := (⟨some 74, Op.move (.tmp 8), 3, "law.go:262", #[⟨28, .guard⟩], some (28, false)⟩ : Oper)) (v := ?_) rfl (by kernel_rfl) (by kernel_rfl) (by kernel_rfl) (fun _ _ _ h => h) (Or.inl ⟨by rfl, ?_⟩) (by assumption) ?_
            rotate_left
            · intro w hSw; (try dsimp only at hSw); go_simp <;> with_reducible rfl
            (try simp only [Act.put, List.setIfInBounds_toArray, List.set_cons_zero, List.set_cons_succ])
            refine wpAnyH_take (i := 33) (oi := (⟨some 75, Op.move (.tmp 9), 3, "law.go:262", #[⟨28, .guard⟩], some (28, false)⟩ : Oper)) (v := ?_) rfl (by kernel_rfl) (by kernel_rfl) (by kernel_rfl) (fun _ _ _ h => h) (Or.inl ⟨by rfl, ?_⟩) (by assumption) ?_
            rotate_left
            · intro w hSw; (try dsimp only at hSw); go_simp <;> with_reducible rfl
            (try simp only [Act.put, List.setIfInBounds_toArray, List.set_cons_zero, List.set_cons_succ])
            refine wpAnyH_take (i := 34) (oi := (⟨some 76, Op.binOp .sub 3 (.tmp 74) (.tmp 75) 3, 3, "law.go:262", #[⟨32, .data⟩, ⟨33, .data⟩, ⟨28, .guard⟩], some (28, false)⟩ : Oper)) (v := ?_) rfl (by kernel_rfl) (by kernel_rfl) (by kernel_rfl) (fun _ _ _ h => h) (Or.inl ⟨by rfl, ?_⟩) (by assumption) ?_
            rotate_left
            · intro w hSw; (try dsimp only at hSw); go_simp <;> with_reducible rfl
            (try simp only [Act.put, List.setIfInBounds_toArray, List.set_cons_zero, List.set_cons_succ])
            refine wpAnyH_take (i := 35) (oi := (⟨some 77, Op.binOp .geq 3 (.tmp 76) (.const (.int IntKind.i64 (-62))) 3, 4, "law.go:262", #[⟨34, .data⟩, ⟨28, .guard⟩], some (28, false)⟩ : Oper)) (v := ?_) rfl (by kernel_rfl) (by kernel_rfl) (by kernel_rfl) (fun _ _ _ h => h) (Or.inl ⟨by rfl, ?_⟩) (by assumption) ?_
            rotate_left
            · intro w hSw; (try dsimp only at hSw); go_simp <;> with_reducible rfl
            (try simp only [Act.put, List.setIfInBounds_toArray, List.set_cons_zero, List.set_cons_succ])
            refine wpAnyH_take (i := 36) (oi := (⟨some 78, Op.move (.tmp 77), 4, "law.go:262", #[⟨35, .data⟩, ⟨28, .chain⟩, ⟨28, .guard⟩], some (28, false)⟩ : Oper)) (v := ?_) rfl (by kernel_rfl) (by kernel_rfl) (by kernel_rfl) (fun _ _ _ h => h) (Or.inl ⟨by rfl, ?_⟩) (by assumption) ?_
            rotate_left
            · intro w hSw; (try dsimp only at hSw); go_simp <;> with_reducible rfl
            (try simp only [Act.put, List.setIfInBounds_toArray, List.set_cons_zero, List.set_cons_succ])
            refine wpAnyH_take (i := 37) (oi := (⟨some 79, Op.move (.tmp 8), 3, "law.go:262", #[⟨36, .guard⟩], some (36, true)⟩ : Oper)) (v := ?_) rfl (by kernel_rfl) (by kernel_rfl) (by kernel_rfl) (fun _ _ _ h => h) (Or.inl ⟨by rfl, ?_⟩) (by assumption) ?_
            rotate_left
            · intro w hSw; (try dsimp only at hSw); go_simp <;> with_reducible rfl
            (try simp only [Act.put, List.setIfInBounds_toArray, List.set_cons_zero, List.set_cons_succ])
            refine wpAnyH_take (i := 38) (oi := (⟨some 80, Op.move (.tmp 9), 3, "law.go:262", #[⟨36, .guard⟩], some (36, true)⟩ : Oper)) (v := ?_) rfl (by kernel_rfl) (by kernel_rfl) (by kernel_rfl) (fun _ _ _ h => h) (Or.inl ⟨by rfl, ?_⟩) (by assumption) ?_
            rotate_left
            · intro w hSw; (try dsimp only at hSw); go_simp <;> with_reducible rfl
            (try simp only [Act.put, List.setIfInBounds_toArray, List.set_cons_zero, List.set_cons_succ])
            refine wpAnyH_take (i := 39) (oi := (⟨some 81, Op.binOp .sub 3 (.tmp 79) (.tmp 80) 3, 3, "law.go:262", #[⟨37, .data⟩, ⟨38, .data⟩, ⟨36, .guard⟩], some (36, true)⟩ : Oper)) (v := ?_) rfl (by kernel_rfl) (by kernel_rfl) (by kernel_rfl) (fun _ _ _ h => h) (Or.inl ⟨by rfl, ?_⟩) (by assumption) ?_
            rotate_left
            · intro w hSw; (try dsimp only at hSw); go_simp <;> with_reducible rfl
            (try simp only [Act.put, List.setIfInBounds_toArray, List.set_cons_zero, List.set_cons_succ])
            refine wpAnyH_take (i := 40) (oi := (⟨some 82, Op.binOp .leq 3 (.tmp 81) (.const (.int IntKind.i64 62)) 3, 4, "law.go:262", #[⟨39, .data⟩, ⟨36, .guard⟩], some (36, true)⟩ : Oper)) (v := ?_) rfl (by kernel_rfl) (by kernel_rfl) (by kernel_rfl) (fun _ _ _ h => h) (Or.inl ⟨by rfl, ?_⟩) (by assumption) ?_
            rotate_left
            · intro w hSw; (try dsimp only at hSw); go_simp <;> with_reducible rfl
            (try simp only [Act.put, List.setIfInBounds_toArray, List.set_cons_zero, List.set_cons_succ])
            refine wpAnyH_take (i := 41) (oi := (⟨some 83, Op.pick (.tmp 78) (.tmp 82) (.const (.bool false)), 4, "law.go:262", #[⟨36, .data⟩, ⟨40, .data⟩, ⟨28, .guard⟩], some (28, false)⟩ : Oper)) (v := ?_) rfl (by kernel_rfl) (by kernel_rfl) (by kernel_rfl) (fun _ _ _ h => h) (Or.inl ⟨by rfl, ?_⟩) (by assumption) ?_
            rotate_left
            · intro w hSw; (try dsimp only at hSw); go_simp <;> with_reducible rfl
            (try simp only [Act.put, List.setIfInBounds_toArray, List.set_cons_zero, List.set_cons_succ])
            refine wpAnyH_take (i := 42) (oi := (⟨some 84, Op.binOp .neq 4 (.tmp 73) (.tmp 83) 4, 4, "law.go:262", #[⟨31, .data⟩, ⟨41, .data⟩, ⟨28, .guard⟩], some (28, false)⟩ : Oper)) (v := ?_) rfl (by kernel_rfl) (by kernel_rfl) (by kernel_rfl) (fun _ _ _ h => h) (Or.inl ⟨by rfl, ?_⟩) (by assumption) ?_
            rotate_left
            · intro w hSw; (try dsimp only at hSw); go_simp <;> with_reducible rfl
            (try simp only [Act.put, List.setIfInBounds_toArray, List.set_cons_zero, List.set_cons_succ])
            refine wpAnyH_take (i := 43) (oi := (⟨some 85, Op.pick (.tmp 70) (.const (.bool true)) (.tmp 84), 4, "law.go:262", #[⟨28, .data⟩, ⟨42, .data⟩], none⟩ : Oper)) (v := ?_) rfl (by kernel_rfl) (by kernel_rfl) (by kernel_rfl) (fun _ _ _ h => h) (Or.inl ⟨by rfl, ?_⟩) (by assumption) ?_
            rotate_left
            · intro w hSw; (try dsimp only at hSw); go_simp <;> with_reducible rfl
            (try simp only [Act.put, List.setIfInBounds_toArray, List.set_cons_zero, List.set_cons_succ])
            refine wpAnyH_take (i := 44) (oi := (⟨some 86, Op.move (.tmp 85), 4, "law.go:262", #[⟨43, .data⟩, ⟨36, .chain⟩], none⟩ : Oper)) (v := ?_) rfl (by kernel_rfl) (by kernel_rfl) (by kernel_rfl) (fun _ _ _ h => h) (Or.inl ⟨by rfl, ?_⟩) (by assumption) ?_
            rotate_left
            · intro w hSw; (try dsimp only at hSw); go_simp <;> with_reducible rfl
            (try simp only [Act.put, List.setIfInBounds_toArray, List.set_cons_zero, List.set_cons_succ])
            refine wpAnyH_take (i := 45) (oi := (⟨some 87, Op.fieldAddr 29 (.tmp 13) 1, 0, "law.go:262", #[⟨44, .guard⟩], some (44, false)⟩ : Oper)) (v := ?_) rfl (by kernel_rfl) (by kernel_rfl) (by kernel_rfl) (fun _ _ _ h => h) (Or.inl ⟨by rfl, ?_⟩) (by assumption) ?_
            rotate_left
            · intro w hSw; (try dsimp only at hSw); go_simp <;> with_reducible rfl
            (try simp only [Act.put, List.setIfInBounds_toArray, List.set_cons_zero, List.set_cons_succ])
            refine wpAnyH_take (i := 46) (oi := (⟨some 88, Op.load 27 (.tmp 87), 27, "law.go:262", #[⟨45, .data⟩, ⟨44, .guard⟩], some (44, false)⟩ : Oper)) (v := ?_) rfl (by kernel_rfl) (by kernel_rfl) (by kernel_rfl) (fun _ _ _ h => h) (Or.inl ⟨by rfl, ?_⟩) (by assumption) ?_
            rotate_left
            · intro w hSw; (try dsimp only at hSw); go_simp <;> with_reducible rfl
            (try simp only [Act.put, List.setIfInBounds_toArray, List.set_cons_zero, List.set_cons_succ])
            refine wpAnyH_take (i := 47) (oi := (⟨some 89, Op.binOp .eql 27 (.tmp 88) (.const (.int IntKind.i64 0)) 27, 4, "law.go:262", #[⟨46, .data⟩, ⟨44, .guard⟩], some (44, false)⟩ : Oper)) (v := ?_) rfl (by kernel_rfl) (by kernel_rfl) (by kernel_rfl) (fun _ _ _ h => h) (Or.inl ⟨by rfl, ?_⟩) (by assumption) ?_
            rotate_left
            · intro w hSw; (try dsimp only at hSw); go_simp <;> with_reducible rfl
            (try simp only [Act.put, List.setIfInBounds_toArray, List.set_cons_zero, List.set_cons_succ])
            refine wpAnyH_take (i := 48) (oi := (⟨some 90, Op.move (.tmp 89), 4, "law.go:262", #[⟨47, .data⟩, ⟨44, .chain⟩, ⟨44, .guard⟩], some (44, false)⟩ : Oper)) (v := ?_) rfl (by kernel_rfl) (by kernel_rfl) (by kernel_rfl) (fun _ _ _ h => h) (Or.inl ⟨by rfl, ?_⟩) (by assumption) ?_
            rotate_left
            · intro w hSw; (try dsimp only at hSw); go_simp <;> with_reducible rfl
            (try simp only [Act.put, List.setIfInBounds_toArray, List.set_cons_zero, List.set_cons_succ])
            refine wpAnyH_take (i := 49) (oi := (⟨some 91, Op.fieldAddr 29 (.tmp 13) 0, 0, "law.go:262", #[⟨48, .guard⟩], some (48, true)⟩ : Oper)) (v := undef) rfl (by kernel_rfl) (by kernel_rfl) (by kernel_rfl) (fun _ _ _ h => h) (Or.inr ⟨by rfl, rfl⟩) (by assumption) ?_
            (try simp only [Act.put, List.setIfInBounds_toArray, List.set_cons_zero, List.set_cons_succ])
            refine wpAnyH_take (i := 50) (oi := (⟨some 92, Op.load 25 (.tmp 91), 25, "law.go:262", #[⟨49, .data⟩, ⟨48, .guard⟩], some (48, true)⟩ : Oper)) (v := undef) rfl (by kernel_rfl) (by kernel_rfl) (by kernel_rfl) (fun _ _ _ h => h) (Or.inr ⟨by rfl, rfl⟩) (by assumption) ?_
            (try simp only [Act.put, List.setIfInBounds_toArray, List.set_cons_zero, List.set_cons_succ])
            refine wpAnyH_take (i := 51) (oi := (⟨some 93, Op.move (.tmp 8), 3, "law.go:262", #[⟨48, .guard⟩], some (48, true)⟩ : Oper)) (v := undef) rfl (by kernel_rfl) (by kernel_rfl) (by kernel_rfl) (fun _ _ _ h => h) (Or.inr ⟨by rfl, rfl⟩) (by assumption) ?_
            (try simp only [Act.put, List.setIfInBounds_toArray, List.set_cons_zero, List.set_cons_succ])
            refine wpAnyH_take (i := 52) (oi := (⟨some 94, Op.move (.tmp 9), 3, "law.go:262", #[⟨48, .guard⟩], some (48, true)⟩ : Oper)) (v := undef) rfl (by kernel_rfl) (by kernel_rfl) (by kernel_rfl) (fun _ _ _ h => h) (Or.inr ⟨by rfl, rfl⟩) (by assumption) ?_
            (try simp only [Act.put, List.setIfInBounds_toArray, List.set_cons_zero, List.set_cons_succ])
            refine wpAnyH_take (i := 53) (oi := (⟨some 95, Op.binOp .sub 3 (.tmp 93) (.tmp 94) 3, 3, "law.go:262", #[⟨51, .data⟩, ⟨52, .data⟩, ⟨48, .guard⟩], some (48, true)⟩ : Oper)) (v := undef) rfl (by kernel_rfl) (by kernel_rfl) (by kernel_rfl) (fun _ _ _ h => h) (Or.inr ⟨by rfl, rfl⟩) (by assumption) ?_
            (try simp only [Act.put, List.setIfInBounds_toArray, List.set_cons_zero, List.set_cons_succ])
            refine wpAnyH_take (i := 54) (oi := (⟨some 96, Op.call { callee := Callee.value (Operand.func 26), args := #[.tmp 95], argTypes := #[3] }, 25, "law.go:262", #[⟨53, .data⟩, ⟨48, .chain⟩, ⟨48, .guard⟩], some (48, true)⟩ : Oper)) (v := undef) rfl (by kernel_rfl) (by kernel_rfl) (by kernel_rfl) (fun _ _ _ h => h) (Or.inr ⟨by rfl, rfl⟩) (by assumption) ?_
            (try simp only [Act.put, List.setIfInBounds_toArray, List.set_cons_zero, List.set_cons_succ])
            refine wpAnyH_take (i := 55) (oi := (⟨some 97, Op.binOp .neq 25 (.tmp 92) (.tmp 96) 25, 4, "law.go:262", #[⟨50, .data⟩, ⟨54, .data⟩, ⟨48, .guard⟩], some (48, true)⟩ : Oper)) (v := undef) rfl (by kernel_rfl) (by kernel_rfl) (by kernel_rfl) (fun _ _ _ h => h) (Or.inr ⟨by rfl, rfl⟩) (by assumption) ?_
            (try simp only [Act.put, List.setIfInBounds_toArray, List.set_cons_zero, List.set_cons_succ])
            refine wpAnyH_take (i := 56) (oi := (⟨some 98, Op.pick (.tmp 90) (.tmp 97) (.const (.bool false)), 4, "law.go:262", #[⟨48, .data⟩, ⟨55, .data⟩, ⟨44, .guard⟩], some (44, false)⟩ : Oper)) (v := ?_) rfl (by kernel_rfl) (by kernel_rfl) (by kernel_rfl) (fun _ _ _ h => h) (Or.inl ⟨by rfl, ?_⟩) (by assumption) ?_
            rotate_left
            · intro w hSw; (try dsimp only at hSw); go_simp <;> with_reducible rfl
            (try simp only [Act.put, List.setIfInBounds_toArray, List.set_cons_zero, List.set_cons_succ])
            refine wpAnyH_take (i := 57) (oi := (⟨some 99, Op.pick (.tmp 86) (.const (.bool true)) (.tmp 98), 4, "law.go:262", #[⟨44, .data⟩, ⟨56, .data⟩], none⟩ : Oper)) (v := ?_) rfl (by kernel_rfl) (by kernel_rfl) (by kernel_rfl) (fun _ _ _ h => h) (Or.inl ⟨by rfl, ?_⟩) (by assumption) ?_
            rotate_left
            · intro w hSw; (try dsimp only at hSw); go_simp <;> with_reducible rfl
            (try simp only [Act.put, List.setIfInBounds_toArray, List.set_cons_zero, List.set_cons_succ])
            refine wpAnyH_done (by kernel_rfl) ?_ _
            go_wp2_with fail
            go_meet
            exact ⟨rfl, by assumption⟩
          · skip
            as_aux_lemma =>
            have mf0 : (mE == 0) = false := by rw [gm]; rfl
            have mf1 : decide (-62 ≤ a + b) = true := by simp; omega
            have mf2 : decide (a + b ≤ 62) = false := by simp; omega
            have df0 : (dE == 0) = false := by rw [gd]; rfl
            have df1 : decide (-62 ≤ a - b) = false := by simp; omega
            clear gm gm1 gd gd1
            refine wp_region_held_drew (S := (fun V => V.cell? ⟨v4.heap.size, 0, none⟩ = some (.int .i64 mN) ∧ V.cell? ⟨v4.heap.size, 1, none⟩ = some (.int .i64 mD) ∧ V.cell? ⟨v4.heap.size, 2, none⟩ = some (.int .i64 mE) ∧ V.cell? ⟨v5.heap.size, 0, none⟩ = some (.int .i64 dN) ∧ V.cell? ⟨v5.heap.size, 1, none⟩ = some (.int .i64 dD) ∧ V.cell? ⟨v5.heap.size, 2, none⟩ = some (.int .i64 dE) ∧ Below wD.heap.size wD V)) (by kernel_rfl) ?_ (fun hHeld => ?_)
            · with_reducible exact ⟨cell_below hsd hm0, cell_below hsd hm1, cell_below hsd hm2, cell_below hsd hd0, cell_below hsd hd1, cell_below hsd hd2, hsd⟩
            refine wpAnyH_take (i := 0) (oi := (⟨some 42, Op.fieldAddr 29 (.tmp 12) 1, 0, "law.go:262", #[], none⟩ : Oper)) (v := ?_) rfl (by kernel_rfl) (by kernel_rfl) (by kernel_rfl) (fun _ _ _ h => h) (Or.inl ⟨by rfl, ?_⟩) (by assumption) ?_
            rotate_left
            · intro w hSw; (try dsimp only at hSw); go_simp <;> with_reducible rfl
            (try simp only [Act.put, List.setIfInBounds_toArray, List.set_cons_zero, List.set_cons_succ])
            refine wpAnyH_take (i := 1) (oi := (⟨some 43, Op.load 27 (.tmp 42), 27, "law.go:262", #[⟨0, .data⟩], none⟩ : Oper)) (v := ?_) rfl (by kernel_rfl) (by kernel_rfl) (by kernel_rfl) (fun _ _ _ h => h) (Or.inl ⟨by rfl, ?_⟩) (by assumption) ?_
            rotate_left
            · intro w hSw; (try dsimp only at hSw); go_simp <;> with_reducible rfl
            (try simp only [Act.put, List.setIfInBounds_toArray, List.set_cons_zero, List.set_cons_succ])
            refine wpAnyH_take (i := 2) (oi := (⟨some 44, Op.binOp .eql 27 (.tmp 43) (.const (.int IntKind.i64 0)) 27, 4, "law.go:262", #[⟨1, .data⟩], none⟩ : Oper)) (v := ?_) rfl (by kernel_rfl) (by kernel_rfl) (by kernel_rfl) (fun _ _ _ h => h) (Or.inl ⟨by rfl, ?_⟩) (by assumption) ?_
            rotate_left
            · intro w hSw; (try dsimp only at hSw); go_simp <;> with_reducible rfl
            (try simp only [Act.put, List.setIfInBounds_toArray, List.set_cons_zero, List.set_cons_succ])
            refine wpAnyH_take (i := 3) (oi := (⟨some 45, Op.move (.tmp 8), 3, "law.go:262", #[], none⟩ : Oper)) (v := ?_) rfl (by kernel_rfl) (by kernel_rfl) (by kernel_rfl) (fun _ _ _ h => h) (Or.inl ⟨by rfl, ?_⟩) (by assumption) ?_
            rotate_left
            · intro w hSw; (try dsimp only at hSw); go_simp <;> with_reducible rfl
            (try simp only [Act.put, List.setIfInBounds_toArray, List.set_cons_zero, List.set_cons_succ])
            refine wpAnyH_take (i := 4) (oi := (⟨some 46, Op.move (.tmp 9), 3, "law.go:262", #[], none⟩ : Oper)) (v := ?_) rfl (by kernel_rfl) (by kernel_rfl) (by kernel_rfl) (fun _ _ _ h => h) (Or.inl ⟨by rfl, ?_⟩) (by assumption) ?_
            rotate_left
            · intro w hSw; (try dsimp only at hSw); go_simp <;> with_reducible rfl
            (try simp only [Act.put, List.setIfInBounds_toArray, List.set_cons_zero, List.set_cons_succ])
            refine wpAnyH_take (i := 5) (oi := (⟨some 47, Op.binOp .add 3 (.tmp 45) (.tmp 46) 3, 3, "law.go:262", #[⟨3, .data⟩, ⟨4, .data⟩], none⟩ : Oper)) (v := ?_) rfl (by kernel_rfl) (by kernel_rfl) (by kernel_rfl) (fun _ _ _ h => h) (Or.inl ⟨by rfl, ?_⟩) (by assumption) ?_
            rotate_left
            · intro w hSw; (try dsimp only at hSw); go_simp <;> with_reducible rfl
            (try simp only [Act.put, List.setIfInBounds_toArray, List.set_cons_zero, List.set_cons_succ])
            refine wpAnyH_take (i := 6) (oi := (⟨some 48, Op.binOp .geq 3 (.tmp 47) (.const (.int IntKind.i64 (-62))) 3, 4, "law.go:262", #[⟨5, .data⟩], none⟩ : Oper)) (v := ?_) rfl (by kernel_rfl) (by kernel_rfl) (by kernel_rfl) (fun _ _ _ h => h) (Or.inl ⟨by rfl, ?_⟩) (by assumption) ?_
            rotate_left
            · intro w hSw; (try dsimp only at hSw); go_simp <;> with_reducible rfl
            (try simp only [Act.put, List.setIfInBounds_toArray, List.set_cons_zero, List.set_cons_succ])
            refine wpAnyH_take (i := 7) (oi := (⟨some 49, Op.move (.tmp 48), 4, "law.go:262", #[⟨6, .data⟩], none⟩ : Oper)) (v := ?_) rfl (by kernel_rfl) (by kernel_rfl) (by kernel_rfl) (fun _ _ _ h => h) (Or.inl ⟨by rfl, ?_⟩) (by assumption) ?_
            rotate_left
            · intro w hSw; (try dsimp only at hSw); go_simp <;> with_reducible rfl
            (try simp only [Act.put, List.setIfInBounds_toArray, List.set_cons_zero, List.set_cons_succ])
            refine wpAnyH_take (i := 8) (oi := (⟨some 50, Op.move (.tmp 8), 3, "law.go:262", #[⟨7, .guard⟩], some (7, true)⟩ : Oper)) (v := ?_) rfl (by kernel_rfl) (by kernel_rfl) (by kernel_rfl) (fun _ _ _ h => h) (Or.inl ⟨by rfl, ?_⟩) (by assumption) ?_
            rotate_left
            · intro w hSw; (try dsimp only at hSw); go_simp <;> with_reducible rfl
            (try simp only [Act.put, List.setIfInBounds_toArray, List.set_cons_zero, List.set_cons_succ])
            refine wpAnyH_take (i := 9) (oi := (⟨some 51, Op.move (.tmp 9), 3, "law.go:262", #[⟨7, .guard⟩], some (7, true)⟩ : Oper)) (v := ?_) rfl (by kernel_rfl) (by kernel_rfl) (by kernel_rfl) (fun _ _ _ h => h) (Or.inl ⟨by rfl, ?_⟩) (by assumption) ?_
            rotate_left
            · intro w hSw; (try dsimp only at hSw); go_simp <;> with_reducible rfl
            (try simp only [Act.put, List.setIfInBounds_toArray, List.set_cons_zero, List.set_cons_succ])
            refine wpAnyH_take (i := 10) (oi := (⟨some 52, Op.binOp .add 3 (.tmp 50) (.tmp 51) 3, 3, "law.go:262", #[⟨8, .data⟩, ⟨9, .data⟩, ⟨7, .guard⟩], some (7, true)⟩ : Oper)) (v := ?_) rfl (by kernel_rfl) (by kernel_rfl) (by kernel_rfl) (fun _ _ _ h => h) (Or.inl ⟨by rfl, ?_⟩) (by assumption) ?_
            rotate_left
            · intro w hSw; (try dsimp only at hSw); go_simp <;> with_reducible rfl
            (try simp only [Act.put, List.setIfInBounds_toArray, List.set_cons_zero, List.set_cons_succ])
            refine wpAnyH_take (i := 11) (oi := (⟨some 53, Op.binOp .leq 3 (.tmp 52) (.const (.int IntKind.i64 62)) 3, 4, "law.go:262", #[⟨10, .data⟩, ⟨7, .guard⟩], some (7, true)⟩ : Oper)) (v := ?_) rfl (by kernel_rfl) (by kernel_rfl) (by kernel_rfl) (fun _ _ _ h => h) (Or.inl ⟨by rfl, ?_⟩) (by assumption) ?_
            rotate_left
            · intro w hSw; (try dsimp only at hSw); go_simp <;> with_reducible rfl
            (try simp only [Act.put, List.setIfInBounds_toArray, List.set_cons_zero, List.set_cons_succ])
            refine wpAnyH_take (i := 12) (oi := (⟨some 54, Op.pick (.tmp 49) (.tmp 53) (.const (.bool false)), 4, "law.go:262", #[⟨7, .data⟩, ⟨11, .data⟩], none⟩ : Oper)) (v := ?_) rfl (by kernel_rfl) (by kernel_rfl) (by kernel_rfl) (fun _ _ _ h => h) (Or.inl ⟨by rfl, ?_⟩) (by assumption) ?_
            rotate_left
            · intro w hSw; (try dsimp only at hSw); go_simp <;> with_reducible rfl
            (try simp only [Act.put, List.setIfInBounds_toArray, List.set_cons_zero, List.set_cons_succ])
            refine wpAnyH_take (i := 13) (oi := (⟨some 55, Op.binOp .neq 4 (.tmp 44) (.tmp 54) 4, 4, "law.go:262", #[⟨2, .data⟩, ⟨12, .data⟩], none⟩ : Oper)) (v := ?_) rfl (by kernel_rfl) (by kernel_rfl) (by kernel_rfl) (fun _ _ _ h => h) (Or.inl ⟨by rfl, ?_⟩) (by assumption) ?_
            rotate_left
            · intro w hSw; (try dsimp only at hSw); go_simp <;> with_reducible rfl
            (try simp only [Act.put, List.setIfInBounds_toArray, List.set_cons_zero, List.set_cons_succ])
            refine wpAnyH_take (i := 14) (oi := (⟨some 56, Op.move (.tmp 55), 4, "law.go:262", #[⟨13, .data⟩, ⟨7, .chain⟩], none⟩ : Oper)) (v := ?_) rfl (by kernel_rfl) (by kernel_rfl) (by kernel_rfl) (fun _ _ _ h => h) (Or.inl ⟨by rfl, ?_⟩) (by assumption) ?_
            rotate_left
            · intro w hSw; (try dsimp only at hSw); go_simp <;> with_reducible rfl
            (try simp only [Act.put, List.setIfInBounds_toArray, List.set_cons_zero, List.set_cons_succ])
            refine wpAnyH_take (i := 15) (oi := (⟨some 57, Op.fieldAddr 29 (.tmp 12) 1, 0, "law.go:262", #[⟨14, .guard⟩], some (14, false)⟩ : Oper)) (v := ?_) rfl (by kernel_rfl) (by kernel_rfl) (by kernel_rfl) (fun _ _ _ h => h) (Or.inl ⟨by rfl, ?_⟩) (by assumption) ?_
            rotate_left
            · intro w hSw; (try dsimp only at hSw); go_simp <;> with_reducible rfl
            (try simp only [Act.put, List.setIfInBounds_toArray, List.set_cons_zero, List.set_cons_succ])
            refine wpAnyH_take (i := 16) (oi := (⟨some 58, Op.load 27 (.tmp 57), 27, "law.go:262", #[⟨15, .data⟩, ⟨14, .guard⟩], some (14, false)⟩ : Oper)) (v := ?_) rfl (by kernel_rfl) (by kernel_rfl) (by kernel_rfl) (fun _ _ _ h => h) (Or.inl ⟨by rfl, ?_⟩) (by assumption) ?_
            rotate_left
            · intro w hSw; (try dsimp only at hSw); go_simp <;> with_reducible rfl
            (try simp only [Act.put, List.setIfInBounds_toArray, List.set_cons_zero, List.set_cons_succ])
            refine wpAnyH_take (i := 17) (oi := (⟨some 59, Op.binOp .eql 27 (.tmp 58) (.const (.int IntKind.i64 0)) 27, 4, "law.go:262", #[⟨16, .data⟩, ⟨14, .guard⟩], some (14, false)⟩ : Oper)) (v := ?_) rfl (by kernel_rfl) (by kernel_rfl) (by kernel_rfl) (fun _ _ _ h => h) (Or.inl ⟨by rfl, ?_⟩) (by assumption) ?_
            rotate_left
            · intro w hSw; (try dsimp only at hSw); go_simp <;> with_reducible rfl
            (try simp only [Act.put, List.setIfInBounds_toArray, List.set_cons_zero, List.set_cons_succ])
            refine wpAnyH_take (i := 18) (oi := (⟨some 60, Op.move (.tmp 59), 4, "law.go:262", #[⟨17, .data⟩, ⟨14, .chain⟩, ⟨14, .guard⟩], some (14, false)⟩ : Oper)) (v := ?_) rfl (by kernel_rfl) (by kernel_rfl) (by kernel_rfl) (fun _ _ _ h => h) (Or.inl ⟨by rfl, ?_⟩) (by assumption) ?_
            rotate_left
            · intro w hSw; (try dsimp only at hSw); go_simp <;> with_reducible rfl
            (try simp only [Act.put, List.setIfInBounds_toArray, List.set_cons_zero, List.set_cons_succ])
            refine wpAnyH_take (i := 19) (oi := (⟨some 61, Op.fieldAddr 29 (.tmp 12) 0, 0, "law.go:262", #[⟨18, .guard⟩], some (18, true)⟩ : Oper)) (v := undef) rfl (by kernel_rfl) (by kernel_rfl) (by kernel_rfl) (fun _ _ _ h => h) (Or.inr ⟨by rfl, rfl⟩) (by assumption) ?_
            (try simp only [Act.put, List.setIfInBounds_toArray, List.set_cons_zero, List.set_cons_succ])
            refine wpAnyH_take (i := 20) (oi := (⟨some 62, Op.load 25 (.tmp 61), 25, "law.go:262", #[⟨19, .data⟩, ⟨18, .guard⟩], some (18, true)⟩ : Oper)) (v := undef) rfl (by kernel_rfl) (by kernel_rfl) (by kernel_rfl) (fun _ _ _ h => h) (Or.inr ⟨by rfl, rfl⟩) (by assumption) ?_
            (try simp only [Act.put, List.setIfInBounds_toArray, List.set_cons_zero, List.set_cons_succ])
            refine wpAnyH_take (i := 21) (oi := (⟨some 63, Op.move (.tmp 8), 3, "law.go:262", #[⟨18, .guard⟩], some (18, true)⟩ : Oper)) (v := undef) rfl (by kernel_rfl) (by kernel_rfl) (by kernel_rfl) (fun _ _ _ h => h) (Or.inr ⟨by rfl, rfl⟩) (by assumption) ?_
            (try simp only [Act.put, List.setIfInBounds_toArray, List.set_cons_zero, List.set_cons_succ])
            refine wpAnyH_take (i := 22) (oi := (⟨some 64, Op.move (.tmp 9), 3, "law.go:262", #[⟨18, .guard⟩], some (18, true)⟩ : Oper)) (v := undef) rfl (by kernel_rfl) (by kernel_rfl) (by kernel_rfl) (fun _ _ _ h => h) (Or.inr ⟨by rfl, rfl⟩) (by assumption) ?_
            (try simp only [Act.put, List.setIfInBounds_toArray, List.set_cons_zero, List.set_cons_succ])
            refine wpAnyH_take (i := 23) (oi := (⟨some 65, Op.binOp .add 3 (.tmp 63) (.tmp 64) 3, 3, "law.go:262", #[⟨21, .data⟩, ⟨22, .data⟩, ⟨18, .guard⟩], some (18, true)⟩ : Oper)) (v := undef) rfl (by kernel_rfl) (by kernel_rfl) (by kernel_rfl) (fun _ _ _ h => h) (Or.inr ⟨by rfl, rfl⟩) (by assumption) ?_
            (try simp only [Act.put, List.setIfInBounds_toArray, List.set_cons_zero, List.set_cons_succ])
            refine wpAnyH_take (i := 24) (oi := (⟨some 66, Op.call { callee := Callee.value (Operand.func 26), args := #[.tmp 65], argTypes := #[3] }, 25, "law.go:262", #[⟨23, .data⟩, ⟨18, .chain⟩, ⟨18, .guard⟩], some (18, true)⟩ : Oper)) (v := undef) rfl (by kernel_rfl) (by kernel_rfl) (by kernel_rfl) (fun _ _ _ h => h) (Or.inr ⟨by rfl, rfl⟩) (by assumption) ?_
            (try simp only [Act.put, List.setIfInBounds_toArray, List.set_cons_zero, List.set_cons_succ])
            refine wpAnyH_take (i := 25) (oi := (⟨some 67, Op.binOp .neq 25 (.tmp 62) (.tmp 66) 25, 4, "law.go:262", #[⟨20, .data⟩, ⟨24, .data⟩, ⟨18, .guard⟩], some (18, true)⟩ : Oper)) (v := undef) rfl (by kernel_rfl) (by kernel_rfl) (by kernel_rfl) (fun _ _ _ h => h) (Or.inr ⟨by rfl, rfl⟩) (by assumption) ?_
            (try simp only [Act.put, List.setIfInBounds_toArray, List.set_cons_zero, List.set_cons_succ])
            refine wpAnyH_take (i := 26) (oi := (⟨some 68, Op.pick (.tmp 60) (.tmp 67) (.const (.bool false)), 4, "law.go:262", #[⟨18, .data⟩, ⟨25, .data⟩, ⟨14, .guard⟩], some (14, false)⟩ : Oper)) (v := ?_) rfl (by kernel_rfl) (by kernel_rfl) (by kernel_rfl) (fun _ _ _ h => h) (Or.inl ⟨by rfl, ?_⟩) (by assumption) ?_
            rotate_left
            · intro w hSw; (try dsimp only at hSw); go_simp <;> with_reducible rfl
            (try simp only [Act.put, List.setIfInBounds_toArray, List.set_cons_zero, List.set_cons_succ])
            refine wpAnyH_take (i := 27) (oi := (⟨some 69, Op.pick (.tmp 56) (.const (.bool true)) (.tmp 68), 4, "law.go:262", #[⟨14, .data⟩, ⟨26, .data⟩], none⟩ : Oper)) (v := ?_) rfl (by kernel_rfl) (by kernel_rfl) (by kernel_rfl) (fun _ _ _ h => h) (Or.inl ⟨by rfl, ?_⟩) (by assumption) ?_
            rotate_left
            · intro w hSw; (try dsimp only at hSw); go_simp <;> with_reducible rfl
            (try simp only [Act.put, List.setIfInBounds_toArray, List.set_cons_zero, List.set_cons_succ])
            refine wpAnyH_take (i := 28) (oi := (⟨some 70, Op.move (.tmp 69), 4, "law.go:262", #[⟨27, .data⟩, ⟨24, .chain⟩], none⟩ : Oper)) (v := ?_) rfl (by kernel_rfl) (by kernel_rfl) (by kernel_rfl) (fun _ _ _ h => h) (Or.inl ⟨by rfl, ?_⟩) (by assumption) ?_
            rotate_left
            · intro w hSw; (try dsimp only at hSw); go_simp <;> with_reducible rfl
            (try simp only [Act.put, List.setIfInBounds_toArray, List.set_cons_zero, List.set_cons_succ])
            refine wpAnyH_take (i := 29) (oi := (⟨some 71, Op.fieldAddr 29 (.tmp 13) 1, 0, "law.go:262", #[⟨28, .guard⟩], some (28, false)⟩ : Oper)) (v := ?_) rfl (by kernel_rfl) (by kernel_rfl) (by kernel_rfl) (fun _ _ _ h => h) (Or.inl ⟨by rfl, ?_⟩) (by assumption) ?_
            rotate_left
            · intro w hSw; (try dsimp only at hSw); go_simp <;> with_reducible rfl
            (try simp only [Act.put, List.setIfInBounds_toArray, List.set_cons_zero, List.set_cons_succ])
            refine wpAnyH_take (i := 30) (oi := (⟨some 72, Op.load 27 (.tmp 71), 27, "law.go:262", #[⟨29, .data⟩, ⟨28, .guard⟩], some (28, false)⟩ : Oper)) (v := ?_) rfl (by kernel_rfl) (by kernel_rfl) (by kernel_rfl) (fun _ _ _ h => h) (Or.inl ⟨by rfl, ?_⟩) (by assumption) ?_
            rotate_left
            · intro w hSw; (try dsimp only at hSw); go_simp <;> with_reducible rfl
            (try simp only [Act.put, List.setIfInBounds_toArray, List.set_cons_zero, List.set_cons_succ])
            refine wpAnyH_take (i := 31) (oi := (⟨some 73, Op.binOp .eql 27 (.tmp 72) (.const (.int IntKind.i64 0)) 27, 4, "law.go:262", #[⟨30, .data⟩, ⟨28, .guard⟩], some (28, false)⟩ : Oper)) (v := ?_) rfl (by kernel_rfl) (by kernel_rfl) (by kernel_rfl) (fun _ _ _ h => h) (Or.inl ⟨by rfl, ?_⟩) (by assumption) ?_
            rotate_left
            · intro w hSw; (try dsimp only at hSw); go_simp <;> with_reducible rfl
            (try simp only [Act.put, List.setIfInBounds_toArray, List.set_cons_zero, List.set_cons_succ])
            refine wpAnyH_take (i := 32) (oi := (⟨some 74, Op.move (.tmp 8), 3, "law.go:262", #[⟨28, .guard⟩], some (28, false)⟩ : Oper)) (v := ?_) rfl (by kernel_rfl) (by kernel_rfl) (by kernel_rfl) (fun _ _ _ h => h) (Or.inl ⟨by rfl, ?_⟩) (by assumption) ?_
            rotate_left
            · intro w hSw; (try dsimp only at hSw); go_simp <;> with_reducible rfl
            (try simp only [Act.put, List.setIfInBounds_toArray, List.set_cons_zero, List.set_cons_succ])
            refine wpAnyH_take (i := 33) (oi := (⟨some 75, Op.move (.tmp 9), 3, "law.go:262", #[⟨28, .guard⟩], some (28, false)⟩ : Oper)) (v := ?_) rfl (by kernel_rfl) (by kernel_rfl) (by kernel_rfl) (fun _ _ _ h => h) (Or.inl ⟨by rfl, ?_⟩) (by assumption) ?_
            rotate_left
            · intro w hSw; (try dsimp only at hSw); go_simp <;> with_reducible rfl
            (try simp only [Act.put, List.setIfInBounds_toArray, List.set_cons_zero, List.set_cons_succ])
            refine wpAnyH_take (i := 34) (oi := (⟨some 76, Op.binOp .sub 3 (.tmp 74) (.tmp 75) 3, 3, "law.go:262", #[⟨32, .data⟩, ⟨33, .data⟩, ⟨28, .guard⟩], some (28, false)⟩ : Oper)) (v := ?_) rfl (by kernel_rfl) (by kernel_rfl) (by kernel_rfl) (fun _ _ _ h => h) (Or.inl ⟨by rfl, ?_⟩) (by assumption) ?_
            rotate_left
            · intro w hSw; (try dsimp only at hSw); go_simp <;> with_reducible rfl
            (try simp only [Act.put, List.setIfInBounds_toArray, List.set_cons_zero, List.set_cons_succ])
            refine wpAnyH_take (i := 35) (oi := (⟨some 77, Op.binOp .geq 3 (.tmp 76) (.const (.int IntKind.i64 (-62))) 3, 4, "law.go:262", #[⟨34, .data⟩, ⟨28, .guard⟩], some (28, false)⟩ : Oper)) (v := ?_) rfl (by kernel_rfl) (by kernel_rfl) (by kernel_rfl) (fun _ _ _ h => h) (Or.inl ⟨by rfl, ?_⟩) (by assumption) ?_
            rotate_left
            · intro w hSw; (try dsimp only at hSw); go_simp <;> with_reducible rfl
            (try simp only [Act.put, List.setIfInBounds_toArray, List.set_cons_zero, List.set_cons_succ])
            refine wpAnyH_take (i := 36) (oi := (⟨some 78, Op.move (.tmp 77), 4, "law.go:262", #[⟨35, .data⟩, ⟨28, .chain⟩, ⟨28, .guard⟩], some (28, false)⟩ : Oper)) (v := ?_) rfl (by kernel_rfl) (by kernel_rfl) (by kernel_rfl) (fun _ _ _ h => h) (Or.inl ⟨by rfl, ?_⟩) (by assumption) ?_
            rotate_left
            · intro w hSw; (try dsimp only at hSw); go_simp <;> with_reducible rfl
            (try simp only [Act.put, List.setIfInBounds_toArray, List.set_cons_zero, List.set_cons_succ])
            refine wpAnyH_take (i := 37) (oi := (⟨some 79, Op.move (.tmp 8), 3, "law.go:262", #[⟨36, .guard⟩], some (36, true)⟩ : Oper)) (v := undef) rfl (by kernel_rfl) (by kernel_rfl) (by kernel_rfl) (fun _ _ _ h => h) (Or.inr ⟨by rfl, rfl⟩) (by assumption) ?_
            (try simp only [Act.put, List.setIfInBounds_toArray, List.set_cons_zero, List.set_cons_succ])
            refine wpAnyH_take (i := 38) (oi := (⟨some 80, Op.move (.tmp 9), 3, "law.go:262", #[⟨36, .guard⟩], some (36, true)⟩ : Oper)) (v := undef) rfl (by kernel_rfl) (by kernel_rfl) (by kernel_rfl) (fun _ _ _ h => h) (Or.inr ⟨by rfl, rfl⟩) (by assumption) ?_
            (try simp only [Act.put, List.setIfInBounds_toArray, List.set_cons_zero, List.set_cons_succ])
            refine wpAnyH_take (i := 39) (oi := (⟨some 81, Op.binOp .sub 3 (.tmp 79) (.tmp 80) 3, 3, "law.go:262", #[⟨37, .data⟩, ⟨38, .data⟩, ⟨36, .guard⟩], some (36, true)⟩ : Oper)) (v := undef) rfl (by kernel_rfl) (by kernel_rfl) (by kernel_rfl) (fun _ _ _ h => h) (Or.inr ⟨by rfl, rfl⟩) (by assumption) ?_
            (try simp only [Act.put, List.setIfInBounds_toArray, List.set_cons_zero, List.set_cons_succ])
            refine wpAnyH_take (i := 40) (oi := (⟨some 82, Op.binOp .leq 3 (.tmp 81) (.const (.int IntKind.i64 62)) 3, 4, "law.go:262", #[⟨39, .data⟩, ⟨36, .guard⟩], some (36, true)⟩ : Oper)) (v := undef) rfl (by kernel_rfl) (by kernel_rfl) (by kernel_rfl) (fun _ _ _ h => h) (Or.inr ⟨by rfl, rfl⟩) (by assumption) ?_
            (try simp only [Act.put, List.setIfInBounds_toArray, List.set_cons_zero, List.set_cons_succ])
            refine wpAnyH_take (i := 41) (oi := (⟨some 83, Op.pick (.tmp 78) (.tmp 82) (.const (.bool false)), 4, "law.go:262", #[⟨36, .data⟩, ⟨40, .data⟩, ⟨28, .guard⟩], some (28, false)⟩ : Oper)) (v := ?_) rfl (by kernel_rfl) (by kernel_rfl) (by kernel_rfl) (fun _ _ _ h => h) (Or.inl ⟨by rfl, ?_⟩) (by assumption) ?_
            rotate_left
            · intro w hSw; (try dsimp only at hSw); go_simp <;> with_reducible rfl
            (try simp only [Act.put, List.setIfInBounds_toArray, List.set_cons_zero, List.set_cons_succ])
            refine wpAnyH_take (i := 42) (oi := (⟨some 84, Op.binOp .neq 4 (.tmp 73) (.tmp 83) 4, 4, "law.go:262", #[⟨31, .data⟩, ⟨41, .data⟩, ⟨28, .guard⟩], some (28, false)⟩ : Oper)) (v := ?_) rfl (by kernel_rfl) (by kernel_rfl) (by kernel_rfl) (fun _ _ _ h => h) (Or.inl ⟨by rfl, ?_⟩) (by assumption) ?_
            rotate_left
            · intro w hSw; (try dsimp only at hSw); go_simp <;> with_reducible rfl
            (try simp only [Act.put, List.setIfInBounds_toArray, List.set_cons_zero, List.set_cons_succ])
            refine wpAnyH_take (i := 43) (oi := (⟨some 85, Op.pick (.tmp 70) (.const (.bool true)) (.tmp 84), 4, "law.go:262", #[⟨28, .data⟩, ⟨42, .data⟩], none⟩ : Oper)) (v := ?_) rfl (by kernel_rfl) (by kernel_rfl) (by kernel_rfl) (fun _ _ _ h => h) (Or.inl ⟨by rfl, ?_⟩) (by assumption) ?_
            rotate_left
            · intro w hSw; (try dsimp only at hSw); go_simp <;> with_reducible rfl
            (try simp only [Act.put, List.setIfInBounds_toArray, List.set_cons_zero, List.set_cons_succ])
            refine wpAnyH_take (i := 44) (oi := (⟨some 86, Op.move (.tmp 85), 4, "law.go:262", #[⟨43, .data⟩, ⟨36, .chain⟩], none⟩ : Oper)) (v := ?_) rfl (by kernel_rfl) (by kernel_rfl) (by kernel_rfl) (fun _ _ _ h => h) (Or.inl ⟨by rfl, ?_⟩) (by assumption) ?_
            rotate_left
            · intro w hSw; (try dsimp only at hSw); go_simp <;> with_reducible rfl
            (try simp only [Act.put, List.setIfInBounds_toArray, List.set_cons_zero, List.set_cons_succ])
            refine wpAnyH_take (i := 45) (oi := (⟨some 87, Op.fieldAddr 29 (.tmp 13) 1, 0, "law.go:262", #[⟨44, .guard⟩], some (44, false)⟩ : Oper)) (v := ?_) rfl (by kernel_rfl) (by kernel_rfl) (by kernel_rfl) (fun _ _ _ h => h) (Or.inl ⟨by rfl, ?_⟩) (by assumption) ?_
            rotate_left
            · intro w hSw; (try dsimp only at hSw); go_simp <;> with_reducible rfl
            (try simp only [Act.put, List.setIfInBounds_toArray, List.set_cons_zero, List.set_cons_succ])
            refine wpAnyH_take (i := 46) (oi := (⟨some 88, Op.load 27 (.tmp 87), 27, "law.go:262", #[⟨45, .data⟩, ⟨44, .guard⟩], some (44, false)⟩ : Oper)) (v := ?_) rfl (by kernel_rfl) (by kernel_rfl) (by kernel_rfl) (fun _ _ _ h => h) (Or.inl ⟨by rfl, ?_⟩) (by assumption) ?_
            rotate_left
            · intro w hSw; (try dsimp only at hSw); go_simp <;> with_reducible rfl
            (try simp only [Act.put, List.setIfInBounds_toArray, List.set_cons_zero, List.set_cons_succ])
            refine wpAnyH_take (i := 47) (oi := (⟨some 89, Op.binOp .eql 27 (.tmp 88) (.const (.int IntKind.i64 0)) 27, 4, "law.go:262", #[⟨46, .data⟩, ⟨44, .guard⟩], some (44, false)⟩ : Oper)) (v := ?_) rfl (by kernel_rfl) (by kernel_rfl) (by kernel_rfl) (fun _ _ _ h => h) (Or.inl ⟨by rfl, ?_⟩) (by assumption) ?_
            rotate_left
            · intro w hSw; (try dsimp only at hSw); go_simp <;> with_reducible rfl
            (try simp only [Act.put, List.setIfInBounds_toArray, List.set_cons_zero, List.set_cons_succ])
            refine wpAnyH_take (i := 48) (oi := (⟨some 90, Op.move (.tmp 89), 4, "law.go:262", #[⟨47, .data⟩, ⟨44, .chain⟩, ⟨44, .guard⟩], some (44, false)⟩ : Oper)) (v := ?_) rfl (by kernel_rfl) (by kernel_rfl) (by kernel_rfl) (fun _ _ _ h => h) (Or.inl ⟨by rfl, ?_⟩) (by assumption) ?_
            rotate_left
            · intro w hSw; (try dsimp only at hSw); go_simp <;> with_reducible rfl
            (try simp only [Act.put, List.setIfInBounds_toArray, List.set_cons_zero, List.set_cons_succ])
            refine wpAnyH_take (i := 49) (oi := (⟨some 91, Op.fieldAddr 29 (.tmp 13) 0, 0, "law.go:262", #[⟨48, .guard⟩], some (48, true)⟩ : Oper)) (v := undef) rfl (by kernel_rfl) (by kernel_rfl) (by kernel_rfl) (fun _ _ _ h => h) (Or.inr ⟨by rfl, rfl⟩) (by assumption) ?_
            (try simp only [Act.put, List.setIfInBounds_toArray, List.set_cons_zero, List.set_cons_succ])
            refine wpAnyH_take (i := 50) (oi := (⟨some 92, Op.load 25 (.tmp 91), 25, "law.go:262", #[⟨49, .data⟩, ⟨48, .guard⟩], some (48, true)⟩ : Oper)) (v := undef) rfl (by kernel_rfl) (by kernel_rfl) (by kernel_rfl) (fun _ _ _ h => h) (Or.inr ⟨by rfl, rfl⟩) (by assumption) ?_
            (try simp only [Act.put, List.setIfInBounds_toArray, List.set_cons_zero, List.set_cons_succ])
            refine wpAnyH_take (i := 51) (oi := (⟨some 93, Op.move (.tmp 8), 3, "law.go:262", #[⟨48, .guard⟩], some (48, true)⟩ : Oper)) (v := undef) rfl (by kernel_rfl) (by kernel_rfl) (by kernel_rfl) (fun _ _ _ h => h) (Or.inr ⟨by rfl, rfl⟩) (by assumption) ?_
            (try simp only [Act.put, List.setIfInBounds_toArray, List.set_cons_zero, List.set_cons_succ])
            refine wpAnyH_take (i := 52) (oi := (⟨some 94, Op.move (.tmp 9), 3, "law.go:262", #[⟨48, .guard⟩], some (48, true)⟩ : Oper)) (v := undef) rfl (by kernel_rfl) (by kernel_rfl) (by kernel_rfl) (fun _ _ _ h => h) (Or.inr ⟨by rfl, rfl⟩) (by assumption) ?_
            (try simp only [Act.put, List.setIfInBounds_toArray, List.set_cons_zero, List.set_cons_succ])
            refine wpAnyH_take (i := 53) (oi := (⟨some 95, Op.binOp .sub 3 (.tmp 93) (.tmp 94) 3, 3, "law.go:262", #[⟨51, .data⟩, ⟨52, .data⟩, ⟨48, .guard⟩], some (48, true)⟩ : Oper)) (v := undef) rfl (by kernel_rfl) (by kernel_rfl) (by kernel_rfl) (fun _ _ _ h => h) (Or.inr ⟨by rfl, rfl⟩) (by assumption) ?_
            (try simp only [Act.put, List.setIfInBounds_toArray, List.set_cons_zero, List.set_cons_succ])
            refine wpAnyH_take (i := 54) (oi := (⟨some 96, Op.call { callee := Callee.value (Operand.func 26), args := #[.tmp 95], argTypes := #[3] }, 25, "law.go:262", #[⟨53, .data⟩, ⟨48, .chain⟩, ⟨48, .guard⟩], some (48, true)⟩ : Oper)) (v := undef) rfl (by kernel_rfl) (by kernel_rfl) (by kernel_rfl) (fun _ _ _ h => h) (Or.inr ⟨by rfl, rfl⟩) (by assumption) ?_
            (try simp only [Act.put, List.setIfInBounds_toArray, List.set_cons_zero, List.set_cons_succ])
            refine wpAnyH_take (i := 55) (oi := (⟨some 97, Op.binOp .neq 25 (.tmp 92) (.tmp 96) 25, 4, "law.go:262", #[⟨50, .data⟩, ⟨54, .data⟩, ⟨48, .guard⟩], some (48, true)⟩ : Oper)) (v := undef) rfl (by kernel_rfl) (by kernel_rfl) (by kernel_rfl) (fun _ _ _ h => h) (Or.inr ⟨by rfl, rfl⟩) (by assumption) ?_
            (try simp only [Act.put, List.setIfInBounds_toArray, List.set_cons_zero, List.set_cons_succ])
            refine wpAnyH_take (i := 56) (oi := (⟨some 98, Op.pick (.tmp 90) (.tmp 97) (.const (.bool false)), 4, "law.go:262", #[⟨48, .data⟩, ⟨55, .data⟩, ⟨44, .guard⟩], some (44, false)⟩ : Oper)) (v := ?_) rfl (by kernel_rfl) (by kernel_rfl) (by kernel_rfl) (fun _ _ _ h => h) (Or.inl ⟨by rfl, ?_⟩) (by assumption) ?_
            rotate_left
            · intro w hSw; (try dsimp only at hSw); go_simp <;> with_reducible rfl
            (try simp only [Act.put, List.setIfInBounds_toArray, List.set_cons_zero, List.set_cons_succ])
            refine wpAnyH_take (i := 57) (oi := (⟨some 99, Op.pick (.tmp 86) (.const (.bool true)) (.tmp 98), 4, "law.go:262", #[⟨44, .data⟩, ⟨56, .data⟩], none⟩ : Oper)) (v := ?_) rfl (by kernel_rfl) (by kernel_rfl) (by kernel_rfl) (fun _ _ _ h => h) (Or.inl ⟨by rfl, ?_⟩) (by assumption) ?_
            rotate_left
            · intro w hSw; (try dsimp only at hSw); go_simp <;> with_reducible rfl
            (try simp only [Act.put, List.setIfInBounds_toArray, List.set_cons_zero, List.set_cons_succ])
            refine wpAnyH_done (by kernel_rfl) ?_ _
            go_wp2_with fail
            go_meet
            exact ⟨rfl, by assumption⟩
      · skip
        rcases UD.out with ⟨gd, gd1, gd2, gd3, gd4⟩ | ⟨gd, gd1⟩
        · skip
          as_aux_lemma =>
          have mf0 : (mE == 0) = false := by rw [gm]; rfl
          have mf1 : decide (-62 ≤ a + b) = false := by simp; omega
          have df0 : (dE == 0) = true := by rw [gd]; rfl
          have df1 : decide (-62 ≤ a - b) = true := by simp; omega
          have df2 : decide (a - b ≤ 62) = true := by simp; omega
          have CD0 := PD.out gd1 gd2
          rw [← gd3, ← gd4] at CD0
          have CD := hid CD0
          clear CD0
          clear gm gm1 gd gd1 gd2 gd3 gd4
          refine wp_region_held_drew (S := (fun V => V.cell? ⟨v4.heap.size, 0, none⟩ = some (.int .i64 mN) ∧ V.cell? ⟨v4.heap.size, 1, none⟩ = some (.int .i64 mD) ∧ V.cell? ⟨v4.heap.size, 2, none⟩ = some (.int .i64 mE) ∧ V.cell? ⟨v5.heap.size, 0, none⟩ = some (.int .i64 dN) ∧ V.cell? ⟨v5.heap.size, 1, none⟩ = some (.int .i64 dD) ∧ V.cell? ⟨v5.heap.size, 2, none⟩ = some (.int .i64 dE) ∧ Below wD.heap.size wD V)) (by kernel_rfl) ?_ (fun hHeld => ?_)
          · with_reducible exact ⟨cell_below hsd hm0, cell_below hsd hm1, cell_below hsd hm2, cell_below hsd hd0, cell_below hsd hd1, cell_below hsd hd2, hsd⟩
          refine wpAnyH_take (i := 0) (oi := (⟨some 42, Op.fieldAddr 29 (.tmp 12) 1, 0, "law.go:262", #[], none⟩ : Oper)) (v := ?_) rfl (by kernel_rfl) (by kernel_rfl) (by kernel_rfl) (fun _ _ _ h => h) (Or.inl ⟨by rfl, ?_⟩) (by assumption) ?_
          rotate_left
          · intro w hSw; (try dsimp only at hSw); go_simp <;> with_reducible rfl
          (try simp only [Act.put, List.setIfInBounds_toArray, List.set_cons_zero, List.set_cons_succ])
          refine wpAnyH_take (i := 1) (oi := (⟨some 43, Op.load 27 (.tmp 42), 27, "law.go:262", #[⟨0, .data⟩], none⟩ : Oper)) (v := ?_) rfl (by kernel_rfl) (by kernel_rfl) (by kernel_rfl) (fun _ _ _ h => h) (Or.inl ⟨by rfl, ?_⟩) (by assumption) ?_
          rotate_left
          · intro w hSw; (try dsimp only at hSw); go_simp <;> with_reducible rfl
          (try simp only [Act.put, List.setIfInBounds_toArray, List.set_cons_zero, List.set_cons_succ])
          refine wpAnyH_take (i := 2) (oi := (⟨some 44, Op.binOp .eql 27 (.tmp 43) (.const (.int IntKind.i64 0)) 27, 4, "law.go:262", #[⟨1, .data⟩], none⟩ : Oper)) (v := ?_) rfl (by kernel_rfl) (by kernel_rfl) (by kernel_rfl) (fun _ _ _ h => h) (Or.inl ⟨by rfl, ?_⟩) (by assumption) ?_
          rotate_left
          · intro w hSw; (try dsimp only at hSw); go_simp <;> with_reducible rfl
          (try simp only [Act.put, List.setIfInBounds_toArray, List.set_cons_zero, List.set_cons_succ])
          refine wpAnyH_take (i := 3) (oi := (⟨some 45, Op.move (.tmp 8), 3, "law.go:262", #[], none⟩ : Oper)) (v := ?_) rfl (by kernel_rfl) (by kernel_rfl) (by kernel_rfl) (fun _ _ _ h => h) (Or.inl ⟨by rfl, ?_⟩) (by assumption) ?_
          rotate_left
          · intro w hSw; (try dsimp only at hSw); go_simp <;> with_reducible rfl
          (try simp only [Act.put, List.setIfInBounds_toArray, List.set_cons_zero, List.set_cons_succ])
          refine wpAnyH_take (i := 4) (oi := (⟨some 46, Op.move (.tmp 9), 3, "law.go:262", #[], none⟩ : Oper)) (v := ?_) rfl (by kernel_rfl) (by kernel_rfl) (by kernel_rfl) (fun _ _ _ h => h) (Or.inl ⟨by rfl, ?_⟩) (by assumption) ?_
          rotate_left
          · intro w hSw; (try dsimp only at hSw); go_simp <;> with_reducible rfl
          (try simp only [Act.put, List.setIfInBounds_toArray, List.set_cons_zero, List.set_cons_succ])
          refine wpAnyH_take (i := 5) (oi := (⟨some 47, Op.binOp .add 3 (.tmp 45) (.tmp 46) 3, 3, "law.go:262", #[⟨3, .data⟩, ⟨4, .data⟩], none⟩ : Oper)) (v := ?_) rfl (by kernel_rfl) (by kernel_rfl) (by kernel_rfl) (fun _ _ _ h => h) (Or.inl ⟨by rfl, ?_⟩) (by assumption) ?_
          rotate_left
          · intro w hSw; (try dsimp only at hSw); go_simp <;> with_reducible rfl
          (try simp only [Act.put, List.setIfInBounds_toArray, List.set_cons_zero, List.set_cons_succ])
          refine wpAnyH_take (i := 6) (oi := (⟨some 48, Op.binOp .geq 3 (.tmp 47) (.const (.int IntKind.i64 (-62))) 3, 4, "law.go:262", #[⟨5, .data⟩], none⟩ : Oper)) (v := ?_) rfl (by kernel_rfl) (by kernel_rfl) (by kernel_rfl) (fun _ _ _ h => h) (Or.inl ⟨by rfl, ?_⟩) (by assumption) ?_
          rotate_left
          · intro w hSw; (try dsimp only at hSw); go_simp <;> with_reducible rfl
          (try simp only [Act.put, List.setIfInBounds_toArray, List.set_cons_zero, List.set_cons_succ])
          refine wpAnyH_take (i := 7) (oi := (⟨some 49, Op.move (.tmp 48), 4, "law.go:262", #[⟨6, .data⟩], none⟩ : Oper)) (v := ?_) rfl (by kernel_rfl) (by kernel_rfl) (by kernel_rfl) (fun _ _ _ h => h) (Or.inl ⟨by rfl, ?_⟩) (by assumption) ?_
          rotate_left
          · intro w hSw; (try dsimp only at hSw); go_simp <;> with_reducible rfl
          (try simp only [Act.put, List.setIfInBounds_toArray, List.set_cons_zero, List.set_cons_succ])
          refine wpAnyH_take (i := 8) (oi := (⟨some 50, Op.move (.tmp 8), 3, "law.go:262", #[⟨7, .guard⟩], some (7, true)⟩ : Oper)) (v := undef) rfl (by kernel_rfl) (by kernel_rfl) (by kernel_rfl) (fun _ _ _ h => h) (Or.inr ⟨by rfl, rfl⟩) (by assumption) ?_
          (try simp only [Act.put, List.setIfInBounds_toArray, List.set_cons_zero, List.set_cons_succ])
          refine wpAnyH_take (i := 9) (oi := (⟨some 51, Op.move (.tmp 9), 3, "law.go:262", #[⟨7, .guard⟩], some (7, true)⟩ : Oper)) (v := undef) rfl (by kernel_rfl) (by kernel_rfl) (by kernel_rfl) (fun _ _ _ h => h) (Or.inr ⟨by rfl, rfl⟩) (by assumption) ?_
          (try simp only [Act.put, List.setIfInBounds_toArray, List.set_cons_zero, List.set_cons_succ])
          refine wpAnyH_take (i := 10) (oi := (⟨some 52, Op.binOp .add 3 (.tmp 50) (.tmp 51) 3, 3, "law.go:262", #[⟨8, .data⟩, ⟨9, .data⟩, ⟨7, .guard⟩], some (7, true)⟩ : Oper)) (v := undef) rfl (by kernel_rfl) (by kernel_rfl) (by kernel_rfl) (fun _ _ _ h => h) (Or.inr ⟨by rfl, rfl⟩) (by assumption) ?_
          (try simp only [Act.put, List.setIfInBounds_toArray, List.set_cons_zero, List.set_cons_succ])
          refine wpAnyH_take (i := 11) (oi := (⟨some 53, Op.binOp .leq 3 (.tmp 52) (.const (.int IntKind.i64 62)) 3, 4, "law.go:262", #[⟨10, .data⟩, ⟨7, .guard⟩], some (7, true)⟩ : Oper)) (v := undef) rfl (by kernel_rfl) (by kernel_rfl) (by kernel_rfl) (fun _ _ _ h => h) (Or.inr ⟨by rfl, rfl⟩) (by assumption) ?_
          (try simp only [Act.put, List.setIfInBounds_toArray, List.set_cons_zero, List.set_cons_succ])
          refine wpAnyH_take (i := 12) (oi := (⟨some 54, Op.pick (.tmp 49) (.tmp 53) (.const (.bool false)), 4, "law.go:262", #[⟨7, .data⟩, ⟨11, .data⟩], none⟩ : Oper)) (v := ?_) rfl (by kernel_rfl) (by kernel_rfl) (by kernel_rfl) (fun _ _ _ h => h) (Or.inl ⟨by rfl, ?_⟩) (by assumption) ?_
          rotate_left
          · intro w hSw; (try dsimp only at hSw); go_simp <;> with_reducible rfl
          (try simp only [Act.put, List.setIfInBounds_toArray, List.set_cons_zero, List.set_cons_succ])
          refine wpAnyH_take (i := 13) (oi := (⟨some 55, Op.binOp .neq 4 (.tmp 44) (.tmp 54) 4, 4, "law.go:262", #[⟨2, .data⟩, ⟨12, .data⟩], none⟩ : Oper)) (v := ?_) rfl (by kernel_rfl) (by kernel_rfl) (by kernel_rfl) (fun _ _ _ h => h) (Or.inl ⟨by rfl, ?_⟩) (by assumption) ?_
          rotate_left
          · intro w hSw; (try dsimp only at hSw); go_simp <;> with_reducible rfl
          (try simp only [Act.put, List.setIfInBounds_toArray, List.set_cons_zero, List.set_cons_succ])
          refine wpAnyH_take (i := 14) (oi := (⟨some 56, Op.move (.tmp 55), 4, "law.go:262", #[⟨13, .data⟩, ⟨7, .chain⟩], none⟩ : Oper)) (v := ?_) rfl (by kernel_rfl) (by kernel_rfl) (by kernel_rfl) (fun _ _ _ h => h) (Or.inl ⟨by rfl, ?_⟩) (by assumption) ?_
          rotate_left
          · intro w hSw; (try dsimp only at hSw); go_simp <;> with_reducible rfl
          (try simp only [Act.put, List.setIfInBounds_toArray, List.set_cons_zero, List.set_cons_succ])
          refine wpAnyH_take (i := 15) (oi := (⟨some 57, Op.fieldAddr 29 (.tmp 12) 1, 0, "law.go:262", #[⟨14, .guard⟩], some (14, false)⟩ : Oper)) (v := ?_) rfl (by kernel_rfl) (by kernel_rfl) (by kernel_rfl) (fun _ _ _ h => h) (Or.inl ⟨by rfl, ?_⟩) (by assumption) ?_
          rotate_left
          · intro w hSw; (try dsimp only at hSw); go_simp <;> with_reducible rfl
          (try simp only [Act.put, List.setIfInBounds_toArray, List.set_cons_zero, List.set_cons_succ])
          refine wpAnyH_take (i := 16) (oi := (⟨some 58, Op.load 27 (.tmp 57), 27, "law.go:262", #[⟨15, .data⟩, ⟨14, .guard⟩], some (14, false)⟩ : Oper)) (v := ?_) rfl (by kernel_rfl) (by kernel_rfl) (by kernel_rfl) (fun _ _ _ h => h) (Or.inl ⟨by rfl, ?_⟩) (by assumption) ?_
          rotate_left
          · intro w hSw; (try dsimp only at hSw); go_simp <;> with_reducible rfl
          (try simp only [Act.put, List.setIfInBounds_toArray, List.set_cons_zero, List.set_cons_succ])
          refine wpAnyH_take (i := 17) (oi := (⟨some 59, Op.binOp .eql 27 (.tmp 58) (.const (.int IntKind.i64 0)) 27, 4, "law.go:262", #[⟨16, .data⟩, ⟨14, .guard⟩], some (14, false)⟩ : Oper)) (v := ?_) rfl (by kernel_rfl) (by kernel_rfl) (by kernel_rfl) (fun _ _ _ h => h) (Or.inl ⟨by rfl, ?_⟩) (by assumption) ?_
          rotate_left
          · intro w hSw; (try dsimp only at hSw); go_simp <;> with_reducible rfl
          (try simp only [Act.put, List.setIfInBounds_toArray, List.set_cons_zero, List.set_cons_succ])
          refine wpAnyH_take (i := 18) (oi := (⟨some 60, Op.move (.tmp 59), 4, "law.go:262", #[⟨17, .data⟩, ⟨14, .chain⟩, ⟨14, .guard⟩], some (14, false)⟩ : Oper)) (v := ?_) rfl (by kernel_rfl) (by kernel_rfl) (by kernel_rfl) (fun _ _ _ h => h) (Or.inl ⟨by rfl, ?_⟩) (by assumption) ?_
          rotate_left
          · intro w hSw; (try dsimp only at hSw); go_simp <;> with_reducible rfl
          (try simp only [Act.put, List.setIfInBounds_toArray, List.set_cons_zero, List.set_cons_succ])
          refine wpAnyH_take (i := 19) (oi := (⟨some 61, Op.fieldAddr 29 (.tmp 12) 0, 0, "law.go:262", #[⟨18, .guard⟩], some (18, true)⟩ : Oper)) (v := undef) rfl (by kernel_rfl) (by kernel_rfl) (by kernel_rfl) (fun _ _ _ h => h) (Or.inr ⟨by rfl, rfl⟩) (by assumption) ?_
          (try simp only [Act.put, List.setIfInBounds_toArray, List.set_cons_zero, List.set_cons_succ])
          refine wpAnyH_take (i := 20) (oi := (⟨some 62, Op.load 25 (.tmp 61), 25, "law.go:262", #[⟨19, .data⟩, ⟨18, .guard⟩], some (18, true)⟩ : Oper)) (v := undef) rfl (by kernel_rfl) (by kernel_rfl) (by kernel_rfl) (fun _ _ _ h => h) (Or.inr ⟨by rfl, rfl⟩) (by assumption) ?_
          (try simp only [Act.put, List.setIfInBounds_toArray, List.set_cons_zero, List.set_cons_succ])
          refine wpAnyH_take (i := 21) (oi := (⟨some 63, Op.move (.tmp 8), 3, "law.go:262", #[⟨18, .guard⟩], some (18, true)⟩ : Oper)) (v := undef) rfl (by kernel_rfl) (by kernel_rfl) (by kernel_rfl) (fun _ _ _ h => h) (Or.inr ⟨by rfl, rfl⟩) (by assumption) ?_
          (try simp only [Act.put, List.setIfInBounds_toArray, List.set_cons_zero, List.set_cons_succ])
          refine wpAnyH_take (i := 22) (oi := (⟨some 64, Op.move (.tmp 9), 3, "law.go:262", #[⟨18, .guard⟩], some (18, true)⟩ : Oper)) (v := undef) rfl (by kernel_rfl) (by kernel_rfl) (by kernel_rfl) (fun _ _ _ h => h) (Or.inr ⟨by rfl, rfl⟩) (by assumption) ?_
          (try simp only [Act.put, List.setIfInBounds_toArray, List.set_cons_zero, List.set_cons_succ])
          refine wpAnyH_take (i := 23) (oi := (⟨some 65, Op.binOp .add 3 (.tmp 63) (.tmp 64) 3, 3, "law.go:262", #[⟨21, .data⟩, ⟨22, .data⟩, ⟨18, .guard⟩], some (18, true)⟩ : Oper)) (v := undef) rfl (by kernel_rfl) (by kernel_rfl) (by kernel_rfl) (fun _ _ _ h => h) (Or.inr ⟨by rfl, rfl⟩) (by assumption) ?_
          (try simp only [Act.put, List.setIfInBounds_toArray, List.set_cons_zero, List.set_cons_succ])
          refine wpAnyH_take (i := 24) (oi := (⟨some 66, Op.call { callee := Callee.value (Operand.func 26), args := #[.tmp 65], argTypes := #[3] }, 25, "law.go:262", #[⟨23, .data⟩, ⟨18, .chain⟩, ⟨18, .guard⟩], some (18, true)⟩ : Oper)) (v := undef) rfl (by kernel_rfl) (by kernel_rfl) (by kernel_rfl) (fun _ _ _ h => h) (Or.inr ⟨by rfl, rfl⟩) (by assumption) ?_
          (try simp only [Act.put, List.setIfInBounds_toArray, List.set_cons_zero, List.set_cons_succ])
          refine wpAnyH_take (i := 25) (oi := (⟨some 67, Op.binOp .neq 25 (.tmp 62) (.tmp 66) 25, 4, "law.go:262", #[⟨20, .data⟩, ⟨24, .data⟩, ⟨18, .guard⟩], some (18, true)⟩ : Oper)) (v := undef) rfl (by kernel_rfl) (by kernel_rfl) (by kernel_rfl) (fun _ _ _ h => h) (Or.inr ⟨by rfl, rfl⟩) (by assumption) ?_
          (try simp only [Act.put, List.setIfInBounds_toArray, List.set_cons_zero, List.set_cons_succ])
          refine wpAnyH_take (i := 26) (oi := (⟨some 68, Op.pick (.tmp 60) (.tmp 67) (.const (.bool false)), 4, "law.go:262", #[⟨18, .data⟩, ⟨25, .data⟩, ⟨14, .guard⟩], some (14, false)⟩ : Oper)) (v := ?_) rfl (by kernel_rfl) (by kernel_rfl) (by kernel_rfl) (fun _ _ _ h => h) (Or.inl ⟨by rfl, ?_⟩) (by assumption) ?_
          rotate_left
          · intro w hSw; (try dsimp only at hSw); go_simp <;> with_reducible rfl
          (try simp only [Act.put, List.setIfInBounds_toArray, List.set_cons_zero, List.set_cons_succ])
          refine wpAnyH_take (i := 27) (oi := (⟨some 69, Op.pick (.tmp 56) (.const (.bool true)) (.tmp 68), 4, "law.go:262", #[⟨14, .data⟩, ⟨26, .data⟩], none⟩ : Oper)) (v := ?_) rfl (by kernel_rfl) (by kernel_rfl) (by kernel_rfl) (fun _ _ _ h => h) (Or.inl ⟨by rfl, ?_⟩) (by assumption) ?_
          rotate_left
          · intro w hSw; (try dsimp only at hSw); go_simp <;> with_reducible rfl
          (try simp only [Act.put, List.setIfInBounds_toArray, List.set_cons_zero, List.set_cons_succ])
          refine wpAnyH_take (i := 28) (oi := (⟨some 70, Op.move (.tmp 69), 4, "law.go:262", #[⟨27, .data⟩, ⟨24, .chain⟩], none⟩ : Oper)) (v := ?_) rfl (by kernel_rfl) (by kernel_rfl) (by kernel_rfl) (fun _ _ _ h => h) (Or.inl ⟨by rfl, ?_⟩) (by assumption) ?_
          rotate_left
          · intro w hSw; (try dsimp only at hSw); go_simp <;> with_reducible rfl
          (try simp only [Act.put, List.setIfInBounds_toArray, List.set_cons_zero, List.set_cons_succ])
          refine wpAnyH_take (i := 29) (oi := (⟨some 71, Op.fieldAddr 29 (.tmp 13) 1, 0, "law.go:262", #[⟨28, .guard⟩], some (28, false)⟩ : Oper)) (v := ?_) rfl (by kernel_rfl) (by kernel_rfl) (by kernel_rfl) (fun _ _ _ h => h) (Or.inl ⟨by rfl, ?_⟩) (by assumption) ?_
          rotate_left
          · intro w hSw; (try dsimp only at hSw); go_simp <;> with_reducible rfl
          (try simp only [Act.put, List.setIfInBounds_toArray, List.set_cons_zero, List.set_cons_succ])
          refine wpAnyH_take (i := 30) (oi := (⟨some 72, Op.load 27 (.tmp 71), 27, "law.go:262", #[⟨29, .data⟩, ⟨28, .guard⟩], some (28, false)⟩ : Oper)) (v := ?_) rfl (by kernel_rfl) (by kernel_rfl) (by kernel_rfl) (fun _ _ _ h => h) (Or.inl ⟨by rfl, ?_⟩) (by assumption) ?_
          rotate_left
          · intro w hSw; (try dsimp only at hSw); go_simp <;> with_reducible rfl
          (try simp only [Act.put, List.setIfInBounds_toArray, List.set_cons_zero, List.set_cons_succ])
          refine wpAnyH_take (i := 31) (oi := (⟨some 73, Op.binOp .eql 27 (.tmp 72) (.const (.int IntKind.i64 0)) 27, 4, "law.go:262", #[⟨30, .data⟩, ⟨28, .guard⟩], some (28, false)⟩ : Oper)) (v := ?_) rfl (by kernel_rfl) (by kernel_rfl) (by kernel_rfl) (fun _ _ _ h => h) (Or.inl ⟨by rfl, ?_⟩) (by assumption) ?_
          rotate_left
          · intro w hSw; (try dsimp only at hSw); go_simp <;> with_reducible rfl
          (try simp only [Act.put, List.setIfInBounds_toArray, List.set_cons_zero, List.set_cons_succ])
          refine wpAnyH_take (i := 32) (oi := (⟨some 74, Op.move (.tmp 8), 3, "law.go:262", #[⟨28, .guard⟩], some (28, false)⟩ : Oper)) (v := ?_) rfl (by kernel_rfl) (by kernel_rfl) (by kernel_rfl) (fun _ _ _ h => h) (Or.inl ⟨by rfl, ?_⟩) (by assumption) ?_
          rotate_left
          · intro w hSw; (try dsimp only at hSw); go_simp <;> with_reducible rfl
          (try simp only [Act.put, List.setIfInBounds_toArray, List.set_cons_zero, List.set_cons_succ])
          refine wpAnyH_take (i := 33) (oi := (⟨some 75, Op.move (.tmp 9), 3, "law.go:262", #[⟨28, .guard⟩], some (28, false)⟩ : Oper)) (v := ?_) rfl (by kernel_rfl) (by kernel_rfl) (by kernel_rfl) (fun _ _ _ h => h) (Or.inl ⟨by rfl, ?_⟩) (by assumption) ?_
          rotate_left
          · intro w hSw; (try dsimp only at hSw); go_simp <;> with_reducible rfl
          (try simp only [Act.put, List.setIfInBounds_toArray, List.set_cons_zero, List.set_cons_succ])
          refine wpAnyH_take (i := 34) (oi := (⟨some 76, Op.binOp .sub 3 (.tmp 74) (.tmp 75) 3, 3, "law.go:262", #[⟨32, .data⟩, ⟨33, .data⟩, ⟨28, .guard⟩], some (28, false)⟩ : Oper)) (v := ?_) rfl (by kernel_rfl) (by kernel_rfl) (by kernel_rfl) (fun _ _ _ h => h) (Or.inl ⟨by rfl, ?_⟩) (by assumption) ?_
          rotate_left
          · intro w hSw; (try dsimp only at hSw); go_simp <;> with_reducible rfl
          (try simp only [Act.put, List.setIfInBounds_toArray, List.set_cons_zero, List.set_cons_succ])
          refine wpAnyH_take (i := 35) (oi := (⟨some 77, Op.binOp .geq 3 (.tmp 76) (.const (.int IntKind.i64 (-62))) 3, 4, "law.go:262", #[⟨34, .data⟩, ⟨28, .guard⟩], some (28, false)⟩ : Oper)) (v := ?_) rfl (by kernel_rfl) (by kernel_rfl) (by kernel_rfl) (fun _ _ _ h => h) (Or.inl ⟨by rfl, ?_⟩) (by assumption) ?_
          rotate_left
          · intro w hSw; (try dsimp only at hSw); go_simp <;> with_reducible rfl
          (try simp only [Act.put, List.setIfInBounds_toArray, List.set_cons_zero, List.set_cons_succ])
          refine wpAnyH_take (i := 36) (oi := (⟨some 78, Op.move (.tmp 77), 4, "law.go:262", #[⟨35, .data⟩, ⟨28, .chain⟩, ⟨28, .guard⟩], some (28, false)⟩ : Oper)) (v := ?_) rfl (by kernel_rfl) (by kernel_rfl) (by kernel_rfl) (fun _ _ _ h => h) (Or.inl ⟨by rfl, ?_⟩) (by assumption) ?_
          rotate_left
          · intro w hSw; (try dsimp only at hSw); go_simp <;> with_reducible rfl
          (try simp only [Act.put, List.setIfInBounds_toArray, List.set_cons_zero, List.set_cons_succ])
          refine wpAnyH_take (i := 37) (oi := (⟨some 79, Op.move (.tmp 8), 3, "law.go:262", #[⟨36, .guard⟩], some (36, true)⟩ : Oper)) (v := ?_) rfl (by kernel_rfl) (by kernel_rfl) (by kernel_rfl) (fun _ _ _ h => h) (Or.inl ⟨by rfl, ?_⟩) (by assumption) ?_
          rotate_left
          · intro w hSw; (try dsimp only at hSw); go_simp <;> with_reducible rfl
          (try simp only [Act.put, List.setIfInBounds_toArray, List.set_cons_zero, List.set_cons_succ])
          refine wpAnyH_take (i := 38) (oi := (⟨some 80, Op.move (.tmp 9), 3, "law.go:262", #[⟨36, .guard⟩], some (36, true)⟩ : Oper)) (v := ?_) rfl (by kernel_rfl) (by kernel_rfl) (by kernel_rfl) (fun _ _ _ h => h) (Or.inl ⟨by rfl, ?_⟩) (by assumption) ?_
          rotate_left
          · intro w hSw; (try dsimp only at hSw); go_simp <;> with_reducible rfl
          (try simp only [Act.put, List.setIfInBounds_toArray, List.set_cons_zero, List.set_cons_succ])
          refine wpAnyH_take (i := 39) (oi := (⟨some 81, Op.binOp .sub 3 (.tmp 79) (.tmp 80) 3, 3, "law.go:262", #[⟨37, .data⟩, ⟨38, .data⟩, ⟨36, .guard⟩], some (36, true)⟩ : Oper)) (v := ?_) rfl (by kernel_rfl) (by kernel_rfl) (by kernel_rfl) (fun _ _ _ h => h) (Or.inl ⟨by rfl, ?_⟩) (by assumption) ?_
          rotate_left
          · intro w hSw; (try dsimp only at hSw); go_simp <;> with_reducible rfl
          (try simp only [Act.put, List.setIfInBounds_toArray, List.set_cons_zero, List.set_cons_succ])
          refine wpAnyH_take (i := 40) (oi := (⟨some 82, Op.binOp .leq 3 (.tmp 81) (.const (.int IntKind.i64 62)) 3, 4, "law.go:262", #[⟨39, .data⟩, ⟨36, .guard⟩], some (36, true)⟩ : Oper)) (v := ?_) rfl (by kernel_rfl) (by kernel_rfl) (by kernel_rfl) (fun _ _ _ h => h) (Or.inl ⟨by rfl, ?_⟩) (by assumption) ?_
          rotate_left
          · intro w hSw; (try dsimp only at hSw); go_simp <;> with_reducible rfl
          (try simp only [Act.put, List.setIfInBounds_toArray, List.set_cons_zero, List.set_cons_succ])
          refine wpAnyH_take (i := 41) (oi := (⟨some 83, Op.pick (.tmp 78) (.tmp 82) (.const (.bool false)), 4, "law.go:262", #[⟨36, .data⟩, ⟨40, .data⟩, ⟨28, .guard⟩], some (28, false)⟩ : Oper)) (v := ?_) rfl (by kernel_rfl) (by kernel_rfl) (by kernel_rfl) (fun _ _ _ h => h) (Or.inl ⟨by rfl, ?_⟩) (by assumption) ?_
          rotate_left
          · intro w hSw; (try dsimp only at hSw); go_simp <;> with_reducible rfl
          (try simp only [Act.put, List.setIfInBounds_toArray, List.set_cons_zero, List.set_cons_succ])
          refine wpAnyH_take (i := 42) (oi := (⟨some 84, Op.binOp .neq 4 (.tmp 73) (.tmp 83) 4, 4, "law.go:262", #[⟨31, .data⟩, ⟨41, .data⟩, ⟨28, .guard⟩], some (28, false)⟩ : Oper)) (v := ?_) rfl (by kernel_rfl) (by kernel_rfl) (by kernel_rfl) (fun _ _ _ h => h) (Or.inl ⟨by rfl, ?_⟩) (by assumption) ?_
          rotate_left
          · intro w hSw; (try dsimp only at hSw); go_simp <;> with_reducible rfl
          (try simp only [Act.put, List.setIfInBounds_toArray, List.set_cons_zero, List.set_cons_succ])
          refine wpAnyH_take (i := 43) (oi := (⟨some 85, Op.pick (.tmp 70) (.const (.bool true)) (.tmp 84), 4, "law.go:262", #[⟨28, .data⟩, ⟨42, .data⟩], none⟩ : Oper)) (v := ?_) rfl (by kernel_rfl) (by kernel_rfl) (by kernel_rfl) (fun _ _ _ h => h) (Or.inl ⟨by rfl, ?_⟩) (by assumption) ?_
          rotate_left
          · intro w hSw; (try dsimp only at hSw); go_simp <;> with_reducible rfl
          (try simp only [Act.put, List.setIfInBounds_toArray, List.set_cons_zero, List.set_cons_succ])
          refine wpAnyH_take (i := 44) (oi := (⟨some 86, Op.move (.tmp 85), 4, "law.go:262", #[⟨43, .data⟩, ⟨36, .chain⟩], none⟩ : Oper)) (v := ?_) rfl (by kernel_rfl) (by kernel_rfl) (by kernel_rfl) (fun _ _ _ h => h) (Or.inl ⟨by rfl, ?_⟩) (by assumption) ?_
          rotate_left
          · intro w hSw; (try dsimp only at hSw); go_simp <;> with_reducible rfl
          (try simp only [Act.put, List.setIfInBounds_toArray, List.set_cons_zero, List.set_cons_succ])
          refine wpAnyH_take (i := 45) (oi := (⟨some 87, Op.fieldAddr 29 (.tmp 13) 1, 0, "law.go:262", #[⟨44, .guard⟩], some (44, false)⟩ : Oper)) (v := ?_) rfl (by kernel_rfl) (by kernel_rfl) (by kernel_rfl) (fun _ _ _ h => h) (Or.inl ⟨by rfl, ?_⟩) (by assumption) ?_
          rotate_left
          · intro w hSw; (try dsimp only at hSw); go_simp <;> with_reducible rfl
          (try simp only [Act.put, List.setIfInBounds_toArray, List.set_cons_zero, List.set_cons_succ])
          refine wpAnyH_take (i := 46) (oi := (⟨some 88, Op.load 27 (.tmp 87), 27, "law.go:262", #[⟨45, .data⟩, ⟨44, .guard⟩], some (44, false)⟩ : Oper)) (v := ?_) rfl (by kernel_rfl) (by kernel_rfl) (by kernel_rfl) (fun _ _ _ h => h) (Or.inl ⟨by rfl, ?_⟩) (by assumption) ?_
          rotate_left
          · intro w hSw; (try dsimp only at hSw); go_simp <;> with_reducible rfl
          (try simp only [Act.put, List.setIfInBounds_toArray, List.set_cons_zero, List.set_cons_succ])
          refine wpAnyH_take (i := 47) (oi := (⟨some 89, Op.binOp .eql 27 (.tmp 88) (.const (.int IntKind.i64 0)) 27, 4, "law.go:262", #[⟨46, .data⟩, ⟨44, .guard⟩], some (44, false)⟩ : Oper)) (v := ?_) rfl (by kernel_rfl) (by kernel_rfl) (by kernel_rfl) (fun _ _ _ h => h) (Or.inl ⟨by rfl, ?_⟩) (by assumption) ?_
          rotate_left
          · intro w hSw; (try dsimp only at hSw); go_simp <;> with_reducible rfl
          (try simp only [Act.put, List.setIfInBounds_toArray, List.set_cons_zero, List.set_cons_succ])
          refine wpAnyH_take (i := 48) (oi := (⟨some 90, Op.move (.tmp 89), 4, "law.go:262", #[⟨47, .data⟩, ⟨44, .chain⟩, ⟨44, .guard⟩], some (44, false)⟩ : Oper)) (v := ?_) rfl (by kernel_rfl) (by kernel_rfl) (by kernel_rfl) (fun _ _ _ h => h) (Or.inl ⟨by rfl, ?_⟩) (by assumption) ?_
          rotate_left
          · intro w hSw; (try dsimp only at hSw); go_simp <;> with_reducible rfl
          (try simp only [Act.put, List.setIfInBounds_toArray, List.set_cons_zero, List.set_cons_succ])
          refine wpAnyH_take (i := 49) (oi := (⟨some 91, Op.fieldAddr 29 (.tmp 13) 0, 0, "law.go:262", #[⟨48, .guard⟩], some (48, true)⟩ : Oper)) (v := ?_) rfl (by kernel_rfl) (by kernel_rfl) (by kernel_rfl) (fun _ _ _ h => h) (Or.inl ⟨by rfl, ?_⟩) (by assumption) ?_
          rotate_left
          · intro w hSw; (try dsimp only at hSw); go_simp <;> with_reducible rfl
          (try simp only [Act.put, List.setIfInBounds_toArray, List.set_cons_zero, List.set_cons_succ])
          refine wpAnyH_take (i := 50) (oi := (⟨some 92, Op.load 25 (.tmp 91), 25, "law.go:262", #[⟨49, .data⟩, ⟨48, .guard⟩], some (48, true)⟩ : Oper)) (v := ?_) rfl (by kernel_rfl) (by kernel_rfl) (by kernel_rfl) (fun _ _ _ h => h) (Or.inl ⟨by rfl, ?_⟩) (by assumption) ?_
          rotate_left
          · intro w hSw; (try dsimp only at hSw); go_simp <;> with_reducible rfl
          (try simp only [Act.put, List.setIfInBounds_toArray, List.set_cons_zero, List.set_cons_succ])
          refine wpAnyH_take (i := 51) (oi := (⟨some 93, Op.move (.tmp 8), 3, "law.go:262", #[⟨48, .guard⟩], some (48, true)⟩ : Oper)) (v := ?_) rfl (by kernel_rfl) (by kernel_rfl) (by kernel_rfl) (fun _ _ _ h => h) (Or.inl ⟨by rfl, ?_⟩) (by assumption) ?_
          rotate_left
          · intro w hSw; (try dsimp only at hSw); go_simp <;> with_reducible rfl
          (try simp only [Act.put, List.setIfInBounds_toArray, List.set_cons_zero, List.set_cons_succ])
          refine wpAnyH_take (i := 52) (oi := (⟨some 94, Op.move (.tmp 9), 3, "law.go:262", #[⟨48, .guard⟩], some (48, true)⟩ : Oper)) (v := ?_) rfl (by kernel_rfl) (by kernel_rfl) (by kernel_rfl) (fun _ _ _ h => h) (Or.inl ⟨by rfl, ?_⟩) (by assumption) ?_
          rotate_left
          · intro w hSw; (try dsimp only at hSw); go_simp <;> with_reducible rfl
          (try simp only [Act.put, List.setIfInBounds_toArray, List.set_cons_zero, List.set_cons_succ])
          refine wpAnyH_take (i := 53) (oi := (⟨some 95, Op.binOp .sub 3 (.tmp 93) (.tmp 94) 3, 3, "law.go:262", #[⟨51, .data⟩, ⟨52, .data⟩, ⟨48, .guard⟩], some (48, true)⟩ : Oper)) (v := ?_) rfl (by kernel_rfl) (by kernel_rfl) (by kernel_rfl) (fun _ _ _ h => h) (Or.inl ⟨by rfl, ?_⟩) (by assumption) ?_
          rotate_left
          · intro w hSw; (try dsimp only at hSw); go_simp <;> with_reducible rfl
          (try simp only [Act.put, List.setIfInBounds_toArray, List.set_cons_zero, List.set_cons_succ])
          refine wpAnyH_ready (rs := [54]) (by kernel_rfl) (by simp) ?_
          refine AllReadyH.cons (o := (⟨some 96, Op.call { callee := Callee.value (Operand.func 26), args := #[.tmp 95], argTypes := #[3] }, 25, "law.go:262", #[⟨53, .data⟩, ⟨48, .chain⟩, ⟨48, .guard⟩], some (48, true)⟩ : Oper)) rfl (fun K hK => ?_) ?_
          rotate_left
          · exact AllReadyH.nil
          go_simp
          go_at_call 26
          with_reducible refine (CD.out _).mono ?_
          rintro e y0 ⟨rfl, hq0⟩
          have hB0 := below_step hsd hq0
          clear hHeld
          first | (with_reducible refine hK.out _ _ ?_ (fun hHeld => ?_)) | (go_wp2_with fail; with_reducible refine hK.out _ _ ?_ (fun hHeld => ?_))
          · with_reducible exact ⟨cell_below hB0 hm0, cell_below hB0 hm1, cell_below hB0 hm2, cell_below hB0 hd0, cell_below hB0 hd1, cell_below hB0 hd2, hB0⟩
          clear hK K
          (try simp only [Act.put, List.setIfInBounds_toArray, List.set_cons_zero, List.set_cons_succ])
          refine wpAnyH_take (i := 55) (oi := (⟨some 97, Op.binOp .neq 25 (.tmp 92) (.tmp 96) 25, 4, "law.go:262", #[⟨50, .data⟩, ⟨54, .data⟩, ⟨48, .guard⟩], some (48, true)⟩ : Oper)) (v := ?_) rfl (by kernel_rfl) (by kernel_rfl) (by kernel_rfl) (fun _ _ _ h => h) (Or.inl ⟨by rfl, ?_⟩) (by assumption) ?_
          rotate_left
          · intro w hSw; (try dsimp only at hSw); go_simp <;> with_reducible rfl
          (try simp only [Act.put, List.setIfInBounds_toArray, List.set_cons_zero, List.set_cons_succ])
          refine wpAnyH_take (i := 56) (oi := (⟨some 98, Op.pick (.tmp 90) (.tmp 97) (.const (.bool false)), 4, "law.go:262", #[⟨48, .data⟩, ⟨55, .data⟩, ⟨44, .guard⟩], some (44, false)⟩ : Oper)) (v := ?_) rfl (by kernel_rfl) (by kernel_rfl) (by kernel_rfl) (fun _ _ _ h => h) (Or.inl ⟨by rfl, ?_⟩) (by assumption) ?_
          rotate_left
          · intro w hSw; (try dsimp only at hSw); go_simp <;> with_reducible rfl
          (try simp only [Act.put, List.setIfInBounds_toArray, List.set_cons_zero, List.set_cons_succ])
          refine wpAnyH_take (i := 57) (oi := (⟨some 99, Op.pick (.tmp 86) (.const (.bool true)) (.tmp 98), 4, "law.go:262", #[⟨44, .data⟩, ⟨56, .data⟩], none⟩ : Oper)) (v := ?_) rfl (by kernel_rfl) (by kernel_rfl) (by kernel_rfl) (fun _ _ _ h => h) (Or.inl ⟨by rfl, ?_⟩) (by assumption) ?_
          rotate_left
          · intro w hSw; (try dsimp only at hSw); go_simp <;> with_reducible rfl
          (try simp only [Act.put, List.setIfInBounds_toArray, List.set_cons_zero, List.set_cons_succ])
          refine wpAnyH_done (by kernel_rfl) ?_ _
          go_wp2_with fail
          go_meet
          exact ⟨rfl, by assumption⟩
        · by_cases gdl : -62 ≤ a - b
          · skip
            as_aux_lemma =>
            have mf0 : (mE == 0) = false := by rw [gm]; rfl
            have mf1 : decide (-62 ≤ a + b) = false := by simp; omega
            have df0 : (dE == 0) = false := by rw [gd]; rfl
            have df1 : decide (-62 ≤ a - b) = true := by simp; omega
            have df2 : decide (a - b ≤ 62) = false := by simp; omega
            clear gm gm1 gd gd1
            refine wp_region_held_drew (S := (fun V => V.cell? ⟨v4.heap.size, 0, none⟩ = some (.int .i64 mN) ∧ V.cell? ⟨v4.heap.size, 1, none⟩ = some (.int .i64 mD) ∧ V.cell? ⟨v4.heap.size, 2, none⟩ = some (.int .i64 mE) ∧ V.cell? ⟨v5.heap.size, 0, none⟩ = some (.int .i64 dN) ∧ V.cell? ⟨v5.heap.size, 1, none⟩ = some (.int .i64 dD) ∧ V.cell? ⟨v5.heap.size, 2, none⟩ = some (.int .i64 dE) ∧ Below wD.heap.size wD V)) (by kernel_rfl) ?_ (fun hHeld => ?_)
            · with_reducible exact ⟨cell_below hsd hm0, cell_below hsd hm1, cell_below hsd hm2, cell_below hsd hd0, cell_below hsd hd1, cell_below hsd hd2, hsd⟩
            refine wpAnyH_take (i := 0) (oi := (⟨some 42, Op.fieldAddr 29 (.tmp 12) 1, 0, "law.go:262", #[], none⟩ : Oper)) (v := ?_) rfl (by kernel_rfl) (by kernel_rfl) (by kernel_rfl) (fun _ _ _ h => h) (Or.inl ⟨by rfl, ?_⟩) (by assumption) ?_
            rotate_left
            · intro w hSw; (try dsimp only at hSw); go_simp <;> with_reducible rfl
            (try simp only [Act.put, List.setIfInBounds_toArray, List.set_cons_zero, List.set_cons_succ])
            refine wpAnyH_take (i := 1) (oi := (⟨some 43, Op.load 27 (.tmp 42), 27, "law.go:262", #[⟨0, .data⟩], none⟩ : Oper)) (v := ?_) rfl (by kernel_rfl) (by kernel_rfl) (by kernel_rfl) (fun _ _ _ h => h) (Or.inl ⟨by rfl, ?_⟩) (by assumption) ?_
            rotate_left
            · intro w hSw; (try dsimp only at hSw); go_simp <;> with_reducible rfl
            (try simp only [Act.put, List.setIfInBounds_toArray, List.set_cons_zero, List.set_cons_succ])
            refine wpAnyH_take (i := 2) (oi := (⟨some 44, Op.binOp .eql 27 (.tmp 43) (.const (.int IntKind.i64 0)) 27, 4, "law.go:262", #[⟨1, .data⟩], none⟩ : Oper)) (v := ?_) rfl (by kernel_rfl) (by kernel_rfl) (by kernel_rfl) (fun _ _ _ h => h) (Or.inl ⟨by rfl, ?_⟩) (by assumption) ?_
            rotate_left
            · intro w hSw; (try dsimp only at hSw); go_simp <;> with_reducible rfl
            (try simp only [Act.put, List.setIfInBounds_toArray, List.set_cons_zero, List.set_cons_succ])
            refine wpAnyH_take (i := 3) (oi := (⟨some 45, Op.move (.tmp 8), 3, "law.go:262", #[], none⟩ : Oper)) (v := ?_) rfl (by kernel_rfl) (by kernel_rfl) (by kernel_rfl) (fun _ _ _ h => h) (Or.inl ⟨by rfl, ?_⟩) (by assumption) ?_
            rotate_left
            · intro w hSw; (try dsimp only at hSw); go_simp <;> with_reducible rfl
            (try simp only [Act.put, List.setIfInBounds_toArray, List.set_cons_zero, List.set_cons_succ])
            refine wpAnyH_take (i := 4) (oi := (⟨some 46, Op.move (.tmp 9), 3, "law.go:262", #[], none⟩ : Oper)) (v := ?_) rfl (by kernel_rfl) (by kernel_rfl) (by kernel_rfl) (fun _ _ _ h => h) (Or.inl ⟨by rfl, ?_⟩) (by assumption) ?_
            rotate_left
            · intro w hSw; (try dsimp only at hSw); go_simp <;> with_reducible rfl
            (try simp only [Act.put, List.setIfInBounds_toArray, List.set_cons_zero, List.set_cons_succ])
            refine wpAnyH_take (i := 5) (oi := (⟨some 47, Op.binOp .add 3 (.tmp 45) (.tmp 46) 3, 3, "law.go:262", #[⟨3, .data⟩, ⟨4, .data⟩], none⟩ : Oper)) (v := ?_) rfl (by kernel_rfl) (by kernel_rfl) (by kernel_rfl) (fun _ _ _ h => h) (Or.inl ⟨by rfl, ?_⟩) (by assumption) ?_
            rotate_left
            · intro w hSw; (try dsimp only at hSw); go_simp <;> with_reducible rfl
            (try simp only [Act.put, List.setIfInBounds_toArray, List.set_cons_zero, List.set_cons_succ])
            refine wpAnyH_take (i := 6) (oi := (⟨some 48, Op.binOp .geq 3 (.tmp 47) (.const (.int IntKind.i64 (-62))) 3, 4, "law.go:262", #[⟨5, .data⟩], none⟩ : Oper)) (v := ?_) rfl (by kernel_rfl) (by kernel_rfl) (by kernel_rfl) (fun _ _ _ h => h) (Or.inl ⟨by rfl, ?_⟩) (by assumption) ?_
            rotate_left
            · intro w hSw; (try dsimp only at hSw); go_simp <;> with_reducible rfl
            (try simp only [Act.put, List.setIfInBounds_toArray, List.set_cons_zero, List.set_cons_succ])
            refine wpAnyH_take (i := 7) (oi := (⟨some 49, Op.move (.tmp 48), 4, "law.go:262", #[⟨6, .data⟩], none⟩ : Oper)) (v := ?_) rfl (by kernel_rfl) (by kernel_rfl) (by kernel_rfl) (fun _ _ _ h => h) (Or.inl ⟨by rfl, ?_⟩) (by assumption) ?_
            rotate_left
            · intro w hSw; (try dsimp only at hSw); go_simp <;> with_reducible rfl
            (try simp only [Act.put, List.setIfInBounds_toArray, List.set_cons_zero, List.set_cons_succ])
            refine wpAnyH_take (i := 8) (oi := (⟨some 50, Op.move (.tmp 8), 3, "law.go:262", #[⟨7, .guard⟩], some (7, true)⟩ : Oper)) (v := undef) rfl (by kernel_rfl) (by kernel_rfl) (by kernel_rfl) (fun _ _ _ h => h) (Or.inr ⟨by rfl, rfl⟩) (by assumption) ?_
            (try simp only [Act.put, List.setIfInBounds_toArray, List.set_cons_zero, List.set_cons_succ])
            refine wpAnyH_take (i := 9) (oi := (⟨some 51, Op.move (.tmp 9), 3, "law.go:262", #[⟨7, .guard⟩], some (7, true)⟩ : Oper)) (v := undef) rfl (by kernel_rfl) (by kernel_rfl) (by kernel_rfl) (fun _ _ _ h => h) (Or.inr ⟨by rfl, rfl⟩) (by assumption) ?_
            (try simp only [Act.put, List.setIfInBounds_toArray, List.set_cons_zero, List.set_cons_succ])
            refine wpAnyH_take (i := 10) (oi := (⟨some 52, Op.binOp .add 3 (.tmp 50) (.tmp 51) 3, 3, "law.go:262", #[⟨8, .data⟩, ⟨9, .data⟩, ⟨7, .guard⟩], some (7, true)⟩ : Oper)) (v := undef) rfl (by kernel_rfl) (by kernel_rfl) (by kernel_rfl) (fun _ _ _ h => h) (Or.inr ⟨by rfl, rfl⟩) (by assumption) ?_
            (try simp only [Act.put, List.setIfInBounds_toArray, List.set_cons_zero, List.set_cons_succ])
            refine wpAnyH_take (i := 11) (oi := (⟨some 53, Op.binOp .leq 3 (.tmp 52) (.const (.int IntKind.i64 62)) 3, 4, "law.go:262", #[⟨10, .data⟩, ⟨7, .guard⟩], some (7, true)⟩ : Oper)) (v := undef) rfl (by kernel_rfl) (by kernel_rfl) (by kernel_rfl) (fun _ _ _ h => h) (Or.inr ⟨by rfl, rfl⟩) (by assumption) ?_
            (try simp only [Act.put, List.setIfInBounds_toArray, List.set_cons_zero, List.set_cons_succ])
            refine wpAnyH_take (i := 12) (oi := (⟨some 54, Op.pick (.tmp 49) (.tmp 53) (.const (.bool false)), 4, "law.go:262", #[⟨7, .data⟩, ⟨11, .data⟩], none⟩ : Oper)) (v := ?_) rfl (by kernel_rfl) (by kernel_rfl) (by kernel_rfl) (fun _ _ _ h => h) (Or.inl ⟨by rfl, ?_⟩) (by assumption) ?_
            rotate_left
            · intro w hSw; (try dsimp only at hSw); go_simp <;> with_reducible rfl
            (try simp only [Act.put, List.setIfInBounds_toArray, List.set_cons_zero, List.set_cons_succ])
            refine wpAnyH_take (i := 13) (oi := (⟨some 55, Op.binOp .neq 4 (.tmp 44) (.tmp 54) 4, 4, "law.go:262", #[⟨2, .data⟩, ⟨12, .data⟩], none⟩ : Oper)) (v := ?_) rfl (by kernel_rfl) (by kernel_rfl) (by kernel_rfl) (fun _ _ _ h => h) (Or.inl ⟨by rfl, ?_⟩) (by assumption) ?_
            rotate_left
            · intro w hSw; (try dsimp only at hSw); go_simp <;> with_reducible rfl
            (try simp only [Act.put, List.setIfInBounds_toArray, List.set_cons_zero, List.set_cons_succ])
            refine wpAnyH_take (i := 14) (oi := (⟨some 56, Op.move (.tmp 55), 4, "law.go:262", #[⟨13, .data⟩, ⟨7, .chain⟩], none⟩ : Oper)) (v := ?_) rfl (by kernel_rfl) (by kernel_rfl) (by kernel_rfl) (fun _ _ _ h => h) (Or.inl ⟨by rfl, ?_⟩) (by assumption) ?_
            rotate_left
            · intro w hSw; (try dsimp only at hSw); go_simp <;> with_reducible rfl
            (try simp only [Act.put, List.setIfInBounds_toArray, List.set_cons_zero, List.set_cons_succ])
            refine wpAnyH_take (i := 15) (oi := (⟨some 57, Op.fieldAddr 29 (.tmp 12) 1, 0, "law.go:262", #[⟨14, .guard⟩], some (14, false)⟩ : Oper)) (v := ?_) rfl (by kernel_rfl) (by kernel_rfl) (by kernel_rfl) (fun _ _ _ h => h) (Or.inl ⟨by rfl, ?_⟩) (by assumption) ?_
            rotate_left
            · intro w hSw; (try dsimp only at hSw); go_simp <;> with_reducible rfl
            (try simp only [Act.put, List.setIfInBounds_toArray, List.set_cons_zero, List.set_cons_succ])
            refine wpAnyH_take (i := 16) (oi := (⟨some 58, Op.load 27 (.tmp 57), 27, "law.go:262", #[⟨15, .data⟩, ⟨14, .guard⟩], some (14, false)⟩ : Oper)) (v := ?_) rfl (by kernel_rfl) (by kernel_rfl) (by kernel_rfl) (fun _ _ _ h => h) (Or.inl ⟨by rfl, ?_⟩) (by assumption) ?_
            rotate_left
            · intro w hSw; (try dsimp only at hSw); go_simp <;> with_reducible rfl
            (try simp only [Act.put, List.setIfInBounds_toArray, List.set_cons_zero, List.set_cons_succ])
            refine wpAnyH_take (i := 17) (oi := (⟨some 59, Op.binOp .eql 27 (.tmp 58) (.const (.int IntKind.i64 0)) 27, 4, "law.go:262", #[⟨16, .data⟩, ⟨14, .guard⟩], some (14, false)⟩ : Oper)) (v := ?_) rfl (by kernel_rfl) (by kernel_rfl) (by kernel_rfl) (fun _ _ _ h => h) (Or.inl ⟨by rfl, ?_⟩) (by assumption) ?_
            rotate_left
            · intro w hSw; (try dsimp only at hSw); go_simp <;> with_reducible rfl
            (try simp only [Act.put, List.setIfInBounds_toArray, List.set_cons_zero, List.set_cons_succ])
            refine wpAnyH_take (i := 18) (oi := (⟨some 60, Op.move (.tmp 59), 4, "law.go:262", #[⟨17, .data⟩, ⟨14, .chain⟩, ⟨14, .guard⟩], some (14, false)⟩ : Oper)) (v := ?_) rfl (by kernel_rfl) (by kernel_rfl) (by kernel_rfl) (fun _ _ _ h => h) (Or.inl ⟨by rfl, ?_⟩) (by assumption) ?_
            rotate_left
            · intro w hSw; (try dsimp only at hSw); go_simp <;> with_reducible rfl
            (try simp only [Act.put, List.setIfInBounds_toArray, List.set_cons_zero, List.set_cons_succ])
            refine wpAnyH_take (i := 19) (oi := (⟨some 61, Op.fieldAddr 29 (.tmp 12) 0, 0, "law.go:262", #[⟨18, .guard⟩], some (18, true)⟩ : Oper)) (v := undef) rfl (by kernel_rfl) (by kernel_rfl) (by kernel_rfl) (fun _ _ _ h => h) (Or.inr ⟨by rfl, rfl⟩) (by assumption) ?_
            (try simp only [Act.put, List.setIfInBounds_toArray, List.set_cons_zero, List.set_cons_succ])
            refine wpAnyH_take (i := 20) (oi := (⟨some 62, Op.load 25 (.tmp 61), 25, "law.go:262", #[⟨19, .data⟩, ⟨18, .guard⟩], some (18, true)⟩ : Oper)) (v := undef) rfl (by kernel_rfl) (by kernel_rfl) (by kernel_rfl) (fun _ _ _ h => h) (Or.inr ⟨by rfl, rfl⟩) (by assumption) ?_
            (try simp only [Act.put, List.setIfInBounds_toArray, List.set_cons_zero, List.set_cons_succ])
            refine wpAnyH_take (i := 21) (oi := (⟨some 63, Op.move (.tmp 8), 3, "law.go:262", #[⟨18, .guard⟩], some (18, true)⟩ : Oper)) (v := undef) rfl (by kernel_rfl) (by kernel_rfl) (by kernel_rfl) (fun _ _ _ h => h) (Or.inr ⟨by rfl, rfl⟩) (by assumption) ?_
            (try simp only [Act.put, List.setIfInBounds_toArray, List.set_cons_zero, List.set_cons_succ])
            refine wpAnyH_take (i := 22) (oi := (⟨some 64, Op.move (.tmp 9), 3, "law.go:262", #[⟨18, .guard⟩], some (18, true)⟩ : Oper)) (v := undef) rfl (by kernel_rfl) (by kernel_rfl) (by kernel_rfl) (fun _ _ _ h => h) (Or.inr ⟨by rfl, rfl⟩) (by assumption) ?_
            (try simp only [Act.put, List.setIfInBounds_toArray, List.set_cons_zero, List.set_cons_succ])
            refine wpAnyH_take (i := 23) (oi := (⟨some 65, Op.binOp .add 3 (.tmp 63) (.tmp 64) 3, 3, "law.go:262", #[⟨21, .data⟩, ⟨22, .data⟩, ⟨18, .guard⟩], some (18, true)⟩ : Oper)) (v := undef) rfl (by kernel_rfl) (by kernel_rfl) (by kernel_rfl) (fun _ _ _ h => h) (Or.inr ⟨by rfl, rfl⟩) (by assumption) ?_
            (try simp only [Act.put, List.setIfInBounds_toArray, List.set_cons_zero, List.set_cons_succ])
            refine wpAnyH_take (i := 24) (oi := (⟨some 66, Op.call { callee := Callee.value (Operand.func 26), args := #[.tmp 65], argTypes := #[3] }, 25, "law.go:262", #[⟨23, .data⟩, ⟨18, .chain⟩, ⟨18, .guard⟩], some (18, true)⟩ : Oper)) (v := undef) rfl (by kernel_rfl) (by kernel_rfl) (by kernel_rfl) (fun _ _ _ h => h) (Or.inr ⟨by rfl, rfl⟩) (by assumption) ?_
            (try simp only [Act.put, List.setIfInBounds_toArray, List.set_cons_zero, List.set_cons_succ])
            refine wpAnyH_take (i := 25) (oi := (⟨some 67, Op.binOp .neq 25 (.tmp 62) (.tmp 66) 25, 4, "law.go:262", #[⟨20, .data⟩, ⟨24, .data⟩, ⟨18, .guard⟩], some (18, true)⟩ : Oper)) (v := undef) rfl (by kernel_rfl) (by kernel_rfl) (by kernel_rfl) (fun _ _ _ h => h) (Or.inr ⟨by rfl, rfl⟩) (by assumption) ?_
            (try simp only [Act.put, List.setIfInBounds_toArray, List.set_cons_zero, List.set_cons_succ])
            refine wpAnyH_take (i := 26) (oi := (⟨some 68, Op.pick (.tmp 60) (.tmp 67) (.const (.bool false)), 4, "law.go:262", #[⟨18, .data⟩, ⟨25, .data⟩, ⟨14, .guard⟩], some (14, false)⟩ : Oper)) (v := ?_) rfl (by kernel_rfl) (by kernel_rfl) (by kernel_rfl) (fun _ _ _ h => h) (Or.inl ⟨by rfl, ?_⟩) (by assumption) ?_
            rotate_left
            · intro w hSw; (try dsimp only at hSw); go_simp <;> with_reducible rfl
            (try simp only [Act.put, List.setIfInBounds_toArray, List.set_cons_zero, List.set_cons_succ])
            refine wpAnyH_take (i := 27) (oi := (⟨some 69, Op.pick (.tmp 56) (.const (.bool true)) (.tmp 68), 4, "law.go:262", #[⟨14, .data⟩, ⟨26, .data⟩], none⟩ : Oper)) (v := ?_) rfl (by kernel_rfl) (by kernel_rfl) (by kernel_rfl) (fun _ _ _ h => h) (Or.inl ⟨by rfl, ?_⟩) (by assumption) ?_
            rotate_left
            · intro w hSw; (try dsimp only at hSw); go_simp <;> with_reducible rfl
            (try simp only [Act.put, List.setIfInBounds_toArray, List.set_cons_zero, List.set_cons_succ])
            refine wpAnyH_take (i := 28) (oi := (⟨some 70, Op.move (.tmp 69), 4, "law.go:262", #[⟨27, .data⟩, ⟨24, .chain⟩], none⟩ : Oper)) (v := ?_) rfl (by kernel_rfl) (by kernel_rfl) (by kernel_rfl) (fun _ _ _ h => h) (Or.inl ⟨by rfl, ?_⟩) (by assumption) ?_
            rotate_left
            · intro w hSw; (try dsimp only at hSw); go_simp <;> with_reducible rfl
            (try simp only [Act.put, List.setIfInBounds_toArray, List.set_cons_zero, List.set_cons_succ])
            refine wpAnyH_take (i := 29) (oi := (⟨some 71, Op.fieldAddr 29 (.tmp 13) 1, 0, "law.go:262", #[⟨28, .guard⟩], some (28, false)⟩ : Oper)) (v := ?_) rfl (by kernel_rfl) (by kernel_rfl) (by kernel_rfl) (fun _ _ _ h => h) (Or.inl ⟨by rfl, ?_⟩) (by assumption) ?_
            rotate_left
            · intro w hSw; (try dsimp only at hSw); go_simp <;> with_reducible rfl
            (try simp only [Act.put, List.setIfInBounds_toArray, List.set_cons_zero, List.set_cons_succ])
            refine wpAnyH_take (i := 30) (oi := (⟨some 72, Op.load 27 (.tmp 71), 27, "law.go:262", #[⟨29, .data⟩, ⟨28, .guard⟩], some (28, false)⟩ : Oper)) (v := ?_) rfl (by kernel_rfl) (by kernel_rfl) (by kernel_rfl) (fun _ _ _ h => h) (Or.inl ⟨by rfl, ?_⟩) (by assumption) ?_
            rotate_left
            · intro w hSw; (try dsimp only at hSw); go_simp <;> with_reducible rfl
            (try simp only [Act.put, List.setIfInBounds_toArray, List.set_cons_zero, List.set_cons_succ])
            refine wpAnyH_take (i := 31) (oi := (⟨some 73, Op.binOp .eql 27 (.tmp 72) (.const (.int IntKind.i64 0)) 27, 4, "law.go:262", #[⟨30, .data⟩, ⟨28, .guard⟩], some (28, false)⟩ : Oper)) (v := ?_) rfl (by kernel_rfl) (by kernel_rfl) (by kernel_rfl) (fun _ _ _ h => h) (Or.inl ⟨by rfl, ?_⟩) (by assumption) ?_
            rotate_left
            · intro w hSw; (try dsimp only at hSw); go_simp <;> with_reducible rfl
            (try simp only [Act.put, List.setIfInBounds_toArray, List.set_cons_zero, List.set_cons_succ])
            refine wpAnyH_take (i := 32) (oi := (⟨some 74, Op.move (.tmp 8), 3, "law.go:262", #[⟨28, .guard⟩], some (28, false)⟩ : Oper)) (v := ?_) rfl (by kernel_rfl) (by kernel_rfl) (by kernel_rfl) (fun _ _ _ h => h) (Or.inl ⟨by rfl, ?_⟩) (by assumption) ?_
            rotate_left
            · intro w hSw; (try dsimp only at hSw); go_simp <;> with_reducible rfl
            (try simp only [Act.put, List.setIfInBounds_toArray, List.set_cons_zero, List.set_cons_succ])
            refine wpAnyH_take (i := 33) (oi := (⟨some 75, Op.move (.tmp 9), 3, "law.go:262", #[⟨28, .guard⟩], some (28, false)⟩ : Oper)) (v := ?_) rfl (by kernel_rfl) (by kernel_rfl) (by kernel_rfl) (fun _ _ _ h => h) (Or.inl ⟨by rfl, ?_⟩) (by assumption) ?_
            rotate_left
            · intro w hSw; (try dsimp only at hSw); go_simp <;> with_reducible rfl
            (try simp only [Act.put, List.setIfInBounds_toArray, List.set_cons_zero, List.set_cons_succ])
            refine wpAnyH_take (i := 34) (oi := (⟨some 76, Op.binOp .sub 3 (.tmp 74) (.tmp 75) 3, 3, "law.go:262", #[⟨32, .data⟩, ⟨33, .data⟩, ⟨28, .guard⟩], some (28, false)⟩ : Oper)) (v := ?_) rfl (by kernel_rfl) (by kernel_rfl) (by kernel_rfl) (fun _ _ _ h => h) (Or.inl ⟨by rfl, ?_⟩) (by assumption) ?_
            rotate_left
            · intro w hSw; (try dsimp only at hSw); go_simp <;> with_reducible rfl
            (try simp only [Act.put, List.setIfInBounds_toArray, List.set_cons_zero, List.set_cons_succ])
            refine wpAnyH_take (i := 35) (oi := (⟨some 77, Op.binOp .geq 3 (.tmp 76) (.const (.int IntKind.i64 (-62))) 3, 4, "law.go:262", #[⟨34, .data⟩, ⟨28, .guard⟩], some (28, false)⟩ : Oper)) (v := ?_) rfl (by kernel_rfl) (by kernel_rfl) (by kernel_rfl) (fun _ _ _ h => h) (Or.inl ⟨by rfl, ?_⟩) (by assumption) ?_
            rotate_left
            · intro w hSw; (try dsimp only at hSw); go_simp <;> with_reducible rfl
            (try simp only [Act.put, List.setIfInBounds_toArray, List.set_cons_zero, List.set_cons_succ])
            refine wpAnyH_take (i := 36) (oi := (⟨some 78, Op.move (.tmp 77), 4, "law.go:262", #[⟨35, .data⟩, ⟨28, .chain⟩, ⟨28, .guard⟩], some (28, false)⟩ : Oper)) (v := ?_) rfl (by kernel_rfl) (by kernel_rfl) (by kernel_rfl) (fun _ _ _ h => h) (Or.inl ⟨by rfl, ?_⟩) (by assumption) ?_
            rotate_left
            · intro w hSw; (try dsimp only at hSw); go_simp <;> with_reducible rfl
            (try simp only [Act.put, List.setIfInBounds_toArray, List.set_cons_zero, List.set_cons_succ])
            refine wpAnyH_take (i := 37) (oi := (⟨some 79, Op.move (.tmp 8), 3, "law.go:262", #[⟨36, .guard⟩], some (36, true)⟩ : Oper)) (v := ?_) rfl (by kernel_rfl) (by kernel_rfl) (by kernel_rfl) (fun _ _ _ h => h) (Or.inl ⟨by rfl, ?_⟩) (by assumption) ?_
            rotate_left
            · intro w hSw; (try dsimp only at hSw); go_simp <;> with_reducible rfl
            (try simp only [Act.put, List.setIfInBounds_toArray, List.set_cons_zero, List.set_cons_succ])
            refine wpAnyH_take (i := 38) (oi := (⟨some 80, Op.move (.tmp 9), 3, "law.go:262", #[⟨36, .guard⟩], some (36, true)⟩ : Oper)) (v := ?_) rfl (by kernel_rfl) (by kernel_rfl) (by kernel_rfl) (fun _ _ _ h => h) (Or.inl ⟨by rfl, ?_⟩) (by assumption) ?_
            rotate_left
            · intro w hSw; (try dsimp only at hSw); go_simp <;> with_reducible rfl
            (try simp only [Act.put, List.setIfInBounds_toArray, List.set_cons_zero, List.set_cons_succ])
            refine wpAnyH_take (i := 39) (oi := (⟨some 81, Op.binOp .sub 3 (.tmp 79) (.tmp 80) 3, 3, "law.go:262", #[⟨37, .data⟩, ⟨38, .data⟩, ⟨36, .guard⟩], some (36, true)⟩ : Oper)) (v := ?_) rfl (by kernel_rfl) (by kernel_rfl) (by kernel_rfl) (fun _ _ _ h => h) (Or.inl ⟨by rfl, ?_⟩) (by assumption) ?_
            rotate_left
            · intro w hSw; (try dsimp only at hSw); go_simp <;> with_reducible rfl
            (try simp only [Act.put, List.setIfInBounds_toArray, List.set_cons_zero, List.set_cons_succ])
            refine wpAnyH_take (i := 40) (oi := (⟨some 82, Op.binOp .leq 3 (.tmp 81) (.const (.int IntKind.i64 62)) 3, 4, "law.go:262", #[⟨39, .data⟩, ⟨36, .guard⟩], some (36, true)⟩ : Oper)) (v := ?_) rfl (by kernel_rfl) (by kernel_rfl) (by kernel_rfl) (fun _ _ _ h => h) (Or.inl ⟨by rfl, ?_⟩) (by assumption) ?_
            rotate_left
            · intro w hSw; (try dsimp only at hSw); go_simp <;> with_reducible rfl
            (try simp only [Act.put, List.setIfInBounds_toArray, List.set_cons_zero, List.set_cons_succ])
            refine wpAnyH_take (i := 41) (oi := (⟨some 83, Op.pick (.tmp 78) (.tmp 82) (.const (.bool false)), 4, "law.go:262", #[⟨36, .data⟩, ⟨40, .data⟩, ⟨28, .guard⟩], some (28, false)⟩ : Oper)) (v := ?_) rfl (by kernel_rfl) (by kernel_rfl) (by kernel_rfl) (fun _ _ _ h => h) (Or.inl ⟨by rfl, ?_⟩) (by assumption) ?_
            rotate_left
            · intro w hSw; (try dsimp only at hSw); go_simp <;> with_reducible rfl
            (try simp only [Act.put, List.setIfInBounds_toArray, List.set_cons_zero, List.set_cons_succ])
            refine wpAnyH_take (i := 42) (oi := (⟨some 84, Op.binOp .neq 4 (.tmp 73) (.tmp 83) 4, 4, "law.go:262", #[⟨31, .data⟩, ⟨41, .data⟩, ⟨28, .guard⟩], some (28, false)⟩ : Oper)) (v := ?_) rfl (by kernel_rfl) (by kernel_rfl) (by kernel_rfl) (fun _ _ _ h => h) (Or.inl ⟨by rfl, ?_⟩) (by assumption) ?_
            rotate_left
            · intro w hSw; (try dsimp only at hSw); go_simp <;> with_reducible rfl
            (try simp only [Act.put, List.setIfInBounds_toArray, List.set_cons_zero, List.set_cons_succ])
            refine wpAnyH_take (i := 43) (oi := (⟨some 85, Op.pick (.tmp 70) (.const (.bool true)) (.tmp 84), 4, "law.go:262", #[⟨28, .data⟩, ⟨42, .data⟩], none⟩ : Oper)) (v := ?_) rfl (by kernel_rfl) (by kernel_rfl) (by kernel_rfl) (fun _ _ _ h => h) (Or.inl ⟨by rfl, ?_⟩) (by assumption) ?_
            rotate_left
            · intro w hSw; (try dsimp only at hSw); go_simp <;> with_reducible rfl
            (try simp only [Act.put, List.setIfInBounds_toArray, List.set_cons_zero, List.set_cons_succ])
            refine wpAnyH_take (i := 44) (oi := (⟨some 86, Op.move (.tmp 85), 4, "law.go:262", #[⟨43, .data⟩, ⟨36, .chain⟩], none⟩ : Oper)) (v := ?_) rfl (by kernel_rfl) (by kernel_rfl) (by kernel_rfl) (fun _ _ _ h => h) (Or.inl ⟨by rfl, ?_⟩) (by assumption) ?_
            rotate_left
            · intro w hSw; (try dsimp only at hSw); go_simp <;> with_reducible rfl
            (try simp only [Act.put, List.setIfInBounds_toArray, List.set_cons_zero, List.set_cons_succ])
            refine wpAnyH_take (i := 45) (oi := (⟨some 87, Op.fieldAddr 29 (.tmp 13) 1, 0, "law.go:262", #[⟨44, .guard⟩], some (44, false)⟩ : Oper)) (v := ?_) rfl (by kernel_rfl) (by kernel_rfl) (by kernel_rfl) (fun _ _ _ h => h) (Or.inl ⟨by rfl, ?_⟩) (by assumption) ?_
            rotate_left
            · intro w hSw; (try dsimp only at hSw); go_simp <;> with_reducible rfl
            (try simp only [Act.put, List.setIfInBounds_toArray, List.set_cons_zero, List.set_cons_succ])
            refine wpAnyH_take (i := 46) (oi := (⟨some 88, Op.load 27 (.tmp 87), 27, "law.go:262", #[⟨45, .data⟩, ⟨44, .guard⟩], some (44, false)⟩ : Oper)) (v := ?_) rfl (by kernel_rfl) (by kernel_rfl) (by kernel_rfl) (fun _ _ _ h => h) (Or.inl ⟨by rfl, ?_⟩) (by assumption) ?_
            rotate_left
            · intro w hSw; (try dsimp only at hSw); go_simp <;> with_reducible rfl
            (try simp only [Act.put, List.setIfInBounds_toArray, List.set_cons_zero, List.set_cons_succ])
            refine wpAnyH_take (i := 47) (oi := (⟨some 89, Op.binOp .eql 27 (.tmp 88) (.const (.int IntKind.i64 0)) 27, 4, "law.go:262", #[⟨46, .data⟩, ⟨44, .guard⟩], some (44, false)⟩ : Oper)) (v := ?_) rfl (by kernel_rfl) (by kernel_rfl) (by kernel_rfl) (fun _ _ _ h => h) (Or.inl ⟨by rfl, ?_⟩) (by assumption) ?_
            rotate_left
            · intro w hSw; (try dsimp only at hSw); go_simp <;> with_reducible rfl
            (try simp only [Act.put, List.setIfInBounds_toArray, List.set_cons_zero, List.set_cons_succ])
            refine wpAnyH_take (i := 48) (oi := (⟨some 90, Op.move (.tmp 89), 4, "law.go:262", #[⟨47, .data⟩, ⟨44, .chain⟩, ⟨44, .guard⟩], some (44, false)⟩ : Oper)) (v := ?_) rfl (by kernel_rfl) (by kernel_rfl) (by kernel_rfl) (fun _ _ _ h => h) (Or.inl ⟨by rfl, ?_⟩) (by assumption) ?_
            rotate_left
            · intro w hSw; (try dsimp only at hSw); go_simp <;> with_reducible rfl
            (try simp only [Act.put, List.setIfInBounds_toArray, List.set_cons_zero, List.set_cons_succ])
            refine wpAnyH_take (i := 49) (oi := (⟨some 91, Op.fieldAddr 29 (.tmp 13) 0, 0, "law.go:262", #[⟨48, .guard⟩], some (48, true)⟩ : Oper)) (v := undef) rfl (by kernel_rfl) (by kernel_rfl) (by kernel_rfl) (fun _ _ _ h => h) (Or.inr ⟨by rfl, rfl⟩) (by assumption) ?_
            (try simp only [Act.put, List.setIfInBounds_toArray, List.set_cons_zero, List.set_cons_succ])
            refine wpAnyH_take (i := 50) (oi := (⟨some 92, Op.load 25 (.tmp 91), 25, "law.go:262", #[⟨49, .data⟩, ⟨48, .guard⟩], some (48, true)⟩ : Oper)) (v := undef) rfl (by kernel_rfl) (by kernel_rfl) (by kernel_rfl) (fun _ _ _ h => h) (Or.inr ⟨by rfl, rfl⟩) (by assumption) ?_
            (try simp only [Act.put, List.setIfInBounds_toArray, List.set_cons_zero, List.set_cons_succ])
            refine wpAnyH_take (i := 51) (oi := (⟨some 93, Op.move (.tmp 8), 3, "law.go:262", #[⟨48, .guard⟩], some (48, true)⟩ : Oper)) (v := undef) rfl (by kernel_rfl) (by kernel_rfl) (by kernel_rfl) (fun _ _ _ h => h) (Or.inr ⟨by rfl, rfl⟩) (by assumption) ?_
            (try simp only [Act.put, List.setIfInBounds_toArray, List.set_cons_zero, List.set_cons_succ])
            refine wpAnyH_take (i := 52) (oi := (⟨some 94, Op.move (.tmp 9), 3, "law.go:262", #[⟨48, .guard⟩], some (48, true)⟩ : Oper)) (v := undef) rfl (by kernel_rfl) (by kernel_rfl) (by kernel_rfl) (fun _ _ _ h => h) (Or.inr ⟨by rfl, rfl⟩) (by assumption) ?_
            (try simp only [Act.put, List.setIfInBounds_toArray, List.set_cons_zero, List.set_cons_succ])
            refine wpAnyH_take (i := 53) (oi := (⟨some 95, Op.binOp .sub 3 (.tmp 93) (.tmp 94) 3, 3, "law.go:262", #[⟨51, .data⟩, ⟨52, .data⟩, ⟨48, .guard⟩], some (48, true)⟩ : Oper)) (v := undef) rfl (by kernel_rfl) (by kernel_rfl) (by kernel_rfl) (fun _ _ _ h => h) (Or.inr ⟨by rfl, rfl⟩) (by assumption) ?_
            (try simp only [Act.put, List.setIfInBounds_toArray, List.set_cons_zero, List.set_cons_succ])
            refine wpAnyH_take (i := 54) (oi := (⟨some 96, Op.call { callee := Callee.value (Operand.func 26), args := #[.tmp 95], argTypes := #[3] }, 25, "law.go:262", #[⟨53, .data⟩, ⟨48, .chain⟩, ⟨48, .guard⟩], some (48, true)⟩ : Oper)) (v := undef) rfl (by kernel_rfl) (by kernel_rfl) (by kernel_rfl) (fun _ _ _ h => h) (Or.inr ⟨by rfl, rfl⟩) (by assumption) ?_
            (try simp only [Act.put, List.setIfInBounds_toArray, List.set_cons_zero, List.set_cons_succ])
            refine wpAnyH_take (i := 55) (oi := (⟨some 97, Op.binOp .neq 25 (.tmp 92) (.tmp 96) 25, 4, "law.go:262", #[⟨50, .data⟩, ⟨54, .data⟩, ⟨48, .guard⟩], some (48, true)⟩ : Oper)) (v := undef) rfl (by kernel_rfl) (by kernel_rfl) (by kernel_rfl) (fun _ _ _ h => h) (Or.inr ⟨by rfl, rfl⟩) (by assumption) ?_
            (try simp only [Act.put, List.setIfInBounds_toArray, List.set_cons_zero, List.set_cons_succ])
            refine wpAnyH_take (i := 56) (oi := (⟨some 98, Op.pick (.tmp 90) (.tmp 97) (.const (.bool false)), 4, "law.go:262", #[⟨48, .data⟩, ⟨55, .data⟩, ⟨44, .guard⟩], some (44, false)⟩ : Oper)) (v := ?_) rfl (by kernel_rfl) (by kernel_rfl) (by kernel_rfl) (fun _ _ _ h => h) (Or.inl ⟨by rfl, ?_⟩) (by assumption) ?_
            rotate_left
            · intro w hSw; (try dsimp only at hSw); go_simp <;> with_reducible rfl
            (try simp only [Act.put, List.setIfInBounds_toArray, List.set_cons_zero, List.set_cons_succ])
            refine wpAnyH_take (i := 57) (oi := (⟨some 99, Op.pick (.tmp 86) (.const (.bool true)) (.tmp 98), 4, "law.go:262", #[⟨44, .data⟩, ⟨56, .data⟩], none⟩ : Oper)) (v := ?_) rfl (by kernel_rfl) (by kernel_rfl) (by kernel_rfl) (fun _ _ _ h => h) (Or.inl ⟨by rfl, ?_⟩) (by assumption) ?_
            rotate_left
            · intro w hSw; (try dsimp only at hSw); go_simp <;> with_reducible rfl
            (try simp only [Act.put, List.setIfInBounds_toArray, List.set_cons_zero, List.set_cons_succ])
            refine wpAnyH_done (by kernel_rfl) ?_ _
            go_wp2_with fail
            go_meet
            exact ⟨rfl, by assumption⟩
          · skip
            as_aux_lemma =>
            have mf0 : (mE == 0) = false := by rw [gm]; rfl
            have mf1 : decide (-62 ≤ a + b) = false := by simp; omega
            have df0 : (dE == 0) = false := by rw [gd]; rfl
            have df1 : decide (-62 ≤ a - b) = false := by simp; omega
            clear gm gm1 gd gd1
            refine wp_region_held_drew (S := (fun V => V.cell? ⟨v4.heap.size, 0, none⟩ = some (.int .i64 mN) ∧ V.cell? ⟨v4.heap.size, 1, none⟩ = some (.int .i64 mD) ∧ V.cell? ⟨v4.heap.size, 2, none⟩ = some (.int .i64 mE) ∧ V.cell? ⟨v5.heap.size, 0, none⟩ = some (.int .i64 dN) ∧ V.cell? ⟨v5.heap.size, 1, none⟩ = some (.int .i64 dD) ∧ V.cell? ⟨v5.heap.size, 2, none⟩ = some (.int .i64 dE) ∧ Below wD.heap.size wD V)) (by kernel_rfl) ?_ (fun hHeld => ?_)
            · with_reducible exact ⟨cell_below hsd hm0, cell_below hsd hm1, cell_below hsd hm2, cell_below hsd hd0, cell_below hsd hd1, cell_below hsd hd2, hsd⟩
            refine wpAnyH_take (i := 0) (oi := (⟨some 42, Op.fieldAddr 29 (.tmp 12) 1, 0, "law.go:262", #[], none⟩ : Oper)) (v := ?_) rfl (by kernel_rfl) (by kernel_rfl) (by kernel_rfl) (fun _ _ _ h => h) (Or.inl ⟨by rfl, ?_⟩) (by assumption) ?_
            rotate_left
            · intro w hSw; (try dsimp only at hSw); go_simp <;> with_reducible rfl
            (try simp only [Act.put, List.setIfInBounds_toArray, List.set_cons_zero, List.set_cons_succ])
            refine wpAnyH_take (i := 1) (oi := (⟨some 43, Op.load 27 (.tmp 42), 27, "law.go:262", #[⟨0, .data⟩], none⟩ : Oper)) (v := ?_) rfl (by kernel_rfl) (by kernel_rfl) (by kernel_rfl) (fun _ _ _ h => h) (Or.inl ⟨by rfl, ?_⟩) (by assumption) ?_
            rotate_left
            · intro w hSw; (try dsimp only at hSw); go_simp <;> with_reducible rfl
            (try simp only [Act.put, List.setIfInBounds_toArray, List.set_cons_zero, List.set_cons_succ])
            refine wpAnyH_take (i := 2) (oi := (⟨some 44, Op.binOp .eql 27 (.tmp 43) (.const (.int IntKind.i64 0)) 27, 4, "law.go:262", #[⟨1, .data⟩], none⟩ : Oper)) (v := ?_) rfl (by kernel_rfl) (by kernel_rfl) (by kernel_rfl) (fun _ _ _ h => h) (Or.inl ⟨by rfl, ?_⟩) (by assumption) ?_
            rotate_left
            · intro w hSw; (try dsimp only at hSw); go_simp <;> with_reducible rfl
            (try simp only [Act.put, List.setIfInBounds_toArray, List.set_cons_zero, List.set_cons_succ])
            refine wpAnyH_take (i := 3) (oi := (⟨some 45, Op.move (.tmp 8), 3, "law.go:262", #[], none⟩ : Oper)) (v := ?_) rfl (by kernel_rfl) (by kernel_rfl) (by kernel_rfl) (fun _ _ _ h => h) (Or.inl ⟨by rfl, ?_⟩) (by assumption) ?_
            rotate_left
            · intro w hSw; (try dsimp only at hSw); go_simp <;> with_reducible rfl
            (try simp only [Act.put, List.setIfInBounds_toArray, List.set_cons_zero, List.set_cons_succ])
            refine wpAnyH_take (i := 4) (oi := (⟨some 46, Op.move (.tmp 9), 3, "law.go:262", #[], none⟩ : Oper)) (v := ?_) rfl (by kernel_rfl) (by kernel_rfl) (by kernel_rfl) (fun _ _ _ h => h) (Or.inl ⟨by rfl, ?_⟩) (by assumption) ?_
            rotate_left
            · intro w hSw; (try dsimp only at hSw); go_simp <;> with_reducible rfl
            (try simp only [Act.put, List.setIfInBounds_toArray, List.set_cons_zero, List.set_cons_succ])
            refine wpAnyH_take (i := 5) (oi := (⟨some 47, Op.binOp .add 3 (.tmp 45) (.tmp 46) 3, 3, "law.go:262", #[⟨3, .data⟩, ⟨4, .data⟩], none⟩ : Oper)) (v := ?_) rfl (by kernel_rfl) (by kernel_rfl) (by kernel_rfl) (fun _ _ _ h => h) (Or.inl ⟨by rfl, ?_⟩) (by assumption) ?_
            rotate_left
            · intro w hSw; (try dsimp only at hSw); go_simp <;> with_reducible rfl
            (try simp only [Act.put, List.setIfInBounds_toArray, List.set_cons_zero, List.set_cons_succ])
            refine wpAnyH_take (i := 6) (oi := (⟨some 48, Op.binOp .geq 3 (.tmp 47) (.const (.int IntKind.i64 (-62))) 3, 4, "law.go:262", #[⟨5, .data⟩], none⟩ : Oper)) (v := ?_) rfl (by kernel_rfl) (by kernel_rfl) (by kernel_rfl) (fun _ _ _ h => h) (Or.inl ⟨by rfl, ?_⟩) (by assumption) ?_
            rotate_left
            · intro w hSw; (try dsimp only at hSw); go_simp <;> with_reducible rfl
            (try simp only [Act.put, List.setIfInBounds_toArray, List.set_cons_zero, List.set_cons_succ])
            refine wpAnyH_take (i := 7) (oi := (⟨some 49, Op.move (.tmp 48), 4, "law.go:262", #[⟨6, .data⟩], none⟩ : Oper)) (v := ?_) rfl (by kernel_rfl) (by kernel_rfl) (by kernel_rfl) (fun _ _ _ h => h) (Or.inl ⟨by rfl, ?_⟩) (by assumption) ?_
            rotate_left
            · intro w hSw; (try dsimp only at hSw); go_simp <;> with_reducible rfl
            (try simp only [Act.put, List.setIfInBounds_toArray, List.set_cons_zero, List.set_cons_succ])
            refine wpAnyH_take (i := 8) (oi := (⟨some 50, Op.move (.tmp 8), 3, "law.go:262", #[⟨7, .guard⟩], some (7, true)⟩ : Oper)) (v := undef) rfl (by kernel_rfl) (by kernel_rfl) (by kernel_rfl) (fun _ _ _ h => h) (Or.inr ⟨by rfl, rfl⟩) (by assumption) ?_
            (try simp only [Act.put, List.setIfInBounds_toArray, List.set_cons_zero, List.set_cons_succ])
            refine wpAnyH_take (i := 9) (oi := (⟨some 51, Op.move (.tmp 9), 3, "law.go:262", #[⟨7, .guard⟩], some (7, true)⟩ : Oper)) (v := undef) rfl (by kernel_rfl) (by kernel_rfl) (by kernel_rfl) (fun _ _ _ h => h) (Or.inr ⟨by rfl, rfl⟩) (by assumption) ?_
            (try simp only [Act.put, List.setIfInBounds_toArray, List.set_cons_zero, List.set_cons_succ])
            refine wpAnyH_take (i := 10) (oi := (⟨some 52, Op.binOp .add 3 (.tmp 50) (.tmp 51) 3, 3, "law.go:262", #[⟨8, .data⟩, ⟨9, .data⟩, ⟨7, .guard⟩], some (7, true)⟩ : Oper)) (v := undef) rfl (by kernel_rfl) (by kernel_rfl) (by kernel_rfl) (fun _ _ _ h => h) (Or.inr ⟨by rfl, rfl⟩) (by assumption) ?_
            (try simp only [Act.put, List.setIfInBounds_toArray, List.set_cons_zero, List.set_cons_succ])
            refine wpAnyH_take (i := 11) (oi := (⟨some 53, Op.binOp .leq 3 (.tmp 52) (.const (.int IntKind.i64 62)) 3, 4, "law.go:262", #[⟨10, .data⟩, ⟨7, .guard⟩], some (7, true)⟩ : Oper)) (v := undef) rfl (by kernel_rfl) (by kernel_rfl) (by kernel_rfl) (fun _ _ _ h => h) (Or.inr ⟨by rfl, rfl⟩) (by assumption) ?_
            (try simp only [Act.put, List.setIfInBounds_toArray, List.set_cons_zero, List.set_cons_succ])
            refine wpAnyH_take (i := 12) (oi := (⟨some 54, Op.pick (.tmp 49) (.tmp 53) (.const (.bool false)), 4, "law.go:262", #[⟨7, .data⟩, ⟨11, .data⟩], none⟩ : Oper)) (v := ?_) rfl (by kernel_rfl) (by kernel_rfl) (by kernel_rfl) (fun _ _ _ h => h) (Or.inl ⟨by rfl, ?_⟩) (by assumption) ?_
            rotate_left
            · intro w hSw; (try dsimp only at hSw); go_simp <;> with_reducible rfl
            (try simp only [Act.put, List.setIfInBounds_toArray, List.set_cons_zero, List.set_cons_succ])
            refine wpAnyH_take (i := 13) (oi := (⟨some 55, Op.binOp .neq 4 (.tmp 44) (.tmp 54) 4, 4, "law.go:262", #[⟨2, .data⟩, ⟨12, .data⟩], none⟩ : Oper)) (v := ?_) rfl (by kernel_rfl) (by kernel_rfl) (by kernel_rfl) (fun _ _ _ h => h) (Or.inl ⟨by rfl, ?_⟩) (by assumption) ?_
            rotate_left
            · intro w hSw; (try dsimp only at hSw); go_simp <;> with_reducible rfl
            (try simp only [Act.put, List.setIfInBounds_toArray, List.set_cons_zero, List.set_cons_succ])
            refine wpAnyH_take (i := 14) (oi := (⟨some 56, Op.move (.tmp 55), 4, "law.go:262", #[⟨13, .data⟩, ⟨7, .chain⟩], none⟩ : Oper)) (v := ?_) rfl (by kernel_rfl) (by kernel_rfl) (by kernel_rfl) (fun _ _ _ h => h) (Or.inl ⟨by rfl, ?_⟩) (by assumption) ?_
            rotate_left
            · intro w hSw; (try dsimp only at hSw); go_simp <;> with_reducible rfl
            (try simp only [Act.put, List.setIfInBounds_toArray, List.set_cons_zero, List.set_cons_succ])
            refine wpAnyH_take (i := 15) (oi := (⟨some 57, Op.fieldAddr 29 (.tmp 12) 1, 0, "law.go:262", #[⟨14, .guard⟩], some (14, false)⟩ : Oper)) (v := ?_) rfl (by kernel_rfl) (by kernel_rfl) (by kernel_rfl) (fun _ _ _ h => h) (Or.inl ⟨by rfl, ?_⟩) (by assumption) ?_
            rotate_left
            · intro w hSw; (try dsimp only at hSw); go_simp <;> with_reducible rfl
            (try simp only [Act.put, List.setIfInBounds_toArray, List.set_cons_zero, List.set_cons_succ])
            refine wpAnyH_take (i := 16) (oi := (⟨some 58, Op.load 27 (.tmp 57), 27, "law.go:262", #[⟨15, .data⟩, ⟨14, .guard⟩], some (14, false)⟩ : Oper)) (v := ?_) rfl (by kernel_rfl) (by kernel_rfl) (by kernel_rfl) (fun _ _ _ h => h) (Or.inl ⟨by rfl, ?_⟩) (by assumption) ?_
            rotate_left
            · intro w hSw; (try dsimp only at hSw); go_simp <;> with_reducible rfl
            (try simp only [Act.put, List.setIfInBounds_toArray, List.set_cons_zero, List.set_cons_succ])
            refine wpAnyH_take (i := 17) (oi := (⟨some 59, Op.binOp .eql 27 (.tmp 58) (.const (.int IntKind.i64 0)) 27, 4, "law.go:262", #[⟨16, .data⟩, ⟨14, .guard⟩], some (14, false)⟩ : Oper)) (v := ?_) rfl (by kernel_rfl) (by kernel_rfl) (by kernel_rfl) (fun _ _ _ h => h) (Or.inl ⟨by rfl, ?_⟩) (by assumption) ?_
            rotate_left
            · intro w hSw; (try dsimp only at hSw); go_simp <;> with_reducible rfl
            (try simp only [Act.put, List.setIfInBounds_toArray, List.set_cons_zero, List.set_cons_succ])
            refine wpAnyH_take (i := 18) (oi := (⟨some 60, Op.move (.tmp 59), 4, "law.go:262", #[⟨17, .data⟩, ⟨14, .chain⟩, ⟨14, .guard⟩], some (14, false)⟩ : Oper)) (v := ?_) rfl (by kernel_rfl) (by kernel_rfl) (by kernel_rfl) (fun _ _ _ h => h) (Or.inl ⟨by rfl, ?_⟩) (by assumption) ?_
            rotate_left
            · intro w hSw; (try dsimp only at hSw); go_simp <;> with_reducible rfl
            (try simp only [Act.put, List.setIfInBounds_toArray, List.set_cons_zero, List.set_cons_succ])
            refine wpAnyH_take (i := 19) (oi := (⟨some 61, Op.fieldAddr 29 (.tmp 12) 0, 0, "law.go:262", #[⟨18, .guard⟩], some (18, true)⟩ : Oper)) (v := undef) rfl (by kernel_rfl) (by kernel_rfl) (by kernel_rfl) (fun _ _ _ h => h) (Or.inr ⟨by rfl, rfl⟩) (by assumption) ?_
            (try simp only [Act.put, List.setIfInBounds_toArray, List.set_cons_zero, List.set_cons_succ])
            refine wpAnyH_take (i := 20) (oi := (⟨some 62, Op.load 25 (.tmp 61), 25, "law.go:262", #[⟨19, .data⟩, ⟨18, .guard⟩], some (18, true)⟩ : Oper)) (v := undef) rfl (by kernel_rfl) (by kernel_rfl) (by kernel_rfl) (fun _ _ _ h => h) (Or.inr ⟨by rfl, rfl⟩) (by assumption) ?_
            (try simp only [Act.put, List.setIfInBounds_toArray, List.set_cons_zero, List.set_cons_succ])
            refine wpAnyH_take (i := 21) (oi := (⟨some 63, Op.move (.tmp 8), 3, "law.go:262", #[⟨18, .guard⟩], some (18, true)⟩ : Oper)) (v := undef) rfl (by kernel_rfl) (by kernel_rfl) (by kernel_rfl) (fun _ _ _ h => h) (Or.inr ⟨by rfl, rfl⟩) (by assumption) ?_
            (try simp only [Act.put, List.setIfInBounds_toArray, List.set_cons_zero, List.set_cons_succ])
            refine wpAnyH_take (i := 22) (oi := (⟨some 64, Op.move (.tmp 9), 3, "law.go:262", #[⟨18, .guard⟩], some (18, true)⟩ : Oper)) (v := undef) rfl (by kernel_rfl) (by kernel_rfl) (by kernel_rfl) (fun _ _ _ h => h) (Or.inr ⟨by rfl, rfl⟩) (by assumption) ?_
            (try simp only [Act.put, List.setIfInBounds_toArray, List.set_cons_zero, List.set_cons_succ])
            refine wpAnyH_take (i := 23) (oi := (⟨some 65, Op.binOp .add 3 (.tmp 63) (.tmp 64) 3, 3, "law.go:262", #[⟨21, .data⟩, ⟨22, .data⟩, ⟨18, .guard⟩], some (18, true)⟩ : Oper)) (v := undef) rfl (by kernel_rfl) (by kernel_rfl) (by kernel_rfl) (fun _ _ _ h => h) (Or.inr ⟨by rfl, rfl⟩) (by assumption) ?_
            (try simp only [Act.put, List.setIfInBounds_toArray, List.set_cons_zero, List.set_cons_succ])
            refine wpAnyH_take (i := 24) (oi := (⟨some 66, Op.call { callee := Callee.value (Operand.func 26), args := #[.tmp 65], argTypes := #[3] }, 25, "law.go:262", #[⟨23, .data⟩, ⟨18, .chain⟩, ⟨18, .guard⟩], some (18, true)⟩ : Oper)) (v := undef) rfl (by kernel_rfl) (by kernel_rfl) (by kernel_rfl) (fun _ _ _ h => h) (Or.inr ⟨by rfl, rfl⟩) (by assumption) ?_
            (try simp only [Act.put, List.setIfInBounds_toArray, List.set_cons_zero, List.set_cons_succ])
            refine wpAnyH_take (i := 25) (oi := (⟨some 67, Op.binOp .neq 25 (.tmp 62) (.tmp 66) 25, 4, "law.go:262", #[⟨20, .data⟩, ⟨24, .data⟩, ⟨18, .guard⟩], some (18, true)⟩ : Oper)) (v := undef) rfl (by kernel_rfl) (by kernel_rfl) (by kernel_rfl) (fun _ _ _ h => h) (Or.inr ⟨by rfl, rfl⟩) (by assumption) ?_
            (try simp only [Act.put, List.setIfInBounds_toArray, List.set_cons_zero, List.set_cons_succ])
            refine wpAnyH_take (i := 26) (oi := (⟨some 68, Op.pick (.tmp 60) (.tmp 67) (.const (.bool false)), 4, "law.go:262", #[⟨18, .data⟩, ⟨25, .data⟩, ⟨14, .guard⟩], some (14, false)⟩ : Oper)) (v := ?_) rfl (by kernel_rfl) (by kernel_rfl) (by kernel_rfl) (fun _ _ _ h => h) (Or.inl ⟨by rfl, ?_⟩) (by assumption) ?_
            rotate_left
            · intro w hSw; (try dsimp only at hSw); go_simp <;> with_reducible rfl
            (try simp only [Act.put, List.setIfInBounds_toArray, List.set_cons_zero, List.set_cons_succ])
            refine wpAnyH_take (i := 27) (oi := (⟨some 69, Op.pick (.tmp 56) (.const (.bool true)) (.tmp 68), 4, "law.go:262", #[⟨14, .data⟩, ⟨26, .data⟩], none⟩ : Oper)) (v := ?_) rfl (by kernel_rfl) (by kernel_rfl) (by kernel_rfl) (fun _ _ _ h => h) (Or.inl ⟨by rfl, ?_⟩) (by assumption) ?_
            rotate_left
            · intro w hSw; (try dsimp only at hSw); go_simp <;> with_reducible rfl
            (try simp only [Act.put, List.setIfInBounds_toArray, List.set_cons_zero, List.set_cons_succ])
            refine wpAnyH_take (i := 28) (oi := (⟨some 70, Op.move (.tmp 69), 4, "law.go:262", #[⟨27, .data⟩, ⟨24, .chain⟩], none⟩ : Oper)) (v := ?_) rfl (by kernel_rfl) (by kernel_rfl) (by kernel_rfl) (fun _ _ _ h => h) (Or.inl ⟨by rfl, ?_⟩) (by assumption) ?_
            rotate_left
            · intro w hSw; (try dsimp only at hSw); go_simp <;> with_reducible rfl
            (try simp only [Act.put, List.setIfInBounds_toArray, List.set_cons_zero, List.set_cons_succ])
            refine wpAnyH_take (i := 29) (oi := (⟨some 71, Op.fieldAddr 29 (.tmp 13) 1, 0, "law.go:262", #[⟨28, .guard⟩], some (28, false)⟩ : Oper)) (v := ?_) rfl (by kernel_rfl) (by kernel_rfl) (by kernel_rfl) (fun _ _ _ h => h) (Or.inl ⟨by rfl, ?_⟩) (by assumption) ?_
            rotate_left
            · intro w hSw; (try dsimp only at hSw); go_simp <;> with_reducible rfl
            (try simp only [Act.put, List.setIfInBounds_toArray, List.set_cons_zero, List.set_cons_succ])
            refine wpAnyH_take (i := 30) (oi := (⟨some 72, Op.load 27 (.tmp 71), 27, "law.go:262", #[⟨29, .data⟩, ⟨28, .guard⟩], some (28, false)⟩ : Oper)) (v := ?_) rfl (by kernel_rfl) (by kernel_rfl) (by kernel_rfl) (fun _ _ _ h => h) (Or.inl ⟨by rfl, ?_⟩) (by assumption) ?_
            rotate_left
            · intro w hSw; (try dsimp only at hSw); go_simp <;> with_reducible rfl
            (try simp only [Act.put, List.setIfInBounds_toArray, List.set_cons_zero, List.set_cons_succ])
            refine wpAnyH_take (i := 31) (oi := (⟨some 73, Op.binOp .eql 27 (.tmp 72) (.const (.int IntKind.i64 0)) 27, 4, "law.go:262", #[⟨30, .data⟩, ⟨28, .guard⟩], some (28, false)⟩ : Oper)) (v := ?_) rfl (by kernel_rfl) (by kernel_rfl) (by kernel_rfl) (fun _ _ _ h => h) (Or.inl ⟨by rfl, ?_⟩) (by assumption) ?_
            rotate_left
            · intro w hSw; (try dsimp only at hSw); go_simp <;> with_reducible rfl
            (try simp only [Act.put, List.setIfInBounds_toArray, List.set_cons_zero, List.set_cons_succ])
            refine wpAnyH_take (i := 32) (oi := (⟨some 74, Op.move (.tmp 8), 3, "law.go:262", #[⟨28, .guard⟩], some (28, false)⟩ : Oper)) (v := ?_) rfl (by kernel_rfl) (by kernel_rfl) (by kernel_rfl) (fun _ _ _ h => h) (Or.inl ⟨by rfl, ?_⟩) (by assumption) ?_
            rotate_left
            · intro w hSw; (try dsimp only at hSw); go_simp <;> with_reducible rfl
            (try simp only [Act.put, List.setIfInBounds_toArray, List.set_cons_zero, List.set_cons_succ])
            refine wpAnyH_take (i := 33) (oi := (⟨some 75, Op.move (.tmp 9), 3, "law.go:262", #[⟨28, .guard⟩], some (28, false)⟩ : Oper)) (v := ?_) rfl (by kernel_rfl) (by kernel_rfl) (by kernel_rfl) (fun _ _ _ h => h) (Or.inl ⟨by rfl, ?_⟩) (by assumption) ?_
            rotate_left
            · intro w hSw; (try dsimp only at hSw); go_simp <;> with_reducible rfl
            (try simp only [Act.put, List.setIfInBounds_toArray, List.set_cons_zero, List.set_cons_succ])
            refine wpAnyH_take (i := 34) (oi := (⟨some 76, Op.binOp .sub 3 (.tmp 74) (.tmp 75) 3, 3, "law.go:262", #[⟨32, .data⟩, ⟨33, .data⟩, ⟨28, .guard⟩], some (28, false)⟩ : Oper)) (v := ?_) rfl (by kernel_rfl) (by kernel_rfl) (by kernel_rfl) (fun _ _ _ h => h) (Or.inl ⟨by rfl, ?_⟩) (by assumption) ?_
            rotate_left
            · intro w hSw; (try dsimp only at hSw); go_simp <;> with_reducible rfl
            (try simp only [Act.put, List.setIfInBounds_toArray, List.set_cons_zero, List.set_cons_succ])
            refine wpAnyH_take (i := 35) (oi := (⟨some 77, Op.binOp .geq 3 (.tmp 76) (.const (.int IntKind.i64 (-62))) 3, 4, "law.go:262", #[⟨34, .data⟩, ⟨28, .guard⟩], some (28, false)⟩ : Oper)) (v := ?_) rfl (by kernel_rfl) (by kernel_rfl) (by kernel_rfl) (fun _ _ _ h => h) (Or.inl ⟨by rfl, ?_⟩) (by assumption) ?_
            rotate_left
            · intro w hSw; (try dsimp only at hSw); go_simp <;> with_reducible rfl
            (try simp only [Act.put, List.setIfInBounds_toArray, List.set_cons_zero, List.set_cons_succ])
            refine wpAnyH_take (i := 36) (oi := (⟨some 78, Op.move (.tmp 77), 4, "law.go:262", #[⟨35, .data⟩, ⟨28, .chain⟩, ⟨28, .guard⟩], some (28, false)⟩ : Oper)) (v := ?_) rfl (by kernel_rfl) (by kernel_rfl) (by kernel_rfl) (fun _ _ _ h => h) (Or.inl ⟨by rfl, ?_⟩) (by assumption) ?_
            rotate_left
            · intro w hSw; (try dsimp only at hSw); go_simp <;> with_reducible rfl
            (try simp only [Act.put, List.setIfInBounds_toArray, List.set_cons_zero, List.set_cons_succ])
            refine wpAnyH_take (i := 37) (oi := (⟨some 79, Op.move (.tmp 8), 3, "law.go:262", #[⟨36, .guard⟩], some (36, true)⟩ : Oper)) (v := undef) rfl (by kernel_rfl) (by kernel_rfl) (by kernel_rfl) (fun _ _ _ h => h) (Or.inr ⟨by rfl, rfl⟩) (by assumption) ?_
            (try simp only [Act.put, List.setIfInBounds_toArray, List.set_cons_zero, List.set_cons_succ])
            refine wpAnyH_take (i := 38) (oi := (⟨some 80, Op.move (.tmp 9), 3, "law.go:262", #[⟨36, .guard⟩], some (36, true)⟩ : Oper)) (v := undef) rfl (by kernel_rfl) (by kernel_rfl) (by kernel_rfl) (fun _ _ _ h => h) (Or.inr ⟨by rfl, rfl⟩) (by assumption) ?_
            (try simp only [Act.put, List.setIfInBounds_toArray, List.set_cons_zero, List.set_cons_succ])
            refine wpAnyH_take (i := 39) (oi := (⟨some 81, Op.binOp .sub 3 (.tmp 79) (.tmp 80) 3, 3, "law.go:262", #[⟨37, .data⟩, ⟨38, .data⟩, ⟨36, .guard⟩], some (36, true)⟩ : Oper)) (v := undef) rfl (by kernel_rfl) (by kernel_rfl) (by kernel_rfl) (fun _ _ _ h => h) (Or.inr ⟨by rfl, rfl⟩) (by assumption) ?_
            (try simp only [Act.put, List.setIfInBounds_toArray, List.set_cons_zero, List.set_cons_succ])
            refine wpAnyH_take (i := 40) (oi := (⟨some 82, Op.binOp .leq 3 (.tmp 81) (.const (.int IntKind.i64 62)) 3, 4, "law.go:262", #[⟨39, .data⟩, ⟨36, .guard⟩], some (36, true)⟩ : Oper)) (v := undef) rfl (by kernel_rfl) (by kernel_rfl) (by kernel_rfl) (fun _ _ _ h => h) (Or.inr ⟨by rfl, rfl⟩) (by assumption) ?_
            (try simp only [Act.put, List.setIfInBounds_toArray, List.set_cons_zero, List.set_cons_succ])
            refine wpAnyH_take (i := 41) (oi := (⟨some 83, Op.pick (.tmp 78) (.tmp 82) (.const (.bool false)), 4, "law.go:262", #[⟨36, .data⟩, ⟨40, .data⟩, ⟨28, .guard⟩], some (28, false)⟩ : Oper)) (v := ?_) rfl (by kernel_rfl) (by kernel_rfl) (by kernel_rfl) (fun _ _ _ h => h) (Or.inl ⟨by rfl, ?_⟩) (by assumption) ?_
            rotate_left
            · intro w hSw; (try dsimp only at hSw); go_simp <;> with_reducible rfl
            (try simp only [Act.put, List.setIfInBounds_toArray, List.set_cons_zero, List.set_cons_succ])
            refine wpAnyH_take (i := 42) (oi := (⟨some 84, Op.binOp .neq 4 (.tmp 73) (.tmp 83) 4, 4, "law.go:262", #[⟨31, .data⟩, ⟨41, .data⟩, ⟨28, .guard⟩], some (28, false)⟩ : Oper)) (v := ?_) rfl (by kernel_rfl) (by kernel_rfl) (by kernel_rfl) (fun _ _ _ h => h) (Or.inl ⟨by rfl, ?_⟩) (by assumption) ?_
            rotate_left
            · intro w hSw; (try dsimp only at hSw); go_simp <;> with_reducible rfl
            (try simp only [Act.put, List.setIfInBounds_toArray, List.set_cons_zero, List.set_cons_succ])
            refine wpAnyH_take (i := 43) (oi := (⟨some 85, Op.pick (.tmp 70) (.const (.bool true)) (.tmp 84), 4, "law.go:262", #[⟨28, .data⟩, ⟨42, .data⟩], none⟩ : Oper)) (v := ?_) rfl (by kernel_rfl) (by kernel_rfl) (by kernel_rfl) (fun _ _ _ h => h) (Or.inl ⟨by rfl, ?_⟩) (by assumption) ?_
            rotate_left
            · intro w hSw; (try dsimp only at hSw); go_simp <;> with_reducible rfl
            (try simp only [Act.put, List.setIfInBounds_toArray, List.set_cons_zero, List.set_cons_succ])
            refine wpAnyH_take (i := 44) (oi := (⟨some 86, Op.move (.tmp 85), 4, "law.go:262", #[⟨43, .data⟩, ⟨36, .chain⟩], none⟩ : Oper)) (v := ?_) rfl (by kernel_rfl) (by kernel_rfl) (by kernel_rfl) (fun _ _ _ h => h) (Or.inl ⟨by rfl, ?_⟩) (by assumption) ?_
            rotate_left
            · intro w hSw; (try dsimp only at hSw); go_simp <;> with_reducible rfl
            (try simp only [Act.put, List.setIfInBounds_toArray, List.set_cons_zero, List.set_cons_succ])
            refine wpAnyH_take (i := 45) (oi := (⟨some 87, Op.fieldAddr 29 (.tmp 13) 1, 0, "law.go:262", #[⟨44, .guard⟩], some (44, false)⟩ : Oper)) (v := ?_) rfl (by kernel_rfl) (by kernel_rfl) (by kernel_rfl) (fun _ _ _ h => h) (Or.inl ⟨by rfl, ?_⟩) (by assumption) ?_
            rotate_left
            · intro w hSw; (try dsimp only at hSw); go_simp <;> with_reducible rfl
            (try simp only [Act.put, List.setIfInBounds_toArray, List.set_cons_zero, List.set_cons_succ])
            refine wpAnyH_take (i := 46) (oi := (⟨some 88, Op.load 27 (.tmp 87), 27, "law.go:262", #[⟨45, .data⟩, ⟨44, .guard⟩], some (44, false)⟩ : Oper)) (v := ?_) rfl (by kernel_rfl) (by kernel_rfl) (by kernel_rfl) (fun _ _ _ h => h) (Or.inl ⟨by rfl, ?_⟩) (by assumption) ?_
            rotate_left
            · intro w hSw; (try dsimp only at hSw); go_simp <;> with_reducible rfl
            (try simp only [Act.put, List.setIfInBounds_toArray, List.set_cons_zero, List.set_cons_succ])
            refine wpAnyH_take (i := 47) (oi := (⟨some 89, Op.binOp .eql 27 (.tmp 88) (.const (.int IntKind.i64 0)) 27, 4, "law.go:262", #[⟨46, .data⟩, ⟨44, .guard⟩], some (44, false)⟩ : Oper)) (v := ?_) rfl (by kernel_rfl) (by kernel_rfl) (by kernel_rfl) (fun _ _ _ h => h) (Or.inl ⟨by rfl, ?_⟩) (by assumption) ?_
            rotate_left
            · intro w hSw; (try dsimp only at hSw); go_simp <;> with_reducible rfl
            (try simp only [Act.put, List.setIfInBounds_toArray, List.set_cons_zero, List.set_cons_succ])
            refine wpAnyH_take (i := 48) (oi := (⟨some 90, Op.move (.tmp 89), 4, "law.go:262", #[⟨47, .data⟩, ⟨44, .chain⟩, ⟨44, .guard⟩], some (44, false)⟩ : Oper)) (v := ?_) rfl (by kernel_rfl) (by kernel_rfl) (by kernel_rfl) (fun _ _ _ h => h) (Or.inl ⟨by rfl, ?_⟩) (by assumption) ?_
            rotate_left
            · intro w hSw; (try dsimp only at hSw); go_simp <;> with_reducible rfl
            (try simp only [Act.put, List.setIfInBounds_toArray, List.set_cons_zero, List.set_cons_succ])
            refine wpAnyH_take (i := 49) (oi := (⟨some 91, Op.fieldAddr 29 (.tmp 13) 0, 0, "law.go:262", #[⟨48, .guard⟩], some (48, true)⟩ : Oper)) (v := undef) rfl (by kernel_rfl) (by kernel_rfl) (by kernel_rfl) (fun _ _ _ h => h) (Or.inr ⟨by rfl, rfl⟩) (by assumption) ?_
            (try simp only [Act.put, List.setIfInBounds_toArray, List.set_cons_zero, List.set_cons_succ])
            refine wpAnyH_take (i := 50) (oi := (⟨some 92, Op.load 25 (.tmp 91), 25, "law.go:262", #[⟨49, .data⟩, ⟨48, .guard⟩], some (48, true)⟩ : Oper)) (v := undef) rfl (by kernel_rfl) (by kernel_rfl) (by kernel_rfl) (fun _ _ _ h => h) (Or.inr ⟨by rfl, rfl⟩) (by assumption) ?_
            (try simp only [Act.put, List.setIfInBounds_toArray, List.set_cons_zero, List.set_cons_succ])
            refine wpAnyH_take (i := 51) (oi := (⟨some 93, Op.move (.tmp 8), 3, "law.go:262", #[⟨48, .guard⟩], some (48, true)⟩ : Oper)) (v := undef) rfl (by kernel_rfl) (by kernel_rfl) (by kernel_rfl) (fun _ _ _ h => h) (Or.inr ⟨by rfl, rfl⟩) (by assumption) ?_
            (try simp only [Act.put, List.setIfInBounds_toArray, List.set_cons_zero, List.set_cons_succ])
            refine wpAnyH_take (i := 52) (oi := (⟨some 94, Op.move (.tmp 9), 3, "law.go:262", #[⟨48, .guard⟩], some (48, true)⟩ : Oper)) (v := undef) rfl (by kernel_rfl) (by kernel_rfl) (by kernel_rfl) (fun _ _ _ h => h) (Or.inr ⟨by rfl, rfl⟩) (by assumption) ?_
            (try simp only [Act.put, List.setIfInBounds_toArray, List.set_cons_zero, List.set_cons_succ])
            refine wpAnyH_take (i := 53) (oi := (⟨some 95, Op.binOp .sub 3 (.tmp 93) (.tmp 94) 3, 3, "law.go:262", #[⟨51, .data⟩, ⟨52, .data⟩, ⟨48, .guard⟩], some (48, true)⟩ : Oper)) (v := undef) rfl (by kernel_rfl) (by kernel_rfl) (by kernel_rfl) (fun _ _ _ h => h) (Or.inr ⟨by rfl, rfl⟩) (by assumption) ?_
            (try simp only [Act.put, List.setIfInBounds_toArray, List.set_cons_zero, List.set_cons_succ])
            refine wpAnyH_take (i := 54) (oi := (⟨some 96, Op.call { callee := Callee.value (Operand.func 26), args := #[.tmp 95], argTypes := #[3] }, 25, "law.go:262", #[⟨53, .data⟩, ⟨48, .chain⟩, ⟨48, .guard⟩], some (48, true)⟩ : Oper)) (v := undef) rfl (by kernel_rfl) (by kernel_rfl) (by kernel_rfl) (fun _ _ _ h => h) (Or.inr ⟨by rfl, rfl⟩) (by assumption) ?_
            (try simp only [Act.put, List.setIfInBounds_toArray, List.set_cons_zero, List.set_cons_succ])
            refine wpAnyH_take (i := 55) (oi := (⟨some 97, Op.binOp .neq 25 (.tmp 92) (.tmp 96) 25, 4, "law.go:262", #[⟨50, .data⟩, ⟨54, .data⟩, ⟨48, .guard⟩], some (48, true)⟩ : Oper)) (v := undef) rfl (by kernel_rfl) (by kernel_rfl) (by kernel_rfl) (fun _ _ _ h => h) (Or.inr ⟨by rfl, rfl⟩) (by assumption) ?_
            (try simp only [Act.put, List.setIfInBounds_toArray, List.set_cons_zero, List.set_cons_succ])
            refine wpAnyH_take (i := 56) (oi := (⟨some 98, Op.pick (.tmp 90) (.tmp 97) (.const (.bool false)), 4, "law.go:262", #[⟨48, .data⟩, ⟨55, .data⟩, ⟨44, .guard⟩], some (44, false)⟩ : Oper)) (v := ?_) rfl (by kernel_rfl) (by kernel_rfl) (by kernel_rfl) (fun _ _ _ h => h) (Or.inl ⟨by rfl, ?_⟩) (by assumption) ?_
            rotate_left
            · intro w hSw; (try dsimp only at hSw); go_simp <;> with_reducible rfl
            (try simp only [Act.put, List.setIfInBounds_toArray, List.set_cons_zero, List.set_cons_succ])
            refine wpAnyH_take (i := 57) (oi := (⟨some 99, Op.pick (.tmp 86) (.const (.bool true)) (.tmp 98), 4, "law.go:262", #[⟨44, .data⟩, ⟨56, .data⟩], none⟩ : Oper)) (v := ?_) rfl (by kernel_rfl) (by kernel_rfl) (by kernel_rfl) (fun _ _ _ h => h) (Or.inl ⟨by rfl, ?_⟩) (by assumption) ?_
            rotate_left
            · intro w hSw; (try dsimp only at hSw); go_simp <;> with_reducible rfl
            (try simp only [Act.put, List.setIfInBounds_toArray, List.set_cons_zero, List.set_cons_succ])
            refine wpAnyH_done (by kernel_rfl) ?_ _
            go_wp2_with fail
            go_meet
            exact ⟨rfl, by assumption⟩
  case rest =>
  as_aux_lemma =>
  obtain ⟨rfl, hC⟩ := hcut
  clear hx0 hx1 hy0 hy1 hm0 hm1 hm2 hd0 hd1 hd2 hz
  obtain ⟨wE0, rfl⟩ : ∃ wE0 : World, wE0 = wc := ⟨_, rfl⟩
  have BE0 := hid (hC)
  have UE0 := hid (below_step U3.out hC)
  clear hC
  obtain ⟨hx0, hx1, hy0, hy1, hm0, hm1, hm2, hd0, hd1, hd2, hz⟩ := K3.out wE0 BE0.out
  obtain ⟨hi, hhi⟩ : ∃ n, max a b = n := ⟨_, rfl⟩
  obtain ⟨lo, hlo⟩ : ∃ n, min a b = n := ⟨_, rfl⟩
  have HI := hid hhi
  have LO := hid hlo
  clear hhi hlo
  go_upto_region 12 with fail
  go_cut [14] (fun s wx => s = .int .i64 hi ∧ Below wE0.heap.size wE0 wx)
  case first =>
    as_aux_lemma =>
    go_wp2_with fail
    go_meet
    exact ⟨by rw [← HI.out], Below.refl _ _⟩
  case rest =>
  as_aux_lemma =>
  obtain ⟨rfl, hC⟩ := hcut
  clear hx0 hx1 hy0 hy1 hm0 hm1 hm2 hd0 hd1 hd2 hz
  obtain ⟨wE1, rfl⟩ : ∃ wE1 : World, wE1 = wc := ⟨_, rfl⟩
  have BE1 := hid (below_step BE0.out hC)
  have UE1 := hid (below_step UE0.out hC)
  clear hC
  obtain ⟨hx0, hx1, hy0, hy1, hm0, hm1, hm2, hd0, hd1, hd2, hz⟩ := K3.out wE1 BE1.out
  go_upto_region 13 with fail
  go_cut [15] (fun s wx => s = .int .i64 lo ∧ Below wE1.heap.size wE1 wx)
  case first =>
    as_aux_lemma =>
    go_wp2_with fail
    go_meet
    exact ⟨by rw [← LO.out], Below.refl _ _⟩
  case rest =>
  as_aux_lemma =>
  obtain ⟨rfl, hC⟩ := hcut
  clear hx0 hx1 hy0 hy1 hm0 hm1 hm2 hd0 hd1 hd2 hz
  obtain ⟨wE, rfl⟩ : ∃ wE : World, wE = wc := ⟨_, rfl⟩
  have BE := hid (below_step BE1.out hC)
  have UE := hid (below_step UE1.out hC)
  clear hC
  obtain ⟨hx0, hx1, hy0, hy1, hm0, hm1, hm2, hd0, hd1, hd2, hz⟩ := K3.out wE BE.out
  go_wp2_with fail
  refine (S1.out _).mono ?_
  rintro e v6 ⟨rfl, hb⟩
  have Cv6 := hid (below_step BE.out hb)
  have Tv6 := hid (below_step UE.out hb)
  clear hb hx0 hx1 hy0 hy1 hm0 hm1 hm2 hd0 hd1 hd2 hz
  go_upto_region 15 with fail
  generalize hw : v6.alloc (.cells #[.int .i64 sN, .int .i64 sD, .int .i64 sE] 29) = wF
  have h2 : Below v6.heap.size v6 wF := by rw [← hw]; exact ((Below.refl _ _).alloc (by first | exact Nat.le_refl _ | (simp; done) | (simp; omega) | omega | (simp [World.drewN]; omega)) _)
  have hp := K3.out wF (below_step Cv6.out h2)
  have K4 := hid (fun V (hV : Below wF.heap.size wF V) => show V.cell? ⟨v2.heap.size, 0, none⟩ = some (.int .i64 aN) ∧ V.cell? ⟨v2.heap.size, 1, none⟩ = some (.int .i64 aD) ∧ V.cell? ⟨v3.heap.size, 0, none⟩ = some (.int .i64 bN) ∧ V.cell? ⟨v3.heap.size, 1, none⟩ = some (.int .i64 bD) ∧ V.cell? ⟨v6.heap.size, 0, none⟩ = some (.int .i64 sN) ∧ V.cell? ⟨v6.heap.size, 1, none⟩ = some (.int .i64 sD) ∧ V.cell? ⟨v6.heap.size, 2, none⟩ = some (.int .i64 sE) ∧ wF.heap.size ≤ V.heap.size from ⟨cell_below hV hp.1, cell_below hV hp.2.1, cell_below hV hp.2.2.1, cell_below hV hp.2.2.2.1, cell_below hV (show wF.cell? ⟨v6.heap.size, 0, none⟩ = some (.int .i64 sN) by rw [← hw]; simp [go_sem]), cell_below hV (show wF.cell? ⟨v6.heap.size, 1, none⟩ = some (.int .i64 sD) by rw [← hw]; simp [go_sem]), cell_below hV (show wF.cell? ⟨v6.heap.size, 2, none⟩ = some (.int .i64 sE) by rw [← hw]; simp [go_sem]), hV.size⟩)
  have UF2 := hid (below_step Tv6.out h2)
  clear hw h2 hp
  obtain ⟨hx0, hx1, hy0, hy1, hs0, hs1, hs2, hz⟩ := K4.out wF (Below.refl _ _)
  obtain ⟨f1, hf1⟩ : ∃ f, (decide (hi ≤ 61) && decide (hi - min lo 0 ≤ 61)) = f := ⟨_, rfl⟩
  obtain ⟨f2, hf2⟩ : ∃ f, fitsB a b = f := ⟨_, rfl⟩
  have HF1 := hid hf1
  have HF2 := hid hf2
  clear hf1 hf2
  have RHL := hid (show -62 ≤ lo ∧ lo ≤ hi ∧ hi ≤ 62 by have k1 := RA.out; have k2 := RB.out; rw [← HI.out, ← LO.out]; omega)
  go_cut [17] (fun s wx => s = .bool f1 ∧ Below wF.heap.size wF wx)
  case first =>
    as_aux_lemma =>
    have w3 : IntKind.i64.wrap (hi - min lo 0) = hi - min lo 0 := by have k1 := RHL.out; rw [IntKind.wrap_i64]; omega
    by_cases h1 : hi ≤ 61
    · have t1 : decide (hi ≤ 61) = true := decide_eq_true h1
      by_cases h2 : hi - min lo 0 ≤ 61
      · have t2 : decide (hi - min lo 0 ≤ 61) = true := decide_eq_true h2
        clear h1 h2
        go_wp2_with fail
        go_meet
        exact ⟨by rw [← HF1.out, t1, t2]; rfl, Below.refl _ _⟩
      · have t2 : decide (hi - min lo 0 ≤ 61) = false := decide_eq_false h2
        clear h1 h2
        go_wp2_with fail
        go_meet
        exact ⟨by rw [← HF1.out, t1, t2]; rfl, Below.refl _ _⟩
    · have t1 : decide (hi ≤ 61) = false := decide_eq_false h1
      clear h1
      go_wp2_with fail
      go_meet
      exact ⟨by rw [← HF1.out, t1]; rfl, Below.refl _ _⟩
  case rest =>
  as_aux_lemma =>
  obtain ⟨rfl, hC⟩ := hcut
  clear hx0 hx1 hy0 hy1 hs0 hs1 hs2 hz
  obtain ⟨wG, rfl⟩ : ∃ wG : World, wG = wc := ⟨_, rfl⟩
  have BG := hid (hC)
  have UG := hid (below_step UF2.out hC)
  clear hC
  obtain ⟨hx0, hx1, hy0, hy1, hs0, hs1, hs2, hz⟩ := K4.out wG BG.out
  go_upto_if 120 with fail
  go_cut [17] (fun s wx => s = .bool f2 ∧ Below wG.heap.size wG wx)
  case first =>
    as_aux_lemma =>
    by_cases h1 : hi = lo
    · have t1 : (hi == lo) = true := by simp [h1]
      have t2 : decide (hi = lo) = true := by simp [h1]
      clear h1
      go_wp2_with fail
      go_meet
      exact ⟨by rw [← HF2.out]; unfold fitsB; rw [HI.out, LO.out, t1]; rfl, Below.refl _ _⟩
    · have t1 : (hi == lo) = false := by simp [h1]
      have t2 : decide (hi = lo) = false := by simp [h1]
      clear h1
      go_wp2_with fail
      go_meet
      exact ⟨by rw [← HF2.out, ← HF1.out]; unfold fitsB; rw [HI.out, LO.out, t1]; rfl, Below.refl _ _⟩
  case rest =>
  as_aux_lemma =>
  obtain ⟨rfl, hC⟩ := hcut
  clear hx0 hx1 hy0 hy1 hs0 hs1 hs2 hz
  obtain ⟨wH, rfl⟩ : ∃ wH : World, wH = wc := ⟨_, rfl⟩
  have BH := hid (below_step BG.out hC)
  have UH := hid (below_step UG.out hC)
  clear hC
  obtain ⟨hx0, hx1, hy0, hy1, hs0, hs1, hs2, hz⟩ := K4.out wH BH.out
  go_upto_region 18 with fail
  go_cut [137] (fun s wx => s = .bool false ∧ Below wH.heap.size wH wx)
  case first =>
    as_aux_lemma =>
    obtain ⟨uf1, uf2⟩ := UF.out
    rw [HF2.out] at uf1
    rcases uf2 with huf | huf
    · have z0 : (sE == 0) = true := by rw [huf]; rfl
      have z1 : (sE != 0) = false := by rw [huf]; rfl
      have z2 : f2 = true := by rw [← uf1, z0]
      clear huf uf1
      go_wp2_with fail
      go_meet
      exact ⟨rfl, Below.refl _ _⟩
    · have z0 : (sE == 0) = false := by rw [huf]; rfl
      have z1 : (sE != 0) = true := by rw [huf]; rfl
      have z3 : (sE == 2) = true := by rw [huf]; rfl
      have z4 : (sE != 2) = false := by rw [huf]; rfl
      have z2 : f2 = false := by rw [← uf1, z0]
      clear huf uf1
      go_wp2_with fail
      go_meet
      exact ⟨rfl, Below.refl _ _⟩
  case rest =>
  as_aux_lemma =>
  obtain ⟨rfl, hC⟩ := hcut
  clear hx0 hx1 hy0 hy1 hs0 hs1 hs2 hz
  obtain ⟨wI, rfl⟩ : ∃ wI : World, wI = wc := ⟨_, rfl⟩
  have BI := hid (below_step BH.out hC)
  have UI := hid (below_step UH.out hC)
  clear hC
  obtain ⟨hx0, hx1, hy0, hy1, hs0, hs1, hs2, hz⟩ := K4.out wI BI.out
  go_wp2_with fail
  refine (MO.out _).mono ?_
  rintro e v7 ⟨rfl, rfl⟩
  clear hx0 hx1 hy0 hy1 hs0 hs1 hs2 hz
  go_upto_if 141 with fail
  go_cut [] (fun wx => Ends wI oN eN wx)
  case first =>
    as_aux_lemma =>
    go_wp2_with fail
    · rename_i z
      have k := ends_t z EO.out
      go_meet
      rw [k.1, k.2]
      exact ends_is (by simp [go_sem]) (by simp [go_sem]) (by simp [go_sem]) (by simp [go_sem]) (by simp) (((Below.refl _ _).alloc (by first | exact Nat.le_refl _ | (simp; done) | (simp; omega) | omega | (simp [World.drewN]; omega)) _).alloc (by first | exact Nat.le_refl _ | (simp; done) | (simp; omega) | omega | (simp [World.drewN]; omega)) _)
    · rename_i z
      have k := ends_f z EO.out
      go_meet
      rw [k.1, k.2]
      exact ends_is (by simp [go_sem]) (by simp [go_sem]) (by simp [go_sem]) (by simp [go_sem]) (by simp) (((Below.refl _ _).alloc (by first | exact Nat.le_refl _ | (simp; done) | (simp; omega) | omega | (simp [World.drewN]; omega)) _).alloc (by first | exact Nat.le_refl _ | (simp; done) | (simp; omega) | omega | (simp [World.drewN]; omega)) _)
  case rest =>
  as_aux_lemma =>
  obtain ⟨c0, c1, c2, c3, hzx, hC⟩ := hcut
  obtain ⟨wJ, rfl⟩ : ∃ wJ : World, wJ = wc := ⟨_, rfl⟩
  have TJ := hid (below_step UI.out hC)
  have K5 := hid (fun V (hV : Below wJ.heap.size wJ V) => show V.cell? ⟨wI.heap.size, 0, none⟩ = some (.int .i64 oN) ∧ V.cell? ⟨wI.heap.size, 1, none⟩ = some (.int .i64 1) ∧ V.cell? ⟨wI.heap.size + 1, 0, none⟩ = some (.int .i64 eN) ∧ V.cell? ⟨wI.heap.size + 1, 1, none⟩ = some (.int .i64 1) ∧ wJ.heap.size ≤ V.heap.size from ⟨cell_below hV c0, cell_below hV c1, cell_below hV c2, cell_below hV c3, hV.size⟩)
  clear c0 c1 c2 c3 hzx hC
  obtain ⟨ho0, ho1, he0, he1, hz⟩ := K5.out wJ (Below.refl _ _)
  go_wp2_with fail
  refine (SB.out _).mono ?_
  rintro e v8 ⟨rfl, hb⟩
  have Cv8 := hid (below_step (Below.refl _ _) hb)
  have Tv8 := hid (below_step TJ.out hb)
  clear hb ho0 ho1 he0 he1 hz
  go_upto_region 26 with fail
  generalize hw : v8.alloc (.cells #[.int .i64 gN, .int .i64 1, .int .i64 0] 29) = wL
  have h2 : Below v8.heap.size v8 wL := by rw [← hw]; exact ((Below.refl _ _).alloc (by first | exact Nat.le_refl _ | (simp; done) | (simp; omega) | omega | (simp [World.drewN]; omega)) _)
  have hp := K5.out wL (below_step Cv8.out h2)
  have K6 := hid (fun V (hV : Below wL.heap.size wL V) => show V.cell? ⟨wI.heap.size, 0, none⟩ = some (.int .i64 oN) ∧ V.cell? ⟨wI.heap.size, 1, none⟩ = some (.int .i64 1) ∧ V.cell? ⟨wI.heap.size + 1, 0, none⟩ = some (.int .i64 eN) ∧ V.cell? ⟨wI.heap.size + 1, 1, none⟩ = some (.int .i64 1) ∧ V.cell? ⟨v8.heap.size, 0, none⟩ = some (.int .i64 gN) ∧ V.cell? ⟨v8.heap.size, 1, none⟩ = some (.int .i64 1) ∧ V.cell? ⟨v8.heap.size, 2, none⟩ = some (.int .i64 0) ∧ wL.heap.size ≤ V.heap.size from ⟨cell_below hV hp.1, cell_below hV hp.2.1, cell_below hV hp.2.2.1, cell_below hV hp.2.2.2.1, cell_below hV (show wL.cell? ⟨v8.heap.size, 0, none⟩ = some (.int .i64 gN) by rw [← hw]; simp [go_sem]), cell_below hV (show wL.cell? ⟨v8.heap.size, 1, none⟩ = some (.int .i64 1) by rw [← hw]; simp [go_sem]), cell_below hV (show wL.cell? ⟨v8.heap.size, 2, none⟩ = some (.int .i64 0) by rw [← hw]; simp [go_sem]), hV.size⟩)
  have TL := hid (below_step Tv8.out h2)
  clear hw h2 hp
  obtain ⟨ho0, ho1, he0, he1, hg0, hg1, hg2, hz⟩ := K6.out wL (Below.refl _ _)
  have fe := field_e
  have ff := field_f
  have hsd := (Below.refl wL.heap.size wL).drew
  have hs : Below wL.heap.size wL wL := Below.refl _ _
  go_region_held3 (fun V => V.cell? ⟨wI.heap.size, 0, none⟩ = some (.int .i64 oN) ∧ V.cell? ⟨wI.heap.size, 1, none⟩ = some (.int .i64 1) ∧ V.cell? ⟨wI.heap.size + 1, 0, none⟩ = some (.int .i64 eN) ∧ V.cell? ⟨wI.heap.size + 1, 1, none⟩ = some (.int .i64 1) ∧ V.cell? ⟨v8.heap.size, 0, none⟩ = some (.int .i64 gN) ∧ V.cell? ⟨v8.heap.size, 1, none⟩ = some (.int .i64 1) ∧ V.cell? ⟨v8.heap.size, 2, none⟩ = some (.int .i64 0) ∧ Below wL.heap.size wL V)
    (first | (with_reducible exact ⟨ho0, ho1, he0, he1, hg0, hg1, hg2, hs⟩) | (with_reducible exact ⟨cell_below hsd ho0, cell_below hsd ho1, cell_below hsd he0, cell_below hsd he1, cell_below hsd hg0, cell_below hsd hg1, cell_below hsd hg2, hsd⟩) | (with_reducible exact ⟨cell_below (by with_reducible assumption) ho0, cell_below (by with_reducible assumption) ho1, cell_below (by with_reducible assumption) he0, cell_below (by with_reducible assumption) he1, cell_below (by with_reducible assumption) hg0, cell_below (by with_reducible assumption) hg1, cell_below (by with_reducible assumption) hg2, (by with_reducible assumption)⟩) | fail)
    (first
      | (go_at_call 11; (with_reducible refine (A1.out _).mono ?_); rintro e y0 ⟨rfl, hy0⟩; have hB0 : Below wL.heap.size wL y0 := below_step (by with_reducible assumption) hy0)
      | (go_at_call 11; (with_reducible refine (A2.out _).mono ?_); rintro e y1 ⟨rfl, hy1⟩; have hB1 : Below wL.heap.size wL y1 := below_step (by with_reducible assumption) hy1)
      | (go_at_call 14; (with_reducible refine (A3.out _).mono ?_); rintro e y2 ⟨rfl, hy2⟩; have hB2 : Below wL.heap.size wL y2 := below_step (by with_reducible assumption) hy2))
  go_wp2_with fail
  go_ret
  exact ⟨rfl, below_step TL.out (by with_reducible assumption)⟩
end Go.Proofs.YtgkbefkgkpjmgaaDoor

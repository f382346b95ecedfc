
import Derived.Test.YtffcnkkgbhhfnaaGreatDoorRf
namespace Go.Proofs.YtffcnkkgbhhfnaaGreatDoor
open Go.RowKit Go.Instr
set_option linter.unusedVariables false

theorem set4 (W : World) (B : Nat) (x0 x1 x2 x3 y0 y1 y2 y3 r0 r1 : Value) (c0 : W.cell? ⟨B, 0, none⟩ = some x0) (c1 : W.cell? ⟨B, 1, none⟩ = some x1) (c2 : W.cell? ⟨B + 1, 0, none⟩ = some x2) (c3 : W.cell? ⟨B + 1, 1, none⟩ = some x3)
    (c4 : W.cell? ⟨B + 1 + 1, 0, none⟩ = some r0) (c5 : W.cell? ⟨B + 1 + 1, 1, none⟩ = some r1) (f4 : W.frozen? ⟨B + 1 + 1, 0, none⟩ = false) (f5 : W.frozen? ⟨B + 1 + 1, 1, none⟩ = false) (W' : World)
    (hW : W' = (((W.setCell ⟨B, 0, none⟩ y0).setCell ⟨B, 1, none⟩ y1).setCell ⟨B + 1, 0, none⟩ y2).setCell ⟨B + 1, 1, none⟩ y3) :
    W'.cell? ⟨B, 0, none⟩ = some y0 ∧ W'.cell? ⟨B, 1, none⟩ = some y1 ∧ W'.cell? ⟨B + 1, 0, none⟩ = some y2 ∧ W'.cell? ⟨B + 1, 1, none⟩ = some y3 ∧ W'.cell? ⟨B + 1 + 1, 0, none⟩ = some r0 ∧ W'.cell? ⟨B + 1 + 1, 1, none⟩ = some r1 ∧
    W'.frozen? ⟨B + 1 + 1, 0, none⟩ = false ∧ W'.frozen? ⟨B + 1 + 1, 1, none⟩ = false ∧ W'.heap.size = W.heap.size := by
  subst hW
  refine ⟨?_, ?_, ?_, ?_, ?_, ?_, ?_, ?_, ?_⟩ <;> simp [go_sem, *]
set_option maxHeartbeats 4000000 in
theorem fraction_neg (n d : Int) (hn : n.natAbs ≤ 85070591730234615865843651857942052864) (hd : d.natAbs ≤ 85070591730234615865843651857942052864) (h0 : d < 0) (w : World) :
    Calls Tryz.prog 53 #[.agg #[.int .u64 (hiW (n)), .int .u64 (loW (n))], .agg #[.int .u64 (hiW (d)), .int .u64 (loW (d))]] w fun e w' => e = .returned (if decide (n.natAbs ≤ 4611686018427387904) && decide (d.natAbs ≤ 4611686018427387904) then .tuple #[.agg #[.int .i64 (-n), .int .i64 (-d)], .int .i64 0] else .tuple #[.agg #[.int .i64 0, .int .i64 0], .int .i64 2]) ∧ Below w.heap.size w w' := by
  have fn0 : Fit128 (-n) := by unfold Fit128; omega
  have fd0 : Fit128 (-d) := by unfold Fit128; omega
  have N := hid (fun w => negative_any d (show Fit128 d by unfold Fit128; omega) w)
  rw [show decide (d < 0) = true by simp; omega] at N
  have WN := hid (fun w => within_any (-n) 4611686018427387904 fn0 (by omega) w)
  have WD := hid (fun w => within_any (-d) 4611686018427387904 fd0 (by omega) w)
  rw [show decide (((-n).natAbs : Int) ≤ 4611686018427387904) = decide (n.natAbs ≤ 4611686018427387904) by rw [decide_eq_decide]; omega] at WN
  rw [show decide (((-d).natAbs : Int) ≤ 4611686018427387904) = decide (d.natAbs ≤ 4611686018427387904) by rw [decide_eq_decide]; omega] at WD
  have LN : n.natAbs ≤ 4611686018427387904 → wrap64 (loW (-n)) = -n := fun h => lo_i64 _ (by omega) (by omega)
  have LD : d.natAbs ≤ 4611686018427387904 → wrap64 (loW (-d)) = -d := fun h => lo_i64 _ (by omega) (by omega)
  have HLN := hid LN
  have HLD := hid LD
  clear LN LD fn0 fd0 hn hd h0
  have key : ∀ x y : Bool, decide (n.natAbs ≤ 4611686018427387904) = x → decide (d.natAbs ≤ 4611686018427387904) = y → Calls Tryz.prog 53 #[.agg #[.int .u64 (hiW (n)), .int .u64 (loW (n))], .agg #[.int .u64 (hiW (d)), .int .u64 (loW (d))]] w fun e w' => e = .returned (if x && y then .tuple #[.agg #[.int .i64 (-n), .int .i64 (-d)], .int .i64 0] else .tuple #[.agg #[.int .i64 0, .int .i64 0], .int .i64 2]) ∧ Below w.heap.size w w' := by
    intro x y hx hy
    rw [hx] at WN
    rw [hy] at WD
    have EN : x = true → wrap64 (loW (-n)) = -n := fun h => HLN.out (by rw [h] at hx; exact of_decide_eq_true hx)
    have ED : y = true → wrap64 (loW (-d)) = -d := fun h => HLD.out (by rw [h] at hy; exact of_decide_eq_true hy)
    clear hx hy HLN HLD
    go_enter Tryz.func53, Tryz.ntmps53
    go_wp2_with fail
    refine (N.out _).mono ?_
    rintro e w1 ⟨rfl, hb⟩
    have hzP : w.heap.size + 3 ≤ w1.heap.size := by have := hb.size; simp at this; omega
    have P0 : ∀ W, Below w1.heap.size w1 W → W.cell? ⟨w.heap.size, 0, none⟩ = some (.int .u64 (hiW n)) ∧ W.cell? ⟨w.heap.size, 1, none⟩ = some (.int .u64 (loW n)) ∧ W.cell? ⟨w.heap.size + 1, 0, none⟩ = some (.int .u64 (hiW d)) ∧ W.cell? ⟨w.heap.size + 1, 1, none⟩ = some (.int .u64 (loW d)) ∧ W.cell? ⟨w.heap.size + 1 + 1, 0, none⟩ = some (.int .i64 0) ∧ W.cell? ⟨w.heap.size + 1 + 1, 1, none⟩ = some (.int .i64 0) ∧ W.frozen? ⟨w.heap.size, 0, none⟩ = false ∧ W.frozen? ⟨w.heap.size, 1, none⟩ = false ∧ W.frozen? ⟨w.heap.size + 1, 0, none⟩ = false ∧ W.frozen? ⟨w.heap.size + 1, 1, none⟩ = false ∧ W.frozen? ⟨w.heap.size + 1 + 1, 0, none⟩ = false ∧ W.frozen? ⟨w.heap.size + 1 + 1, 1, none⟩ = false ∧ w1.heap.size ≤ W.heap.size := by
      intro W hW
      exact ⟨cell_below hW (cell_below hb (by simp [go_sem])), cell_below hW (cell_below hb (by simp [go_sem])), cell_below hW (cell_below hb (by simp [go_sem])), cell_below hW (cell_below hb (by simp [go_sem])), cell_below hW (cell_below hb (by simp [go_sem])), cell_below hW (cell_below hb (by simp [go_sem])), (hW.frozen (p := ⟨w.heap.size, 0, none⟩) (by simp; omega)).trans ((hb.frozen (p := ⟨w.heap.size, 0, none⟩) (by first | (simp; done) | (simp; omega))).trans (by simp [go_sem])), (hW.frozen (p := ⟨w.heap.size, 1, none⟩) (by simp; omega)).trans ((hb.frozen (p := ⟨w.heap.size, 1, none⟩) (by first | (simp; done) | (simp; omega))).trans (by simp [go_sem])), (hW.frozen (p := ⟨w.heap.size + 1, 0, none⟩) (by simp; omega)).trans ((hb.frozen (p := ⟨w.heap.size + 1, 0, none⟩) (by first | (simp; done) | (simp; omega))).trans (by simp [go_sem])), (hW.frozen (p := ⟨w.heap.size + 1, 1, none⟩) (by simp; omega)).trans ((hb.frozen (p := ⟨w.heap.size + 1, 1, none⟩) (by first | (simp; done) | (simp; omega))).trans (by simp [go_sem])), (hW.frozen (p := ⟨w.heap.size + 1 + 1, 0, none⟩) (by simp; omega)).trans ((hb.frozen (p := ⟨w.heap.size + 1 + 1, 0, none⟩) (by first | (simp; done) | (simp; omega))).trans (by simp [go_sem])), (hW.frozen (p := ⟨w.heap.size + 1 + 1, 1, none⟩) (by simp; omega)).trans ((hb.frozen (p := ⟨w.heap.size + 1 + 1, 1, none⟩) (by first | (simp; done) | (simp; omega))).trans (by simp [go_sem])), hW.size⟩
    have P := hid P0
    clear P0
    have HP := hid hb
    clear hb
    obtain ⟨a0, a1, a2, a3, a4, a5, a6, a7, a8, a9, a10, a11, za⟩ := P.out w1 (Below.refl _ _)
    have hs := Below.refl w1.heap.size w1
    have hsd := hs.drew
    have FIN : ∀ W, Below w1.heap.size w1 W → ((((W.setCell ⟨w.heap.size, 0, none⟩ (.int .u64 (hiW (-n)))).setCell ⟨w.heap.size, 1, none⟩ (.int .u64 (loW (-n)))).setCell ⟨w.heap.size + 1, 0, none⟩ (.int .u64 (hiW (-d)))).setCell ⟨w.heap.size + 1, 1, none⟩ (.int .u64 (loW (-d)))).cell? ⟨w.heap.size, 0, none⟩ = some (.int .u64 (hiW (-n))) ∧ ((((W.setCell ⟨w.heap.size, 0, none⟩ (.int .u64 (hiW (-n)))).setCell ⟨w.heap.size, 1, none⟩ (.int .u64 (loW (-n)))).setCell ⟨w.heap.size + 1, 0, none⟩ (.int .u64 (hiW (-d)))).setCell ⟨w.heap.size + 1, 1, none⟩ (.int .u64 (loW (-d)))).cell? ⟨w.heap.size, 1, none⟩ = some (.int .u64 (loW (-n))) ∧ ((((W.setCell ⟨w.heap.size, 0, none⟩ (.int .u64 (hiW (-n)))).setCell ⟨w.heap.size, 1, none⟩ (.int .u64 (loW (-n)))).setCell ⟨w.heap.size + 1, 0, none⟩ (.int .u64 (hiW (-d)))).setCell ⟨w.heap.size + 1, 1, none⟩ (.int .u64 (loW (-d)))).cell? ⟨w.heap.size + 1, 0, none⟩ = some (.int .u64 (hiW (-d))) ∧ ((((W.setCell ⟨w.heap.size, 0, none⟩ (.int .u64 (hiW (-n)))).setCell ⟨w.heap.size, 1, none⟩ (.int .u64 (loW (-n)))).setCell ⟨w.heap.size + 1, 0, none⟩ (.int .u64 (hiW (-d)))).setCell ⟨w.heap.size + 1, 1, none⟩ (.int .u64 (loW (-d)))).cell? ⟨w.heap.size + 1, 1, none⟩ = some (.int .u64 (loW (-d))) ∧ ((((W.setCell ⟨w.heap.size, 0, none⟩ (.int .u64 (hiW (-n)))).setCell ⟨w.heap.size, 1, none⟩ (.int .u64 (loW (-n)))).setCell ⟨w.heap.size + 1, 0, none⟩ (.int .u64 (hiW (-d)))).setCell ⟨w.heap.size + 1, 1, none⟩ (.int .u64 (loW (-d)))).cell? ⟨w.heap.size + 1 + 1, 0, none⟩ = some (.int .i64 0) ∧ ((((W.setCell ⟨w.heap.size, 0, none⟩ (.int .u64 (hiW (-n)))).setCell ⟨w.heap.size, 1, none⟩ (.int .u64 (loW (-n)))).setCell ⟨w.heap.size + 1, 0, none⟩ (.int .u64 (hiW (-d)))).setCell ⟨w.heap.size + 1, 1, none⟩ (.int .u64 (loW (-d)))).cell? ⟨w.heap.size + 1 + 1, 1, none⟩ = some (.int .i64 0) ∧ ((((W.setCell ⟨w.heap.size, 0, none⟩ (.int .u64 (hiW (-n)))).setCell ⟨w.heap.size, 1, none⟩ (.int .u64 (loW (-n)))).setCell ⟨w.heap.size + 1, 0, none⟩ (.int .u64 (hiW (-d)))).setCell ⟨w.heap.size + 1, 1, none⟩ (.int .u64 (loW (-d)))).frozen? ⟨w.heap.size + 1 + 1, 0, none⟩ = false ∧ ((((W.setCell ⟨w.heap.size, 0, none⟩ (.int .u64 (hiW (-n)))).setCell ⟨w.heap.size, 1, none⟩ (.int .u64 (loW (-n)))).setCell ⟨w.heap.size + 1, 0, none⟩ (.int .u64 (hiW (-d)))).setCell ⟨w.heap.size + 1, 1, none⟩ (.int .u64 (loW (-d)))).frozen? ⟨w.heap.size + 1 + 1, 1, none⟩ = false ∧ w.heap.size + 3 ≤ ((((W.setCell ⟨w.heap.size, 0, none⟩ (.int .u64 (hiW (-n)))).setCell ⟨w.heap.size, 1, none⟩ (.int .u64 (loW (-n)))).setCell ⟨w.heap.size + 1, 0, none⟩ (.int .u64 (hiW (-d)))).setCell ⟨w.heap.size + 1, 1, none⟩ (.int .u64 (loW (-d)))).heap.size ∧ Below w.heap.size w ((((W.setCell ⟨w.heap.size, 0, none⟩ (.int .u64 (hiW (-n)))).setCell ⟨w.heap.size, 1, none⟩ (.int .u64 (loW (-n)))).setCell ⟨w.heap.size + 1, 0, none⟩ (.int .u64 (hiW (-d)))).setCell ⟨w.heap.size + 1, 1, none⟩ (.int .u64 (loW (-d)))) := by
      intro W hW
      obtain ⟨b0, b1, b2, b3, b4, b5, b6, b7, b8, b9, b10, b11, zb⟩ := P.out W hW
      obtain ⟨t0, t1, t2, t3, t4, t5, t6, t7, t8⟩ := set4 W w.heap.size _ _ _ _ (.int .u64 (hiW (-n))) (.int .u64 (loW (-n))) (.int .u64 (hiW (-d))) (.int .u64 (loW (-d))) _ _ b0 b1 b2 b3 b4 b5 b10 b11 _ rfl
      exact ⟨t0, t1, t2, t3, t4, t5, t6, t7, by omega, ((((((((((Below.refl _ _).alloc (by first | exact Nat.le_refl _ | (simp; done) | (simp; omega) | omega | (simp [World.drewN]; omega)) _).alloc (by first | exact Nat.le_refl _ | (simp; done) | (simp; omega) | omega | (simp [World.drewN]; omega)) _).alloc (by first | exact Nat.le_refl _ | (simp; done) | (simp; omega) | omega | (simp [World.drewN]; omega)) _).trans (HP.out.mono (by first | exact Nat.le_refl _ | (simp; done) | (simp; omega) | omega | (simp [World.drewN]; omega)))).trans (hW.mono (by first | exact Nat.le_refl _ | (simp; done) | (simp; omega) | omega | (simp [World.drewN]; omega)))).setCell (by first | exact Nat.le_refl _ | (simp; done) | (simp; omega) | omega | (simp [World.drewN]; omega)) _).setCell (by first | exact Nat.le_refl _ | (simp; done) | (simp; omega) | omega | (simp [World.drewN]; omega)) _).setCell (by first | exact Nat.le_refl _ | (simp; done) | (simp; omega) | omega | (simp [World.drewN]; omega)) _).setCell (by first | exact Nat.le_refl _ | (simp; done) | (simp; omega) | omega | (simp [World.drewN]; omega)) _)⟩
    have FIN' := hid FIN
    clear FIN
    go_upto_region 2 with fail
    go_cut [] (fun wx => wx.cell? ⟨w.heap.size, 0, none⟩ = some (.int .u64 (hiW (-n))) ∧ wx.cell? ⟨w.heap.size, 1, none⟩ = some (.int .u64 (loW (-n))) ∧ wx.cell? ⟨w.heap.size + 1, 0, none⟩ = some (.int .u64 (hiW (-d))) ∧ wx.cell? ⟨w.heap.size + 1, 1, none⟩ = some (.int .u64 (loW (-d))) ∧ wx.cell? ⟨w.heap.size + 1 + 1, 0, none⟩ = some (.int .i64 0) ∧ wx.cell? ⟨w.heap.size + 1 + 1, 1, none⟩ = some (.int .i64 0) ∧ wx.frozen? ⟨w.heap.size + 1 + 1, 0, none⟩ = false ∧ wx.frozen? ⟨w.heap.size + 1 + 1, 1, none⟩ = false ∧ w.heap.size + 3 ≤ wx.heap.size ∧ Below w.heap.size w wx)
    case first =>
      go_region_with (first
          | (go_at_call_of 68 (Value.int IntKind.u64 (hiW n)); refine (minus_any n _).mono ?_; rintro e w5 ⟨rfl, hb5⟩; have hs5 : Below w1.heap.size w1 w5 := below_step (by assumption) hb5; obtain ⟨b0, b1, b2, b3, b4, b5, b6, b7, b8, b9, b10, b11, zb⟩ := P.out w5 hs5)
          | (go_at_call_of 68 (Value.int IntKind.u64 (hiW d)); refine (minus_any d _).mono ?_; rintro e w6 ⟨rfl, hb6⟩; have hs6 : Below w1.heap.size w1 w6 := below_step (by assumption) hb6; obtain ⟨c0, c1, c2, c3, c4, c5, c6, c7, c8, c9, c10, c11, zc⟩ := P.out w6 hs6))
      all_goals
        go_wp2_with fail
        go_meet
        exact FIN'.out _ (by assumption)
    case rest =>
    obtain ⟨r0, r1, r2, r3, r4, r5, r6, r7, r8, r9⟩ := hcut
    have PR0 : ∀ W, Below wc.heap.size wc W → (W.cell? ⟨w.heap.size, 0, none⟩ = some (.int .u64 (hiW (-n))) ∧ W.cell? ⟨w.heap.size, 1, none⟩ = some (.int .u64 (loW (-n))) ∧ W.cell? ⟨w.heap.size + 1, 0, none⟩ = some (.int .u64 (hiW (-d))) ∧ W.cell? ⟨w.heap.size + 1, 1, none⟩ = some (.int .u64 (loW (-d))) ∧ W.cell? ⟨w.heap.size + 1 + 1, 0, none⟩ = some (.int .i64 0) ∧ W.cell? ⟨w.heap.size + 1 + 1, 1, none⟩ = some (.int .i64 0) ∧ W.frozen? ⟨w.heap.size + 1 + 1, 0, none⟩ = false ∧ W.frozen? ⟨w.heap.size + 1 + 1, 1, none⟩ = false ∧ wc.heap.size ≤ W.heap.size) :=
      fun W hW => ⟨cell_below hW r0, cell_below hW r1, cell_below hW r2, cell_below hW r3, cell_below hW r4, cell_below hW r5, (hW.frozen (p := ⟨w.heap.size + 1 + 1, 0, none⟩) (by simp; omega)).trans r6, (hW.frozen (p := ⟨w.heap.size + 1 + 1, 1, none⟩) (by simp; omega)).trans r7, hW.size⟩
    have PR := hid PR0
    clear PR0
    have H9 := hid r9
    clear r9 a0 a1 a2 a3 a4 a5 a6 a7 a8 a9 a10 a11 za hs hsd
    cases x
    · go_wp2_with fail
      refine (WN.out _).mono ?_
      rintro e w2 ⟨rfl, hb⟩
      obtain ⟨b0, b1, b2, b3, b4, b5, b6, b7, zb⟩ := PR.out w2 hb
      have H2 := hid hb
      clear hb r0 r1 r2 r3 r4 r5 r6 r7
      go_wp2
      exact bodyPost_ret (v := .tuple #[.agg #[.int .i64 0, .int .i64 0], .int .i64 2]) (by simp [results, Tryz.results53, b4, b5, go_sem]) rfl ⟨rfl, (((H9.out.trans (H2.out.mono (by first | exact Nat.le_refl _ | (simp; done) | (simp; omega) | omega | (simp [World.drewN]; omega)))).setCell (by first | exact Nat.le_refl _ | (simp; done) | (simp; omega) | omega | (simp [World.drewN]; omega)) _).setCell (by first | exact Nat.le_refl _ | (simp; done) | (simp; omega) | omega | (simp [World.drewN]; omega)) _)⟩
    · have EN' := EN rfl
      cases y
      · go_wp2_with fail
        refine (WN.out _).mono ?_
        rintro e w2 ⟨rfl, hb⟩
        obtain ⟨b0, b1, b2, b3, b4, b5, b6, b7, zb⟩ := PR.out w2 hb
        have H2 := hid hb
        clear hb r0 r1 r2 r3 r4 r5 r6 r7
        go_wp2_with fail
        refine (WD.out _).mono ?_
        rintro e w3 ⟨rfl, hb⟩
        obtain ⟨c0, c1, c2, c3, c4, c5, c6, c7, zc⟩ := PR.out w3 (H2.out.trans (hb.mono zb))
        have H3 := hid hb
        clear hb b0 b1 b2 b3 b4 b5 b6 b7
        go_wp2
        exact bodyPost_ret (v := .tuple #[.agg #[.int .i64 0, .int .i64 0], .int .i64 2]) (by simp [results, Tryz.results53, c4, c5, go_sem]) rfl ⟨rfl, ((((H9.out.trans (H2.out.mono (by first | exact Nat.le_refl _ | (simp; done) | (simp; omega) | omega | (simp [World.drewN]; omega)))).trans (H3.out.mono (by first | exact Nat.le_refl _ | (simp; done) | (simp; omega) | omega | (simp [World.drewN]; omega)))).setCell (by first | exact Nat.le_refl _ | (simp; done) | (simp; omega) | omega | (simp [World.drewN]; omega)) _).setCell (by first | exact Nat.le_refl _ | (simp; done) | (simp; omega) | omega | (simp [World.drewN]; omega)) _)⟩
      · have ED' := ED rfl
        go_wp2_with fail
        refine (WN.out _).mono ?_
        rintro e w2 ⟨rfl, hb⟩
        obtain ⟨b0, b1, b2, b3, b4, b5, b6, b7, zb⟩ := PR.out w2 hb
        have H2 := hid hb
        clear hb r0 r1 r2 r3 r4 r5 r6 r7
        go_wp2_with fail
        refine (WD.out _).mono ?_
        rintro e w3 ⟨rfl, hb⟩
        obtain ⟨c0, c1, c2, c3, c4, c5, c6, c7, zc⟩ := PR.out w3 (H2.out.trans (hb.mono zb))
        have H3 := hid hb
        clear hb b0 b1 b2 b3 b4 b5 b6 b7
        go_wp2
        exact bodyPost_ret (v := .tuple #[.agg #[.int .i64 (-n), .int .i64 (-d)], .int .i64 0]) (by simp [results, Tryz.results53, c4, c5, go_sem]) rfl ⟨rfl, ((((H9.out.trans (H2.out.mono (by first | exact Nat.le_refl _ | (simp; done) | (simp; omega) | omega | (simp [World.drewN]; omega)))).trans (H3.out.mono (by first | exact Nat.le_refl _ | (simp; done) | (simp; omega) | omega | (simp [World.drewN]; omega)))).setCell (by first | exact Nat.le_refl _ | (simp; done) | (simp; omega) | omega | (simp [World.drewN]; omega)) _).setCell (by first | exact Nat.le_refl _ | (simp; done) | (simp; omega) | omega | (simp [World.drewN]; omega)) _)⟩
  exact key _ _ rfl rfl
end Go.Proofs.YtffcnkkgbhhfnaaGreatDoor

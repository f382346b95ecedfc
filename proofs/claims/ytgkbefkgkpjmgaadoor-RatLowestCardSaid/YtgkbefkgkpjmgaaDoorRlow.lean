import Derived.Test.YtgkbefkgkpjmgaaDoorRlx
namespace Go.Proofs.YtgkbefkgkpjmgaaDoor
open Go.RowKit Go.Instr
set_option linter.unusedVariables false

set_option maxRecDepth 100000 in
set_option maxHeartbeats 16000000 in
theorem lowest_any (x0 x1 y0 y1 kk : Int) (hx0 : I64 x0) (hx1 : I64 x1) (hy0 : I64 y0) (hy1 : I64 y1) (hkk : -2147483648 ≤ kk ∧ kk ≤ 2147483647) (w : World) (g : Glob w) :
    Calls Tryd.prog 5 #[.agg #[.int .i64 (x0), .int .i64 (x1)], .agg #[.int .i64 (y0), .int .i64 (y1)], .int .i32 kk] w fun e w' => e = .returned (.bool true) ∧ Below w.heap.size w w' := by
  have EXA := hid (fun o1 o2 => examples_any ((w.alloc o1).alloc o2) (glob_below ((((Below.refl _ _).alloc (by first | exact Nat.le_refl _ | (simp; done) | (simp; omega) | omega | (simp [World.drewN]; omega)) _).alloc (by first | exact Nat.le_refl _ | (simp; done) | (simp; omega) | omega | (simp [World.drewN]; omega)) _)) g))
  have MA := hid (fun w => made_any x0 x1 hx0 hx1 w)
  have MB := hid (fun w => made_any y0 y1 hy0 hy1 w)
  have I0 := hid hx0
  have I1 := hid hx1
  have J0 := hid hy0
  have HK := hid hkk
  clear hx0 hx1 hy0 hy1 hkk g
  go_enter Tryd.func5, Tryd.ntmps5
  go_wp2_with fail
  refine (EXA.out _ _).mono ?_
  rintro e w1 ⟨rfl, hb⟩
  have hzP : w.heap.size + 2 ≤ w1.heap.size := by have := hb.size; simp at this; omega
  have P0 : ∀ W, Below w1.heap.size w1 W → W.cell? ⟨w.heap.size, 0, none⟩ = some (.int .i64 x0) ∧ W.cell? ⟨w.heap.size, 1, none⟩ = some (.int .i64 x1) ∧ W.cell? ⟨w.heap.size + 1, 0, none⟩ = some (.int .i64 y0) ∧ W.cell? ⟨w.heap.size + 1, 1, none⟩ = some (.int .i64 y1) ∧ w1.heap.size ≤ W.heap.size := by
    intro W hW
    exact ⟨cell_below hW (cell_below hb (by simp [go_sem])), cell_below hW (cell_below hb (by simp [go_sem])), cell_below hW (cell_below hb (by simp [go_sem])), cell_below hW (cell_below hb (by simp [go_sem])), hW.size⟩
  have P := hid P0
  clear P0
  have HP := hid hb
  clear hb
  have BW := hid (((((Below.refl _ _).alloc (by first | exact Nat.le_refl _ | (simp; done) | (simp; omega) | omega | (simp [World.drewN]; omega)) _).alloc (by first | exact Nat.le_refl _ | (simp; done) | (simp; omega) | omega | (simp [World.drewN]; omega)) _).trans (HP.out.mono (by first | exact Nat.le_refl _ | (simp; done) | (simp; omega) | omega | (simp [World.drewN]; omega)))))
  obtain ⟨q0, q1, q2, q3, zq⟩ := P.out w1 (Below.refl _ _)
  go_wp2_with fail
  refine (MA.out _).mono ?_
  rintro e w2 ⟨aN, aD, fa, rfl, hb⟩
  have FA := hid fa
  have B2 := hid hb
  clear hb fa q0 q1 q2 q3 zq
  have k2 := fun o => (P.out (w2.alloc o) (below_a B2.out o)).2.2.1
  have k3 := fun o => (P.out (w2.alloc o) (below_a B2.out o)).2.2.2.1
  go_wp2_with fail
  refine (MB.out _).mono ?_
  rintro e w3 ⟨bN, bD, fb, rfl, hb⟩
  have FB := hid fb
  have B3 := hid (below_step (below_a B2.out _) hb)
  have ca := cell_below hb (x := .int .i64 aN) (a := ⟨w2.heap.size, 0, none⟩) (by simp [go_sem])
  have ca' := cell_below hb (x := .int .i64 aD) (a := ⟨w2.heap.size, 1, none⟩) (by simp [go_sem])
  have CA := hid (And.intro ca ca')
  clear hb fb k2 k3 ca ca'
  go_upto_region 5 with fail
  generalize hwA : w3.alloc (.cells #[.int .i64 bN, .int .i64 bD] 25) = wA
  have hA : Below w3.heap.size w3 wA := by rw [← hwA]; exact ((Below.refl _ _).alloc (by first | exact Nat.le_refl _ | (simp; done) | (simp; omega) | omega | (simp [World.drewN]; omega)) _)
  have h3 := below_step B3.out hA
  have hp := P.out wA h3
  have PA := hid (fun V (hV : Below wA.heap.size wA V) => show V.cell? ⟨w.heap.size, 0, none⟩ = some (.int .i64 x0) ∧ V.cell? ⟨w.heap.size, 1, none⟩ = some (.int .i64 x1) ∧ V.cell? ⟨w.heap.size + 1, 0, none⟩ = some (.int .i64 y0) ∧ V.cell? ⟨w.heap.size + 1, 1, none⟩ = some (.int .i64 y1) ∧ V.cell? ⟨w2.heap.size, 0, none⟩ = some (.int .i64 aN) ∧ V.cell? ⟨w2.heap.size, 1, none⟩ = some (.int .i64 aD) ∧ V.cell? ⟨w3.heap.size, 0, none⟩ = some (.int .i64 bN) ∧ V.cell? ⟨w3.heap.size, 1, none⟩ = some (.int .i64 bD) ∧ wA.heap.size ≤ V.heap.size from ⟨cell_below hV hp.1, cell_below hV hp.2.1, cell_below hV hp.2.2.1, cell_below hV hp.2.2.2.1, cell_below hV (cell_below hA CA.out.1), cell_below hV (cell_below hA CA.out.2), cell_below hV (show wA.cell? ⟨w3.heap.size, 0, none⟩ = some (.int .i64 bN) by rw [← hwA]; simp [go_sem]), cell_below hV (show wA.cell? ⟨w3.heap.size, 1, none⟩ = some (.int .i64 bD) by rw [← hwA]; simp [go_sem]), hV.size⟩)
  have BA := hid (below_step BW.out h3)
  clear hwA hA h3 hp
  obtain ⟨r1N, r1D, r1E, Gr1, Cr1⟩ := add_ex FA.out FB.out
  obtain ⟨r2N, r2D, r2E, Gr2, Cr2⟩ := sub_ex FA.out FB.out
  obtain ⟨r3N, r3D, r3E, Gr3, Cr3⟩ := mul_ex FA.out FB.out
  obtain ⟨r4N, r4D, r4E, Gr4, Cr4⟩ := div_ex FA.out FB.out
  obtain ⟨r5N, r5D, r5E, Gr5, Cr5⟩ := new_ex x0 y0 I0.out J0.out
  obtain ⟨r6N, r6D, f6, Cr6⟩ := min_ex FA.out FB.out
  obtain ⟨r7N, r7D, r7E, Gr7, Cr7⟩ := total3 FA.out FB.out
  have G1 := hid Gr1
  have G2 := hid Gr2
  have G3 := hid Gr3
  have G4 := hid Gr4
  have G5 := hid Gr5
  have G6 := hid (good_fr (E := 0) rfl f6)
  have G7 := hid Gr7
  have C1 := hid Cr1
  have C2 := hid Cr2
  have C3 := hid Cr3
  have C4 := hid Cr4
  have C5 := hid Cr5
  have C6 := hid Cr6
  have C7 := hid Cr7
  clear Gr1 Gr2 Gr3 Gr4 Gr5 f6 Gr7 Cr1 Cr2 Cr3 Cr4 Cr5 Cr6 Cr7
  obtain ⟨hx0, hx1, hy0, hy1, ha0, ha1, hb0, hb1, hz⟩ := PA.out wA (Below.refl _ _)
  have hsd := (Below.refl wA.heap.size wA).drew
  go_cut [10] (fun s wx => AllsAt wA s wx)
  case first =>
    refine wp_region_held_drew (S := (fun V => V.cell? ⟨w.heap.size, 0, none⟩ = some (.int .i64 x0) ∧ V.cell? ⟨w.heap.size, 1, none⟩ = some (.int .i64 x1) ∧ V.cell? ⟨w.heap.size + 1, 0, none⟩ = some (.int .i64 y0) ∧ V.cell? ⟨w.heap.size + 1, 1, none⟩ = some (.int .i64 y1) ∧ V.cell? ⟨w2.heap.size, 0, none⟩ = some (.int .i64 aN) ∧ V.cell? ⟨w2.heap.size, 1, none⟩ = some (.int .i64 aD) ∧ V.cell? ⟨w3.heap.size, 0, none⟩ = some (.int .i64 bN) ∧ V.cell? ⟨w3.heap.size, 1, none⟩ = some (.int .i64 bD) ∧ Below wA.heap.size wA V)) (by kernel_rfl) ?_ (fun hHeld => ?_)
    · with_reducible exact ⟨cell_below hsd hx0, cell_below hsd hx1, cell_below hsd hy0, cell_below hsd hy1, cell_below hsd ha0, cell_below hsd ha1, cell_below hsd hb0, cell_below hsd hb1, hsd⟩
    refine wpAnyH_take (i := 0) (oi := ({ dst := some 29, op := Op.load 25 (Operand.tmp 8), type := 25, pos := "law.go:166", after := #[], guard := none } : Oper)) (v := ?_) rfl (by kernel_rfl) (by kernel_rfl) (by kernel_rfl) (fun _ _ _ h => h) (Or.inl ⟨by rfl, ?_⟩) (by assumption) ?_
    rotate_left
    · intro w hSw; (try dsimp only at hSw); go_simp <;> with_reducible rfl
    (try simp only [Act.put, List.setIfInBounds_toArray, List.set_cons_zero, List.set_cons_succ])
    refine wpAnyH_take (i := 1) (oi := ({ dst := some 30, op := Op.load 25 (Operand.tmp 9), type := 25, pos := "law.go:166", after := #[], guard := none } : Oper)) (v := ?_) rfl (by kernel_rfl) (by kernel_rfl) (by kernel_rfl) (fun _ _ _ h => h) (Or.inl ⟨by rfl, ?_⟩) (by assumption) ?_
    rotate_left
    · intro w hSw; (try dsimp only at hSw); go_simp <;> with_reducible rfl
    (try simp only [Act.put, List.setIfInBounds_toArray, List.set_cons_zero, List.set_cons_succ])
    refine wpAnyH_take (i := 3) (oi := ({ dst := some 32, op := Op.load 25 (Operand.tmp 8), type := 25, pos := "law.go:166", after := #[], guard := none } : Oper)) (v := ?_) rfl (by kernel_rfl) (by kernel_rfl) (by kernel_rfl) (fun _ _ _ h => h) (Or.inl ⟨by rfl, ?_⟩) (by assumption) ?_
    rotate_left
    · intro w hSw; (try dsimp only at hSw); go_simp <;> with_reducible rfl
    (try simp only [Act.put, List.setIfInBounds_toArray, List.set_cons_zero, List.set_cons_succ])
    refine wpAnyH_take (i := 4) (oi := ({ dst := some 33, op := Op.load 25 (Operand.tmp 9), type := 25, pos := "law.go:166", after := #[], guard := none } : Oper)) (v := ?_) rfl (by kernel_rfl) (by kernel_rfl) (by kernel_rfl) (fun _ _ _ h => h) (Or.inl ⟨by rfl, ?_⟩) (by assumption) ?_
    rotate_left
    · intro w hSw; (try dsimp only at hSw); go_simp <;> with_reducible rfl
    (try simp only [Act.put, List.setIfInBounds_toArray, List.set_cons_zero, List.set_cons_succ])
    refine wpAnyH_take (i := 6) (oi := ({ dst := some 35, op := Op.load 25 (Operand.tmp 8), type := 25, pos := "law.go:166", after := #[], guard := none } : Oper)) (v := ?_) rfl (by kernel_rfl) (by kernel_rfl) (by kernel_rfl) (fun _ _ _ h => h) (Or.inl ⟨by rfl, ?_⟩) (by assumption) ?_
    rotate_left
    · intro w hSw; (try dsimp only at hSw); go_simp <;> with_reducible rfl
    (try simp only [Act.put, List.setIfInBounds_toArray, List.set_cons_zero, List.set_cons_succ])
    refine wpAnyH_take (i := 7) (oi := ({ dst := some 36, op := Op.load 25 (Operand.tmp 9), type := 25, pos := "law.go:166", after := #[], guard := none } : Oper)) (v := ?_) rfl (by kernel_rfl) (by kernel_rfl) (by kernel_rfl) (fun _ _ _ h => h) (Or.inl ⟨by rfl, ?_⟩) (by assumption) ?_
    rotate_left
    · intro w hSw; (try dsimp only at hSw); go_simp <;> with_reducible rfl
    (try simp only [Act.put, List.setIfInBounds_toArray, List.set_cons_zero, List.set_cons_succ])
    refine wpAnyH_take (i := 9) (oi := ({ dst := some 38, op := Op.load 25 (Operand.tmp 8), type := 25, pos := "law.go:166", after := #[], guard := none } : Oper)) (v := ?_) rfl (by kernel_rfl) (by kernel_rfl) (by kernel_rfl) (fun _ _ _ h => h) (Or.inl ⟨by rfl, ?_⟩) (by assumption) ?_
    rotate_left
    · intro w hSw; (try dsimp only at hSw); go_simp <;> with_reducible rfl
    (try simp only [Act.put, List.setIfInBounds_toArray, List.set_cons_zero, List.set_cons_succ])
    refine wpAnyH_take (i := 10) (oi := ({ dst := some 39, op := Op.load 25 (Operand.tmp 9), type := 25, pos := "law.go:166", after := #[], guard := none } : Oper)) (v := ?_) rfl (by kernel_rfl) (by kernel_rfl) (by kernel_rfl) (fun _ _ _ h => h) (Or.inl ⟨by rfl, ?_⟩) (by assumption) ?_
    rotate_left
    · intro w hSw; (try dsimp only at hSw); go_simp <;> with_reducible rfl
    (try simp only [Act.put, List.setIfInBounds_toArray, List.set_cons_zero, List.set_cons_succ])
    refine wpAnyH_take (i := 12) (oi := ({ dst := some 41, op := Op.indexAddr 22 (Operand.tmp 3) (Operand.const (Value.int IntKind.i64 0)), type := 0, pos := "law.go:166", after := #[], guard := none } : Oper)) (v := ?_) rfl (by kernel_rfl) (by kernel_rfl) (by kernel_rfl) (fun _ _ _ h => h) (Or.inl ⟨by rfl, ?_⟩) (by assumption) ?_
    rotate_left
    · intro w hSw; (try dsimp only at hSw); go_simp <;> with_reducible rfl
    (try simp only [Act.put, List.setIfInBounds_toArray, List.set_cons_zero, List.set_cons_succ])
    refine wpAnyH_take (i := 13) (oi := ({ dst := some 42, op := Op.load 3 (Operand.tmp 41), type := 3, pos := "law.go:166", after := #[{ on := 12, ground := Ground.data }], guard := none } : Oper)) (v := ?_) rfl (by kernel_rfl) (by kernel_rfl) (by kernel_rfl) (fun _ _ _ h => h) (Or.inl ⟨by rfl, ?_⟩) (by assumption) ?_
    rotate_left
    · intro w hSw; (try dsimp only at hSw); go_simp <;> with_reducible rfl
    (try simp only [Act.put, List.setIfInBounds_toArray, List.set_cons_zero, List.set_cons_succ])
    refine wpAnyH_take (i := 14) (oi := ({ dst := some 43, op := Op.indexAddr 22 (Operand.tmp 4) (Operand.const (Value.int IntKind.i64 0)), type := 0, pos := "law.go:166", after := #[], guard := none } : Oper)) (v := ?_) rfl (by kernel_rfl) (by kernel_rfl) (by kernel_rfl) (fun _ _ _ h => h) (Or.inl ⟨by rfl, ?_⟩) (by assumption) ?_
    rotate_left
    · intro w hSw; (try dsimp only at hSw); go_simp <;> with_reducible rfl
    (try simp only [Act.put, List.setIfInBounds_toArray, List.set_cons_zero, List.set_cons_succ])
    refine wpAnyH_take (i := 15) (oi := ({ dst := some 44, op := Op.load 3 (Operand.tmp 43), type := 3, pos := "law.go:166", after := #[{ on := 14, ground := Ground.data }], guard := none } : Oper)) (v := ?_) rfl (by kernel_rfl) (by kernel_rfl) (by kernel_rfl) (fun _ _ _ h => h) (Or.inl ⟨by rfl, ?_⟩) (by assumption) ?_
    rotate_left
    · intro w hSw; (try dsimp only at hSw); go_simp <;> with_reducible rfl
    (try simp only [Act.put, List.setIfInBounds_toArray, List.set_cons_zero, List.set_cons_succ])
    refine wpAnyH_take (i := 17) (oi := ({ dst := some 46, op := Op.load 25 (Operand.tmp 8), type := 25, pos := "law.go:166", after := #[], guard := none } : Oper)) (v := ?_) rfl (by kernel_rfl) (by kernel_rfl) (by kernel_rfl) (fun _ _ _ h => h) (Or.inl ⟨by rfl, ?_⟩) (by assumption) ?_
    rotate_left
    · intro w hSw; (try dsimp only at hSw); go_simp <;> with_reducible rfl
    (try simp only [Act.put, List.setIfInBounds_toArray, List.set_cons_zero, List.set_cons_succ])
    refine wpAnyH_take (i := 18) (oi := ({ dst := some 47, op := Op.load 25 (Operand.tmp 9), type := 25, pos := "law.go:166", after := #[], guard := none } : Oper)) (v := ?_) rfl (by kernel_rfl) (by kernel_rfl) (by kernel_rfl) (fun _ _ _ h => h) (Or.inl ⟨by rfl, ?_⟩) (by assumption) ?_
    rotate_left
    · intro w hSw; (try dsimp only at hSw); go_simp <;> with_reducible rfl
    (try simp only [Act.put, List.setIfInBounds_toArray, List.set_cons_zero, List.set_cons_succ])
    refine wpAnyH_take (i := 21) (oi := ({ dst := some 50, op := Op.load 25 (Operand.tmp 9), type := 25, pos := "law.go:166", after := #[], guard := none } : Oper)) (v := ?_) rfl (by kernel_rfl) (by kernel_rfl) (by kernel_rfl) (fun _ _ _ h => h) (Or.inl ⟨by rfl, ?_⟩) (by assumption) ?_
    rotate_left
    · intro w hSw; (try dsimp only at hSw); go_simp <;> with_reducible rfl
    (try simp only [Act.put, List.setIfInBounds_toArray, List.set_cons_zero, List.set_cons_succ])
    refine wpAnyH_take (i := 22) (oi := ({ dst := some 51, op := Op.load 25 (Operand.tmp 8), type := 25, pos := "law.go:166", after := #[], guard := none } : Oper)) (v := ?_) rfl (by kernel_rfl) (by kernel_rfl) (by kernel_rfl) (fun _ _ _ h => h) (Or.inl ⟨by rfl, ?_⟩) (by assumption) ?_
    rotate_left
    · intro w hSw; (try dsimp only at hSw); go_simp <;> with_reducible rfl
    (try simp only [Act.put, List.setIfInBounds_toArray, List.set_cons_zero, List.set_cons_succ])
    refine wpAnyH_take (i := 23) (oi := ({ dst := some 52, op := Op.load 25 (Operand.tmp 9), type := 25, pos := "law.go:166", after := #[], guard := none } : Oper)) (v := ?_) rfl (by kernel_rfl) (by kernel_rfl) (by kernel_rfl) (fun _ _ _ h => h) (Or.inl ⟨by rfl, ?_⟩) (by assumption) ?_
    rotate_left
    · intro w hSw; (try dsimp only at hSw); go_simp <;> with_reducible rfl
    (try simp only [Act.put, List.setIfInBounds_toArray, List.set_cons_zero, List.set_cons_succ])
    refine wpAnyH_ready (rs := [2, 24]) (by kernel_rfl) (by simp) ?_
    refine AllReadyH.cons (o := ({ dst := some 31, op := Op.call { callee := Callee.value (Operand.func 11), args := #[Operand.tmp 29, Operand.tmp 30], argTypes := #[25, 25] }, type := 29, pos := "law.go:166", after := #[{ on := 0, ground := Ground.data }, { on := 1, ground := Ground.data }], guard := none } : Oper)) rfl (fun K hK => ?_) (AllReadyH.cons (o := ({ dst := some 53, op := Op.buildSlice 36 3 #[(0, Operand.tmp 50), (1, Operand.tmp 51), (2, Operand.tmp 52)], type := 36, pos := "law.go:166", after := #[{ on := 21, ground := Ground.data }, { on := 22, ground := Ground.data }, { on := 23, ground := Ground.data }], guard := none } : Oper)) rfl (fun K hK => ?_) AllReadyH.nil)
    · skip
      go_simp
      go_at_call 11
      with_reducible refine (C1.out _).mono ?_
      rintro e yy0 ⟨rfl, hq0⟩
      have hB0 := below_step hsd hq0
      clear hHeld
      first | (with_reducible refine hK.out _ _ ?_ (fun hHeld => ?_)) | (go_wp2_with fail; with_reducible refine hK.out _ _ ?_ (fun hHeld => ?_))
      · with_reducible exact ⟨cell_below hB0 hx0, cell_below hB0 hx1, cell_below hB0 hy0, cell_below hB0 hy1, cell_below hB0 ha0, cell_below hB0 ha1, cell_below hB0 hb0, cell_below hB0 hb1, hB0⟩
      clear hK K
      (try simp only [Act.put, List.setIfInBounds_toArray, List.set_cons_zero, List.set_cons_succ])
      refine wpAnyH_ready (rs := [5, 24]) (by kernel_rfl) (by simp) ?_
      refine AllReadyH.cons (o := ({ dst := some 34, op := Op.call { callee := Callee.value (Operand.func 14), args := #[Operand.tmp 32, Operand.tmp 33], argTypes := #[25, 25] }, type := 29, pos := "law.go:166", after := #[{ on := 3, ground := Ground.data }, { on := 4, ground := Ground.data }, { on := 2, ground := Ground.chain }], guard := none } : Oper)) rfl (fun K hK => ?_) (AllReadyH.cons (o := ({ dst := some 53, op := Op.buildSlice 36 3 #[(0, Operand.tmp 50), (1, Operand.tmp 51), (2, Operand.tmp 52)], type := 36, pos := "law.go:166", after := #[{ on := 21, ground := Ground.data }, { on := 22, ground := Ground.data }, { on := 23, ground := Ground.data }], guard := none } : Oper)) rfl (fun K hK => ?_) AllReadyH.nil)
      · skip
        go_simp
        go_at_call 14
        with_reducible refine (C2.out _).mono ?_
        rintro e yy1 ⟨rfl, hq1⟩
        have hB1 := below_step hB0 hq1
        clear hHeld
        first | (with_reducible refine hK.out _ _ ?_ (fun hHeld => ?_)) | (go_wp2_with fail; with_reducible refine hK.out _ _ ?_ (fun hHeld => ?_))
        · with_reducible exact ⟨cell_below hB1 hx0, cell_below hB1 hx1, cell_below hB1 hy0, cell_below hB1 hy1, cell_below hB1 ha0, cell_below hB1 ha1, cell_below hB1 hb0, cell_below hB1 hb1, hB1⟩
        clear hK K
        (try simp only [Act.put, List.setIfInBounds_toArray, List.set_cons_zero, List.set_cons_succ])
        refine wpAnyH_ready (rs := [8, 24]) (by kernel_rfl) (by simp) ?_
        refine AllReadyH.cons (o := ({ dst := some 37, op := Op.call { callee := Callee.value (Operand.func 12), args := #[Operand.tmp 35, Operand.tmp 36], argTypes := #[25, 25] }, type := 29, pos := "law.go:166", after := #[{ on := 6, ground := Ground.data }, { on := 7, ground := Ground.data }, { on := 5, ground := Ground.chain }], guard := none } : Oper)) rfl (fun K hK => ?_) (AllReadyH.cons (o := ({ dst := some 53, op := Op.buildSlice 36 3 #[(0, Operand.tmp 50), (1, Operand.tmp 51), (2, Operand.tmp 52)], type := 36, pos := "law.go:166", after := #[{ on := 21, ground := Ground.data }, { on := 22, ground := Ground.data }, { on := 23, ground := Ground.data }], guard := none } : Oper)) rfl (fun K hK => ?_) AllReadyH.nil)
        · skip
          go_simp
          go_at_call 12
          with_reducible refine (C3.out _).mono ?_
          rintro e yy2 ⟨rfl, hq2⟩
          have hB2 := below_step hB1 hq2
          clear hHeld
          first | (with_reducible refine hK.out _ _ ?_ (fun hHeld => ?_)) | (go_wp2_with fail; with_reducible refine hK.out _ _ ?_ (fun hHeld => ?_))
          · with_reducible exact ⟨cell_below hB2 hx0, cell_below hB2 hx1, cell_below hB2 hy0, cell_below hB2 hy1, cell_below hB2 ha0, cell_below hB2 ha1, cell_below hB2 hb0, cell_below hB2 hb1, hB2⟩
          clear hK K
          (try simp only [Act.put, List.setIfInBounds_toArray, List.set_cons_zero, List.set_cons_succ])
          refine wpAnyH_ready (rs := [11, 24]) (by kernel_rfl) (by simp) ?_
          refine AllReadyH.cons (o := ({ dst := some 40, op := Op.call { callee := Callee.value (Operand.func 15), args := #[Operand.tmp 38, Operand.tmp 39], argTypes := #[25, 25] }, type := 29, pos := "law.go:166", after := #[{ on := 9, ground := Ground.data }, { on := 10, ground := Ground.data }, { on := 8, ground := Ground.chain }], guard := none } : Oper)) rfl (fun K hK => ?_) (AllReadyH.cons (o := ({ dst := some 53, op := Op.buildSlice 36 3 #[(0, Operand.tmp 50), (1, Operand.tmp 51), (2, Operand.tmp 52)], type := 36, pos := "law.go:166", after := #[{ on := 21, ground := Ground.data }, { on := 22, ground := Ground.data }, { on := 23, ground := Ground.data }], guard := none } : Oper)) rfl (fun K hK => ?_) AllReadyH.nil)
          · skip
            go_simp
            go_at_call 15
            with_reducible refine (C4.out _).mono ?_
            rintro e yy3 ⟨rfl, hq3⟩
            have hB3 := below_step hB2 hq3
            clear hHeld
            first | (with_reducible refine hK.out _ _ ?_ (fun hHeld => ?_)) | (go_wp2_with fail; with_reducible refine hK.out _ _ ?_ (fun hHeld => ?_))
            · with_reducible exact ⟨cell_below hB3 hx0, cell_below hB3 hx1, cell_below hB3 hy0, cell_below hB3 hy1, cell_below hB3 ha0, cell_below hB3 ha1, cell_below hB3 hb0, cell_below hB3 hb1, hB3⟩
            clear hK K
            (try simp only [Act.put, List.setIfInBounds_toArray, List.set_cons_zero, List.set_cons_succ])
            refine wpAnyH_ready (rs := [16, 24]) (by kernel_rfl) (by simp) ?_
            refine AllReadyH.cons (o := ({ dst := some 45, op := Op.call { callee := Callee.value (Operand.func 19), args := #[Operand.tmp 42, Operand.tmp 44], argTypes := #[3, 3] }, type := 29, pos := "law.go:166", after := #[{ on := 13, ground := Ground.data }, { on := 15, ground := Ground.data }, { on := 11, ground := Ground.chain }], guard := none } : Oper)) rfl (fun K hK => ?_) (AllReadyH.cons (o := ({ dst := some 53, op := Op.buildSlice 36 3 #[(0, Operand.tmp 50), (1, Operand.tmp 51), (2, Operand.tmp 52)], type := 36, pos := "law.go:166", after := #[{ on := 21, ground := Ground.data }, { on := 22, ground := Ground.data }, { on := 23, ground := Ground.data }], guard := none } : Oper)) rfl (fun K hK => ?_) AllReadyH.nil)
            · skip
              go_simp
              go_at_call 19
              with_reducible refine (C5.out _).mono ?_
              rintro e yy4 ⟨rfl, hq4⟩
              have hB4 := below_step hB3 hq4
              clear hHeld
              first | (with_reducible refine hK.out _ _ ?_ (fun hHeld => ?_)) | (go_wp2_with fail; with_reducible refine hK.out _ _ ?_ (fun hHeld => ?_))
              · with_reducible exact ⟨cell_below hB4 hx0, cell_below hB4 hx1, cell_below hB4 hy0, cell_below hB4 hy1, cell_below hB4 ha0, cell_below hB4 ha1, cell_below hB4 hb0, cell_below hB4 hb1, hB4⟩
              clear hK K
              (try simp only [Act.put, List.setIfInBounds_toArray, List.set_cons_zero, List.set_cons_succ])
              refine wpAnyH_ready (rs := [19, 24]) (by kernel_rfl) (by simp) ?_
              refine AllReadyH.cons (o := ({ dst := some 48, op := Op.call { callee := Callee.value (Operand.func 17), args := #[Operand.tmp 46, Operand.tmp 47], argTypes := #[25, 25] }, type := 25, pos := "law.go:166", after := #[{ on := 17, ground := Ground.data }, { on := 18, ground := Ground.data }, { on := 16, ground := Ground.chain }], guard := none } : Oper)) rfl (fun K hK => ?_) (AllReadyH.cons (o := ({ dst := some 53, op := Op.buildSlice 36 3 #[(0, Operand.tmp 50), (1, Operand.tmp 51), (2, Operand.tmp 52)], type := 36, pos := "law.go:166", after := #[{ on := 21, ground := Ground.data }, { on := 22, ground := Ground.data }, { on := 23, ground := Ground.data }], guard := none } : Oper)) rfl (fun K hK => ?_) AllReadyH.nil)
              · skip
                go_simp
                go_at_call 17
                with_reducible refine (C6.out _).mono ?_
                rintro e yy5 ⟨rfl, hq5⟩
                have hB5 := below_step hB4 hq5
                clear hHeld
                first | (with_reducible refine hK.out _ _ ?_ (fun hHeld => ?_)) | (go_wp2_with fail; with_reducible refine hK.out _ _ ?_ (fun hHeld => ?_))
                · with_reducible exact ⟨cell_below hB5 hx0, cell_below hB5 hx1, cell_below hB5 hy0, cell_below hB5 hy1, cell_below hB5 ha0, cell_below hB5 ha1, cell_below hB5 hb0, cell_below hB5 hb1, hB5⟩
                clear hK K
                (try simp only [Act.put, List.setIfInBounds_toArray, List.set_cons_zero, List.set_cons_succ])
                refine wpAnyH_take (i := 20) (oi := ({ dst := some 49, op := Op.build 29 #[(0, Operand.tmp 48)], type := 29, pos := "law.go:166", after := #[{ on := 19, ground := Ground.data }], guard := none } : Oper)) (v := ?_) rfl (by kernel_rfl) (by kernel_rfl) (by kernel_rfl) (fun _ _ _ h => h) (Or.inl ⟨by rfl, ?_⟩) (by assumption) ?_
                rotate_left
                · intro w hSw; (try dsimp only at hSw); go_simp <;> with_reducible rfl
                (try simp only [Act.put, List.setIfInBounds_toArray, List.set_cons_zero, List.set_cons_succ])
                refine wpAnyH_ready (rs := [24]) (by kernel_rfl) (by simp) ?_
                refine AllReadyH.cons (o := ({ dst := some 53, op := Op.buildSlice 36 3 #[(0, Operand.tmp 50), (1, Operand.tmp 51), (2, Operand.tmp 52)], type := 36, pos := "law.go:166", after := #[{ on := 21, ground := Ground.data }, { on := 22, ground := Ground.data }, { on := 23, ground := Ground.data }], guard := none } : Oper)) rfl (fun K hK => ?_) AllReadyH.nil
                go_simp
                generalize hw : yy5.alloc (.cells #[.int .i64 bN, .int .i64 bD, .int .i64 aN, .int .i64 aD, .int .i64 bN, .int .i64 bD] 25) = yy6
                have hq6 : Below yy5.heap.size yy5 yy6 := by rw [← hw]; exact ((Below.refl _ _).alloc (by first | exact Nat.le_refl _ | (simp; done) | (simp; omega) | omega | (simp [World.drewN]; omega)) _)
                have FL := fracs3 (W := yy6) (m := yy5.heap.size) (a := bN) (b := bD) (c := aN) (d := aD) (e := bN) (f := bD) (by rw [← hw]; simp [go_sem]) (by rw [← hw]; simp [go_sem]) (by rw [← hw]; simp [go_sem]) (by rw [← hw]; simp [go_sem]) (by rw [← hw]; simp [go_sem]) (by rw [← hw]; simp [go_sem])
                have hL6 := Below.refl yy6.heap.size yy6
                have hB6 := below_step hB5 hq6
                clear hw
                clear hHeld
                first | (with_reducible refine hK.out _ _ ?_ (fun hHeld => ?_)) | (go_wp2_with fail; with_reducible refine hK.out _ _ ?_ (fun hHeld => ?_))
                · with_reducible exact ⟨cell_below hB6 hx0, cell_below hB6 hx1, cell_below hB6 hy0, cell_below hB6 hy1, cell_below hB6 ha0, cell_below hB6 ha1, cell_below hB6 hb0, cell_below hB6 hb1, hB6⟩
                clear hK K
                (try simp only [Act.put, List.setIfInBounds_toArray, List.set_cons_zero, List.set_cons_succ])
                refine wpAnyH_ready (rs := [25]) (by kernel_rfl) (by simp) ?_
                refine AllReadyH.cons (o := ({ dst := some 54, op := Op.call { callee := Callee.value (Operand.func 20), args := #[Operand.tmp 53], argTypes := #[36] }, type := 29, pos := "law.go:166", after := #[{ on := 24, ground := Ground.data }, { on := 19, ground := Ground.chain }], guard := none } : Oper)) rfl (fun K hK => ?_) AllReadyH.nil
                go_simp
                go_at_call 20
                with_reducible refine (C7.out _ _ (FracsAt.below FL hL6)).mono ?_
                rintro e yy7 ⟨rfl, hq7⟩
                have hB7 := below_step hB6 hq7
                have hL7 := below_step hL6 hq7
                clear hHeld
                first | (with_reducible refine hK.out _ _ ?_ (fun hHeld => ?_)) | (go_wp2_with fail; with_reducible refine hK.out _ _ ?_ (fun hHeld => ?_))
                · with_reducible exact ⟨cell_below hB7 hx0, cell_below hB7 hx1, cell_below hB7 hy0, cell_below hB7 hy1, cell_below hB7 ha0, cell_below hB7 ha1, cell_below hB7 hb0, cell_below hB7 hb1, hB7⟩
                clear hK K
                (try simp only [Act.put, List.setIfInBounds_toArray, List.set_cons_zero, List.set_cons_succ])
                refine wpAnyH_ready (rs := [26]) (by kernel_rfl) (by simp) ?_
                refine AllReadyH.cons (o := ({ dst := some 55, op := Op.buildSlice 37 7 #[(0, Operand.tmp 31), (1, Operand.tmp 34), (2, Operand.tmp 37), (3, Operand.tmp 40), (4, Operand.tmp 45), (5, Operand.tmp 49), (6, Operand.tmp 54)], type := 37, pos := "law.go:166", after := #[{ on := 2, ground := Ground.data }, { on := 5, ground := Ground.data }, { on := 8, ground := Ground.data }, { on := 11, ground := Ground.data }, { on := 16, ground := Ground.data }, { on := 20, ground := Ground.data }, { on := 25, ground := Ground.data }], guard := none } : Oper)) rfl (fun K hK => ?_) AllReadyH.nil
                go_simp
                generalize hw : yy7.alloc (.cells #[.int .i64 r1N, .int .i64 r1D, .int .i64 r1E, .int .i64 r2N, .int .i64 r2D, .int .i64 r2E, .int .i64 r3N, .int .i64 r3D, .int .i64 r3E, .int .i64 r4N, .int .i64 r4D, .int .i64 r4E, .int .i64 r5N, .int .i64 r5D, .int .i64 r5E, .int .i64 r6N, .int .i64 r6D, .int .i64 0, .int .i64 r7N, .int .i64 r7D, .int .i64 r7E] 29) = yy8
                have hq8 : Below yy7.heap.size yy7 yy8 := by rw [← hw]; exact ((Below.refl _ _).alloc (by first | exact Nat.le_refl _ | (simp; done) | (simp; omega) | omega | (simp [World.drewN]; omega)) _)
                have RR : ∀ i, i < 7 → yy8.cell? ⟨yy7.heap.size, i * 3, none⟩ = some (.int .i64 ([(r1N, r1D, r1E), (r2N, r2D, r2E), (r3N, r3D, r3E), (r4N, r4D, r4E), (r5N, r5D, r5E), (r6N, r6D, 0), (r7N, r7D, r7E)].getD i (0, 0, 0)).1) ∧ yy8.cell? ⟨yy7.heap.size, i * 3 + 1, none⟩ = some (.int .i64 ([(r1N, r1D, r1E), (r2N, r2D, r2E), (r3N, r3D, r3E), (r4N, r4D, r4E), (r5N, r5D, r5E), (r6N, r6D, 0), (r7N, r7D, r7E)].getD i (0, 0, 0)).2.1) ∧ yy8.cell? ⟨yy7.heap.size, i * 3 + 2, none⟩ = some (.int .i64 ([(r1N, r1D, r1E), (r2N, r2D, r2E), (r3N, r3D, r3E), (r4N, r4D, r4E), (r5N, r5D, r5E), (r6N, r6D, 0), (r7N, r7D, r7E)].getD i (0, 0, 0)).2.2) := by
                  rw [← hw]
                  intro i hi
                  match i, hi with
                  | 0, _ => exact ⟨by simp [go_sem], by simp [go_sem], by simp [go_sem]⟩
                  | 1, _ => exact ⟨by simp [go_sem], by simp [go_sem], by simp [go_sem]⟩
                  | 2, _ => exact ⟨by simp [go_sem], by simp [go_sem], by simp [go_sem]⟩
                  | 3, _ => exact ⟨by simp [go_sem], by simp [go_sem], by simp [go_sem]⟩
                  | 4, _ => exact ⟨by simp [go_sem], by simp [go_sem], by simp [go_sem]⟩
                  | 5, _ => exact ⟨by simp [go_sem], by simp [go_sem], by simp [go_sem]⟩
                  | 6, _ => exact ⟨by simp [go_sem], by simp [go_sem], by simp [go_sem]⟩
                have hB8 := below_step hB7 hq8
                clear hw
                clear hHeld
                first | (with_reducible refine hK.out _ _ ?_ (fun hHeld => ?_)) | (go_wp2_with fail; with_reducible refine hK.out _ _ ?_ (fun hHeld => ?_))
                · with_reducible exact ⟨cell_below hB8 hx0, cell_below hB8 hx1, cell_below hB8 hy0, cell_below hB8 hy1, cell_below hB8 ha0, cell_below hB8 ha1, cell_below hB8 hb0, cell_below hB8 hb1, hB8⟩
                clear hK K
                (try simp only [Act.put, List.setIfInBounds_toArray, List.set_cons_zero, List.set_cons_succ])
                refine wpAnyH_take (i := 27) (oi := ({ dst := some 10, op := Op.assign (Operand.tmp 55), type := 37, pos := "law.go:166", after := #[{ on := 26, ground := Ground.data }, { on := 25, ground := Ground.chain }, { on := 0, ground := Ground.phase }, { on := 1, ground := Ground.phase }, { on := 2, ground := Ground.phase }, { on := 3, ground := Ground.phase }, { on := 4, ground := Ground.phase }, { on := 5, ground := Ground.phase }, { on := 6, ground := Ground.phase }, { on := 7, ground := Ground.phase }, { on := 8, ground := Ground.phase }, { on := 9, ground := Ground.phase }, { on := 10, ground := Ground.phase }, { on := 11, ground := Ground.phase }, { on := 12, ground := Ground.phase }, { on := 13, ground := Ground.phase }, { on := 14, ground := Ground.phase }, { on := 15, ground := Ground.phase }, { on := 16, ground := Ground.phase }, { on := 17, ground := Ground.phase }, { on := 18, ground := Ground.phase }, { on := 19, ground := Ground.phase }, { on := 20, ground := Ground.phase }, { on := 21, ground := Ground.phase }, { on := 22, ground := Ground.phase }, { on := 23, ground := Ground.phase }, { on := 24, ground := Ground.phase }, { on := 25, ground := Ground.phase }, { on := 26, ground := Ground.phase }], guard := none } : Oper)) (v := ?_) rfl (by kernel_rfl) (by kernel_rfl) (by kernel_rfl) (fun _ _ _ h => h) (Or.inl ⟨by rfl, ?_⟩) (by assumption) ?_
                rotate_left
                · intro w hSw; (try dsimp only at hSw); go_simp <;> with_reducible rfl
                (try simp only [Act.put, List.setIfInBounds_toArray, List.set_cons_zero, List.set_cons_succ])
                refine wpAnyH_done (by kernel_rfl) ?_ _
                go_wp2_with fail
                go_meet
                exact alls_is yy7.heap.size (G1.out) (G2.out) (G3.out) (G4.out) (G5.out) (G6.out) (G7.out) RR hB8
              · skip
                go_simp
                generalize hw : yy4.alloc (.cells #[.int .i64 bN, .int .i64 bD, .int .i64 aN, .int .i64 aD, .int .i64 bN, .int .i64 bD] 25) = yy5
                have hq5 : Below yy4.heap.size yy4 yy5 := by rw [← hw]; exact ((Below.refl _ _).alloc (by first | exact Nat.le_refl _ | (simp; done) | (simp; omega) | omega | (simp [World.drewN]; omega)) _)
                have FL := fracs3 (W := yy5) (m := yy4.heap.size) (a := bN) (b := bD) (c := aN) (d := aD) (e := bN) (f := bD) (by rw [← hw]; simp [go_sem]) (by rw [← hw]; simp [go_sem]) (by rw [← hw]; simp [go_sem]) (by rw [← hw]; simp [go_sem]) (by rw [← hw]; simp [go_sem]) (by rw [← hw]; simp [go_sem])
                have hL5 := Below.refl yy5.heap.size yy5
                have hB5 := below_step hB4 hq5
                clear hw
                clear hHeld
                first | (with_reducible refine hK.out _ _ ?_ (fun hHeld => ?_)) | (go_wp2_with fail; with_reducible refine hK.out _ _ ?_ (fun hHeld => ?_))
                · with_reducible exact ⟨cell_below hB5 hx0, cell_below hB5 hx1, cell_below hB5 hy0, cell_below hB5 hy1, cell_below hB5 ha0, cell_below hB5 ha1, cell_below hB5 hb0, cell_below hB5 hb1, hB5⟩
                clear hK K
                (try simp only [Act.put, List.setIfInBounds_toArray, List.set_cons_zero, List.set_cons_succ])
                refine wpAnyH_ready (rs := [19]) (by kernel_rfl) (by simp) ?_
                refine AllReadyH.cons (o := ({ dst := some 48, op := Op.call { callee := Callee.value (Operand.func 17), args := #[Operand.tmp 46, Operand.tmp 47], argTypes := #[25, 25] }, type := 25, pos := "law.go:166", after := #[{ on := 17, ground := Ground.data }, { on := 18, ground := Ground.data }, { on := 16, ground := Ground.chain }], guard := none } : Oper)) rfl (fun K hK => ?_) AllReadyH.nil
                go_simp
                go_at_call 17
                with_reducible refine (C6.out _).mono ?_
                rintro e yy6 ⟨rfl, hq6⟩
                have hB6 := below_step hB5 hq6
                have hL6 := below_step hL5 hq6
                clear hHeld
                first | (with_reducible refine hK.out _ _ ?_ (fun hHeld => ?_)) | (go_wp2_with fail; with_reducible refine hK.out _ _ ?_ (fun hHeld => ?_))
                · with_reducible exact ⟨cell_below hB6 hx0, cell_below hB6 hx1, cell_below hB6 hy0, cell_below hB6 hy1, cell_below hB6 ha0, cell_below hB6 ha1, cell_below hB6 hb0, cell_below hB6 hb1, hB6⟩
                clear hK K
                (try simp only [Act.put, List.setIfInBounds_toArray, List.set_cons_zero, List.set_cons_succ])
                refine wpAnyH_take (i := 20) (oi := ({ dst := some 49, op := Op.build 29 #[(0, Operand.tmp 48)], type := 29, pos := "law.go:166", after := #[{ on := 19, ground := Ground.data }], guard := none } : Oper)) (v := ?_) rfl (by kernel_rfl) (by kernel_rfl) (by kernel_rfl) (fun _ _ _ h => h) (Or.inl ⟨by rfl, ?_⟩) (by assumption) ?_
                rotate_left
                · intro w hSw; (try dsimp only at hSw); go_simp <;> with_reducible rfl
                (try simp only [Act.put, List.setIfInBounds_toArray, List.set_cons_zero, List.set_cons_succ])
                refine wpAnyH_ready (rs := [25]) (by kernel_rfl) (by simp) ?_
                refine AllReadyH.cons (o := ({ dst := some 54, op := Op.call { callee := Callee.value (Operand.func 20), args := #[Operand.tmp 53], argTypes := #[36] }, type := 29, pos := "law.go:166", after := #[{ on := 24, ground := Ground.data }, { on := 19, ground := Ground.chain }], guard := none } : Oper)) rfl (fun K hK => ?_) AllReadyH.nil
                go_simp
                go_at_call 20
                with_reducible refine (C7.out _ _ (FracsAt.below FL hL6)).mono ?_
                rintro e yy7 ⟨rfl, hq7⟩
                have hB7 := below_step hB6 hq7
                have hL7 := below_step hL6 hq7
                clear hHeld
                first | (with_reducible refine hK.out _ _ ?_ (fun hHeld => ?_)) | (go_wp2_with fail; with_reducible refine hK.out _ _ ?_ (fun hHeld => ?_))
                · with_reducible exact ⟨cell_below hB7 hx0, cell_below hB7 hx1, cell_below hB7 hy0, cell_below hB7 hy1, cell_below hB7 ha0, cell_below hB7 ha1, cell_below hB7 hb0, cell_below hB7 hb1, hB7⟩
                clear hK K
                (try simp only [Act.put, List.setIfInBounds_toArray, List.set_cons_zero, List.set_cons_succ])
                refine wpAnyH_ready (rs := [26]) (by kernel_rfl) (by simp) ?_
                refine AllReadyH.cons (o := ({ dst := some 55, op := Op.buildSlice 37 7 #[(0, Operand.tmp 31), (1, Operand.tmp 34), (2, Operand.tmp 37), (3, Operand.tmp 40), (4, Operand.tmp 45), (5, Operand.tmp 49), (6, Operand.tmp 54)], type := 37, pos := "law.go:166", after := #[{ on := 2, ground := Ground.data }, { on := 5, ground := Ground.data }, { on := 8, ground := Ground.data }, { on := 11, ground := Ground.data }, { on := 16, ground := Ground.data }, { on := 20, ground := Ground.data }, { on := 25, ground := Ground.data }], guard := none } : Oper)) rfl (fun K hK => ?_) AllReadyH.nil
                go_simp
                generalize hw : yy7.alloc (.cells #[.int .i64 r1N, .int .i64 r1D, .int .i64 r1E, .int .i64 r2N, .int .i64 r2D, .int .i64 r2E, .int .i64 r3N, .int .i64 r3D, .int .i64 r3E, .int .i64 r4N, .int .i64 r4D, .int .i64 r4E, .int .i64 r5N, .int .i64 r5D, .int .i64 r5E, .int .i64 r6N, .int .i64 r6D, .int .i64 0, .int .i64 r7N, .int .i64 r7D, .int .i64 r7E] 29) = yy8
                have hq8 : Below yy7.heap.size yy7 yy8 := by rw [← hw]; exact ((Below.refl _ _).alloc (by first | exact Nat.le_refl _ | (simp; done) | (simp; omega) | omega | (simp [World.drewN]; omega)) _)
                have RR : ∀ i, i < 7 → yy8.cell? ⟨yy7.heap.size, i * 3, none⟩ = some (.int .i64 ([(r1N, r1D, r1E), (r2N, r2D, r2E), (r3N, r3D, r3E), (r4N, r4D, r4E), (r5N, r5D, r5E), (r6N, r6D, 0), (r7N, r7D, r7E)].getD i (0, 0, 0)).1) ∧ yy8.cell? ⟨yy7.heap.size, i * 3 + 1, none⟩ = some (.int .i64 ([(r1N, r1D, r1E), (r2N, r2D, r2E), (r3N, r3D, r3E), (r4N, r4D, r4E), (r5N, r5D, r5E), (r6N, r6D, 0), (r7N, r7D, r7E)].getD i (0, 0, 0)).2.1) ∧ yy8.cell? ⟨yy7.heap.size, i * 3 + 2, none⟩ = some (.int .i64 ([(r1N, r1D, r1E), (r2N, r2D, r2E), (r3N, r3D, r3E), (r4N, r4D, r4E), (r5N, r5D, r5E), (r6N, r6D, 0), (r7N, r7D, r7E)].getD i (0, 0, 0)).2.2) := by
                  rw [← hw]
                  intro i hi
                  match i, hi with
                  | 0, _ => exact ⟨by simp [go_sem], by simp [go_sem], by simp [go_sem]⟩
                  | 1, _ => exact ⟨by simp [go_sem], by simp [go_sem], by simp [go_sem]⟩
                  | 2, _ => exact ⟨by simp [go_sem], by simp [go_sem], by simp [go_sem]⟩
                  | 3, _ => exact ⟨by simp [go_sem], by simp [go_sem], by simp [go_sem]⟩
                  | 4, _ => exact ⟨by simp [go_sem], by simp [go_sem], by simp [go_sem]⟩
                  | 5, _ => exact ⟨by simp [go_sem], by simp [go_sem], by simp [go_sem]⟩
                  | 6, _ => exact ⟨by simp [go_sem], by simp [go_sem], by simp [go_sem]⟩
                have hB8 := below_step hB7 hq8
                clear hw
                clear hHeld
                first | (with_reducible refine hK.out _ _ ?_ (fun hHeld => ?_)) | (go_wp2_with fail; with_reducible refine hK.out _ _ ?_ (fun hHeld => ?_))
                · with_reducible exact ⟨cell_below hB8 hx0, cell_below hB8 hx1, cell_below hB8 hy0, cell_below hB8 hy1, cell_below hB8 ha0, cell_below hB8 ha1, cell_below hB8 hb0, cell_below hB8 hb1, hB8⟩
                clear hK K
                (try simp only [Act.put, List.setIfInBounds_toArray, List.set_cons_zero, List.set_cons_succ])
                refine wpAnyH_take (i := 27) (oi := ({ dst := some 10, op := Op.assign (Operand.tmp 55), type := 37, pos := "law.go:166", after := #[{ on := 26, ground := Ground.data }, { on := 25, ground := Ground.chain }, { on := 0, ground := Ground.phase }, { on := 1, ground := Ground.phase }, { on := 2, ground := Ground.phase }, { on := 3, ground := Ground.phase }, { on := 4, ground := Ground.phase }, { on := 5, ground := Ground.phase }, { on := 6, ground := Ground.phase }, { on := 7, ground := Ground.phase }, { on := 8, ground := Ground.phase }, { on := 9, ground := Ground.phase }, { on := 10, ground := Ground.phase }, { on := 11, ground := Ground.phase }, { on := 12, ground := Ground.phase }, { on := 13, ground := Ground.phase }, { on := 14, ground := Ground.phase }, { on := 15, ground := Ground.phase }, { on := 16, ground := Ground.phase }, { on := 17, ground := Ground.phase }, { on := 18, ground := Ground.phase }, { on := 19, ground := Ground.phase }, { on := 20, ground := Ground.phase }, { on := 21, ground := Ground.phase }, { on := 22, ground := Ground.phase }, { on := 23, ground := Ground.phase }, { on := 24, ground := Ground.phase }, { on := 25, ground := Ground.phase }, { on := 26, ground := Ground.phase }], guard := none } : Oper)) (v := ?_) rfl (by kernel_rfl) (by kernel_rfl) (by kernel_rfl) (fun _ _ _ h => h) (Or.inl ⟨by rfl, ?_⟩) (by assumption) ?_
                rotate_left
                · intro w hSw; (try dsimp only at hSw); go_simp <;> with_reducible rfl
                (try simp only [Act.put, List.setIfInBounds_toArray, List.set_cons_zero, List.set_cons_succ])
                refine wpAnyH_done (by kernel_rfl) ?_ _
                go_wp2_with fail
                go_meet
                exact alls_is yy7.heap.size (G1.out) (G2.out) (G3.out) (G4.out) (G5.out) (G6.out) (G7.out) RR hB8
            · skip
              go_simp
              generalize hw : yy3.alloc (.cells #[.int .i64 bN, .int .i64 bD, .int .i64 aN, .int .i64 aD, .int .i64 bN, .int .i64 bD] 25) = yy4
              have hq4 : Below yy3.heap.size yy3 yy4 := by rw [← hw]; exact ((Below.refl _ _).alloc (by first | exact Nat.le_refl _ | (simp; done) | (simp; omega) | omega | (simp [World.drewN]; omega)) _)
              have FL := fracs3 (W := yy4) (m := yy3.heap.size) (a := bN) (b := bD) (c := aN) (d := aD) (e := bN) (f := bD) (by rw [← hw]; simp [go_sem]) (by rw [← hw]; simp [go_sem]) (by rw [← hw]; simp [go_sem]) (by rw [← hw]; simp [go_sem]) (by rw [← hw]; simp [go_sem]) (by rw [← hw]; simp [go_sem])
              have hL4 := Below.refl yy4.heap.size yy4
              have hB4 := below_step hB3 hq4
              clear hw
              clear hHeld
              first | (with_reducible refine hK.out _ _ ?_ (fun hHeld => ?_)) | (go_wp2_with fail; with_reducible refine hK.out _ _ ?_ (fun hHeld => ?_))
              · with_reducible exact ⟨cell_below hB4 hx0, cell_below hB4 hx1, cell_below hB4 hy0, cell_below hB4 hy1, cell_below hB4 ha0, cell_below hB4 ha1, cell_below hB4 hb0, cell_below hB4 hb1, hB4⟩
              clear hK K
              (try simp only [Act.put, List.setIfInBounds_toArray, List.set_cons_zero, List.set_cons_succ])
              refine wpAnyH_ready (rs := [16]) (by kernel_rfl) (by simp) ?_
              refine AllReadyH.cons (o := ({ dst := some 45, op := Op.call { callee := Callee.value (Operand.func 19), args := #[Operand.tmp 42, Operand.tmp 44], argTypes := #[3, 3] }, type := 29, pos := "law.go:166", after := #[{ on := 13, ground := Ground.data }, { on := 15, ground := Ground.data }, { on := 11, ground := Ground.chain }], guard := none } : Oper)) rfl (fun K hK => ?_) AllReadyH.nil
              go_simp
              go_at_call 19
              with_reducible refine (C5.out _).mono ?_
              rintro e yy5 ⟨rfl, hq5⟩
              have hB5 := below_step hB4 hq5
              have hL5 := below_step hL4 hq5
              clear hHeld
              first | (with_reducible refine hK.out _ _ ?_ (fun hHeld => ?_)) | (go_wp2_with fail; with_reducible refine hK.out _ _ ?_ (fun hHeld => ?_))
              · with_reducible exact ⟨cell_below hB5 hx0, cell_below hB5 hx1, cell_below hB5 hy0, cell_below hB5 hy1, cell_below hB5 ha0, cell_below hB5 ha1, cell_below hB5 hb0, cell_below hB5 hb1, hB5⟩
              clear hK K
              (try simp only [Act.put, List.setIfInBounds_toArray, List.set_cons_zero, List.set_cons_succ])
              refine wpAnyH_ready (rs := [19]) (by kernel_rfl) (by simp) ?_
              refine AllReadyH.cons (o := ({ dst := some 48, op := Op.call { callee := Callee.value (Operand.func 17), args := #[Operand.tmp 46, Operand.tmp 47], argTypes := #[25, 25] }, type := 25, pos := "law.go:166", after := #[{ on := 17, ground := Ground.data }, { on := 18, ground := Ground.data }, { on := 16, ground := Ground.chain }], guard := none } : Oper)) rfl (fun K hK => ?_) AllReadyH.nil
              go_simp
              go_at_call 17
              with_reducible refine (C6.out _).mono ?_
              rintro e yy6 ⟨rfl, hq6⟩
              have hB6 := below_step hB5 hq6
              have hL6 := below_step hL5 hq6
              clear hHeld
              first | (with_reducible refine hK.out _ _ ?_ (fun hHeld => ?_)) | (go_wp2_with fail; with_reducible refine hK.out _ _ ?_ (fun hHeld => ?_))
              · with_reducible exact ⟨cell_below hB6 hx0, cell_below hB6 hx1, cell_below hB6 hy0, cell_below hB6 hy1, cell_below hB6 ha0, cell_below hB6 ha1, cell_below hB6 hb0, cell_below hB6 hb1, hB6⟩
              clear hK K
              (try simp only [Act.put, List.setIfInBounds_toArray, List.set_cons_zero, List.set_cons_succ])
              refine wpAnyH_take (i := 20) (oi := ({ dst := some 49, op := Op.build 29 #[(0, Operand.tmp 48)], type := 29, pos := "law.go:166", after := #[{ on := 19, ground := Ground.data }], guard := none } : Oper)) (v := ?_) rfl (by kernel_rfl) (by kernel_rfl) (by kernel_rfl) (fun _ _ _ h => h) (Or.inl ⟨by rfl, ?_⟩) (by assumption) ?_
              rotate_left
              · intro w hSw; (try dsimp only at hSw); go_simp <;> with_reducible rfl
              (try simp only [Act.put, List.setIfInBounds_toArray, List.set_cons_zero, List.set_cons_succ])
              refine wpAnyH_ready (rs := [25]) (by kernel_rfl) (by simp) ?_
              refine AllReadyH.cons (o := ({ dst := some 54, op := Op.call { callee := Callee.value (Operand.func 20), args := #[Operand.tmp 53], argTypes := #[36] }, type := 29, pos := "law.go:166", after := #[{ on := 24, ground := Ground.data }, { on := 19, ground := Ground.chain }], guard := none } : Oper)) rfl (fun K hK => ?_) AllReadyH.nil
              go_simp
              go_at_call 20
              with_reducible refine (C7.out _ _ (FracsAt.below FL hL6)).mono ?_
              rintro e yy7 ⟨rfl, hq7⟩
              have hB7 := below_step hB6 hq7
              have hL7 := below_step hL6 hq7
              clear hHeld
              first | (with_reducible refine hK.out _ _ ?_ (fun hHeld => ?_)) | (go_wp2_with fail; with_reducible refine hK.out _ _ ?_ (fun hHeld => ?_))
              · with_reducible exact ⟨cell_below hB7 hx0, cell_below hB7 hx1, cell_below hB7 hy0, cell_below hB7 hy1, cell_below hB7 ha0, cell_below hB7 ha1, cell_below hB7 hb0, cell_below hB7 hb1, hB7⟩
              clear hK K
              (try simp only [Act.put, List.setIfInBounds_toArray, List.set_cons_zero, List.set_cons_succ])
              refine wpAnyH_ready (rs := [26]) (by kernel_rfl) (by simp) ?_
              refine AllReadyH.cons (o := ({ dst := some 55, op := Op.buildSlice 37 7 #[(0, Operand.tmp 31), (1, Operand.tmp 34), (2, Operand.tmp 37), (3, Operand.tmp 40), (4, Operand.tmp 45), (5, Operand.tmp 49), (6, Operand.tmp 54)], type := 37, pos := "law.go:166", after := #[{ on := 2, ground := Ground.data }, { on := 5, ground := Ground.data }, { on := 8, ground := Ground.data }, { on := 11, ground := Ground.data }, { on := 16, ground := Ground.data }, { on := 20, ground := Ground.data }, { on := 25, ground := Ground.data }], guard := none } : Oper)) rfl (fun K hK => ?_) AllReadyH.nil
              go_simp
              generalize hw : yy7.alloc (.cells #[.int .i64 r1N, .int .i64 r1D, .int .i64 r1E, .int .i64 r2N, .int .i64 r2D, .int .i64 r2E, .int .i64 r3N, .int .i64 r3D, .int .i64 r3E, .int .i64 r4N, .int .i64 r4D, .int .i64 r4E, .int .i64 r5N, .int .i64 r5D, .int .i64 r5E, .int .i64 r6N, .int .i64 r6D, .int .i64 0, .int .i64 r7N, .int .i64 r7D, .int .i64 r7E] 29) = yy8
              have hq8 : Below yy7.heap.size yy7 yy8 := by rw [← hw]; exact ((Below.refl _ _).alloc (by first | exact Nat.le_refl _ | (simp; done) | (simp; omega) | omega | (simp [World.drewN]; omega)) _)
              have RR : ∀ i, i < 7 → yy8.cell? ⟨yy7.heap.size, i * 3, none⟩ = some (.int .i64 ([(r1N, r1D, r1E), (r2N, r2D, r2E), (r3N, r3D, r3E), (r4N, r4D, r4E), (r5N, r5D, r5E), (r6N, r6D, 0), (r7N, r7D, r7E)].getD i (0, 0, 0)).1) ∧ yy8.cell? ⟨yy7.heap.size, i * 3 + 1, none⟩ = some (.int .i64 ([(r1N, r1D, r1E), (r2N, r2D, r2E), (r3N, r3D, r3E), (r4N, r4D, r4E), (r5N, r5D, r5E), (r6N, r6D, 0), (r7N, r7D, r7E)].getD i (0, 0, 0)).2.1) ∧ yy8.cell? ⟨yy7.heap.size, i * 3 + 2, none⟩ = some (.int .i64 ([(r1N, r1D, r1E), (r2N, r2D, r2E), (r3N, r3D, r3E), (r4N, r4D, r4E), (r5N, r5D, r5E), (r6N, r6D, 0), (r7N, r7D, r7E)].getD i (0, 0, 0)).2.2) := by
                rw [← hw]
                intro i hi
                match i, hi with
                | 0, _ => exact ⟨by simp [go_sem], by simp [go_sem], by simp [go_sem]⟩
                | 1, _ => exact ⟨by simp [go_sem], by simp [go_sem], by simp [go_sem]⟩
                | 2, _ => exact ⟨by simp [go_sem], by simp [go_sem], by simp [go_sem]⟩
                | 3, _ => exact ⟨by simp [go_sem], by simp [go_sem], by simp [go_sem]⟩
                | 4, _ => exact ⟨by simp [go_sem], by simp [go_sem], by simp [go_sem]⟩
                | 5, _ => exact ⟨by simp [go_sem], by simp [go_sem], by simp [go_sem]⟩
                | 6, _ => exact ⟨by simp [go_sem], by simp [go_sem], by simp [go_sem]⟩
              have hB8 := below_step hB7 hq8
              clear hw
              clear hHeld
              first | (with_reducible refine hK.out _ _ ?_ (fun hHeld => ?_)) | (go_wp2_with fail; with_reducible refine hK.out _ _ ?_ (fun hHeld => ?_))
              · with_reducible exact ⟨cell_below hB8 hx0, cell_below hB8 hx1, cell_below hB8 hy0, cell_below hB8 hy1, cell_below hB8 ha0, cell_below hB8 ha1, cell_below hB8 hb0, cell_below hB8 hb1, hB8⟩
              clear hK K
              (try simp only [Act.put, List.setIfInBounds_toArray, List.set_cons_zero, List.set_cons_succ])
              refine wpAnyH_take (i := 27) (oi := ({ dst := some 10, op := Op.assign (Operand.tmp 55), type := 37, pos := "law.go:166", after := #[{ on := 26, ground := Ground.data }, { on := 25, ground := Ground.chain }, { on := 0, ground := Ground.phase }, { on := 1, ground := Ground.phase }, { on := 2, ground := Ground.phase }, { on := 3, ground := Ground.phase }, { on := 4, ground := Ground.phase }, { on := 5, ground := Ground.phase }, { on := 6, ground := Ground.phase }, { on := 7, ground := Ground.phase }, { on := 8, ground := Ground.phase }, { on := 9, ground := Ground.phase }, { on := 10, ground := Ground.phase }, { on := 11, ground := Ground.phase }, { on := 12, ground := Ground.phase }, { on := 13, ground := Ground.phase }, { on := 14, ground := Ground.phase }, { on := 15, ground := Ground.phase }, { on := 16, ground := Ground.phase }, { on := 17, ground := Ground.phase }, { on := 18, ground := Ground.phase }, { on := 19, ground := Ground.phase }, { on := 20, ground := Ground.phase }, { on := 21, ground := Ground.phase }, { on := 22, ground := Ground.phase }, { on := 23, ground := Ground.phase }, { on := 24, ground := Ground.phase }, { on := 25, ground := Ground.phase }, { on := 26, ground := Ground.phase }], guard := none } : Oper)) (v := ?_) rfl (by kernel_rfl) (by kernel_rfl) (by kernel_rfl) (fun _ _ _ h => h) (Or.inl ⟨by rfl, ?_⟩) (by assumption) ?_
              rotate_left
              · intro w hSw; (try dsimp only at hSw); go_simp <;> with_reducible rfl
              (try simp only [Act.put, List.setIfInBounds_toArray, List.set_cons_zero, List.set_cons_succ])
              refine wpAnyH_done (by kernel_rfl) ?_ _
              go_wp2_with fail
              go_meet
              exact alls_is yy7.heap.size (G1.out) (G2.out) (G3.out) (G4.out) (G5.out) (G6.out) (G7.out) RR hB8
          · skip
            go_simp
            generalize hw : yy2.alloc (.cells #[.int .i64 bN, .int .i64 bD, .int .i64 aN, .int .i64 aD, .int .i64 bN, .int .i64 bD] 25) = yy3
            have hq3 : Below yy2.heap.size yy2 yy3 := by rw [← hw]; exact ((Below.refl _ _).alloc (by first | exact Nat.le_refl _ | (simp; done) | (simp; omega) | omega | (simp [World.drewN]; omega)) _)
            have FL := fracs3 (W := yy3) (m := yy2.heap.size) (a := bN) (b := bD) (c := aN) (d := aD) (e := bN) (f := bD) (by rw [← hw]; simp [go_sem]) (by rw [← hw]; simp [go_sem]) (by rw [← hw]; simp [go_sem]) (by rw [← hw]; simp [go_sem]) (by rw [← hw]; simp [go_sem]) (by rw [← hw]; simp [go_sem])
            have hL3 := Below.refl yy3.heap.size yy3
            have hB3 := below_step hB2 hq3
            clear hw
            clear hHeld
            first | (with_reducible refine hK.out _ _ ?_ (fun hHeld => ?_)) | (go_wp2_with fail; with_reducible refine hK.out _ _ ?_ (fun hHeld => ?_))
            · with_reducible exact ⟨cell_below hB3 hx0, cell_below hB3 hx1, cell_below hB3 hy0, cell_below hB3 hy1, cell_below hB3 ha0, cell_below hB3 ha1, cell_below hB3 hb0, cell_below hB3 hb1, hB3⟩
            clear hK K
            (try simp only [Act.put, List.setIfInBounds_toArray, List.set_cons_zero, List.set_cons_succ])
            refine wpAnyH_ready (rs := [11]) (by kernel_rfl) (by simp) ?_
            refine AllReadyH.cons (o := ({ dst := some 40, op := Op.call { callee := Callee.value (Operand.func 15), args := #[Operand.tmp 38, Operand.tmp 39], argTypes := #[25, 25] }, type := 29, pos := "law.go:166", after := #[{ on := 9, ground := Ground.data }, { on := 10, ground := Ground.data }, { on := 8, ground := Ground.chain }], guard := none } : Oper)) rfl (fun K hK => ?_) AllReadyH.nil
            go_simp
            go_at_call 15
            with_reducible refine (C4.out _).mono ?_
            rintro e yy4 ⟨rfl, hq4⟩
            have hB4 := below_step hB3 hq4
            have hL4 := below_step hL3 hq4
            clear hHeld
            first | (with_reducible refine hK.out _ _ ?_ (fun hHeld => ?_)) | (go_wp2_with fail; with_reducible refine hK.out _ _ ?_ (fun hHeld => ?_))
            · with_reducible exact ⟨cell_below hB4 hx0, cell_below hB4 hx1, cell_below hB4 hy0, cell_below hB4 hy1, cell_below hB4 ha0, cell_below hB4 ha1, cell_below hB4 hb0, cell_below hB4 hb1, hB4⟩
            clear hK K
            (try simp only [Act.put, List.setIfInBounds_toArray, List.set_cons_zero, List.set_cons_succ])
            refine wpAnyH_ready (rs := [16]) (by kernel_rfl) (by simp) ?_
            refine AllReadyH.cons (o := ({ dst := some 45, op := Op.call { callee := Callee.value (Operand.func 19), args := #[Operand.tmp 42, Operand.tmp 44], argTypes := #[3, 3] }, type := 29, pos := "law.go:166", after := #[{ on := 13, ground := Ground.data }, { on := 15, ground := Ground.data }, { on := 11, ground := Ground.chain }], guard := none } : Oper)) rfl (fun K hK => ?_) AllReadyH.nil
            go_simp
            go_at_call 19
            with_reducible refine (C5.out _).mono ?_
            rintro e yy5 ⟨rfl, hq5⟩
            have hB5 := below_step hB4 hq5
            have hL5 := below_step hL4 hq5
            clear hHeld
            first | (with_reducible refine hK.out _ _ ?_ (fun hHeld => ?_)) | (go_wp2_with fail; with_reducible refine hK.out _ _ ?_ (fun hHeld => ?_))
            · with_reducible exact ⟨cell_below hB5 hx0, cell_below hB5 hx1, cell_below hB5 hy0, cell_below hB5 hy1, cell_below hB5 ha0, cell_below hB5 ha1, cell_below hB5 hb0, cell_below hB5 hb1, hB5⟩
            clear hK K
            (try simp only [Act.put, List.setIfInBounds_toArray, List.set_cons_zero, List.set_cons_succ])
            refine wpAnyH_ready (rs := [19]) (by kernel_rfl) (by simp) ?_
            refine AllReadyH.cons (o := ({ dst := some 48, op := Op.call { callee := Callee.value (Operand.func 17), args := #[Operand.tmp 46, Operand.tmp 47], argTypes := #[25, 25] }, type := 25, pos := "law.go:166", after := #[{ on := 17, ground := Ground.data }, { on := 18, ground := Ground.data }, { on := 16, ground := Ground.chain }], guard := none } : Oper)) rfl (fun K hK => ?_) AllReadyH.nil
            go_simp
            go_at_call 17
            with_reducible refine (C6.out _).mono ?_
            rintro e yy6 ⟨rfl, hq6⟩
            have hB6 := below_step hB5 hq6
            have hL6 := below_step hL5 hq6
            clear hHeld
            first | (with_reducible refine hK.out _ _ ?_ (fun hHeld => ?_)) | (go_wp2_with fail; with_reducible refine hK.out _ _ ?_ (fun hHeld => ?_))
            · with_reducible exact ⟨cell_below hB6 hx0, cell_below hB6 hx1, cell_below hB6 hy0, cell_below hB6 hy1, cell_below hB6 ha0, cell_below hB6 ha1, cell_below hB6 hb0, cell_below hB6 hb1, hB6⟩
            clear hK K
            (try simp only [Act.put, List.setIfInBounds_toArray, List.set_cons_zero, List.set_cons_succ])
            refine wpAnyH_take (i := 20) (oi := ({ dst := some 49, op := Op.build 29 #[(0, Operand.tmp 48)], type := 29, pos := "law.go:166", after := #[{ on := 19, ground := Ground.data }], guard := none } : Oper)) (v := ?_) rfl (by kernel_rfl) (by kernel_rfl) (by kernel_rfl) (fun _ _ _ h => h) (Or.inl ⟨by rfl, ?_⟩) (by assumption) ?_
            rotate_left
            · intro w hSw; (try dsimp only at hSw); go_simp <;> with_reducible rfl
            (try simp only [Act.put, List.setIfInBounds_toArray, List.set_cons_zero, List.set_cons_succ])
            refine wpAnyH_ready (rs := [25]) (by kernel_rfl) (by simp) ?_
            refine AllReadyH.cons (o := ({ dst := some 54, op := Op.call { callee := Callee.value (Operand.func 20), args := #[Operand.tmp 53], argTypes := #[36] }, type := 29, pos := "law.go:166", after := #[{ on := 24, ground := Ground.data }, { on := 19, ground := Ground.chain }], guard := none } : Oper)) rfl (fun K hK => ?_) AllReadyH.nil
            go_simp
            go_at_call 20
            with_reducible refine (C7.out _ _ (FracsAt.below FL hL6)).mono ?_
            rintro e yy7 ⟨rfl, hq7⟩
            have hB7 := below_step hB6 hq7
            have hL7 := below_step hL6 hq7
            clear hHeld
            first | (with_reducible refine hK.out _ _ ?_ (fun hHeld => ?_)) | (go_wp2_with fail; with_reducible refine hK.out _ _ ?_ (fun hHeld => ?_))
            · with_reducible exact ⟨cell_below hB7 hx0, cell_below hB7 hx1, cell_below hB7 hy0, cell_below hB7 hy1, cell_below hB7 ha0, cell_below hB7 ha1, cell_below hB7 hb0, cell_below hB7 hb1, hB7⟩
            clear hK K
            (try simp only [Act.put, List.setIfInBounds_toArray, List.set_cons_zero, List.set_cons_succ])
            refine wpAnyH_ready (rs := [26]) (by kernel_rfl) (by simp) ?_
            refine AllReadyH.cons (o := ({ dst := some 55, op := Op.buildSlice 37 7 #[(0, Operand.tmp 31), (1, Operand.tmp 34), (2, Operand.tmp 37), (3, Operand.tmp 40), (4, Operand.tmp 45), (5, Operand.tmp 49), (6, Operand.tmp 54)], type := 37, pos := "law.go:166", after := #[{ on := 2, ground := Ground.data }, { on := 5, ground := Ground.data }, { on := 8, ground := Ground.data }, { on := 11, ground := Ground.data }, { on := 16, ground := Ground.data }, { on := 20, ground := Ground.data }, { on := 25, ground := Ground.data }], guard := none } : Oper)) rfl (fun K hK => ?_) AllReadyH.nil
            go_simp
            generalize hw : yy7.alloc (.cells #[.int .i64 r1N, .int .i64 r1D, .int .i64 r1E, .int .i64 r2N, .int .i64 r2D, .int .i64 r2E, .int .i64 r3N, .int .i64 r3D, .int .i64 r3E, .int .i64 r4N, .int .i64 r4D, .int .i64 r4E, .int .i64 r5N, .int .i64 r5D, .int .i64 r5E, .int .i64 r6N, .int .i64 r6D, .int .i64 0, .int .i64 r7N, .int .i64 r7D, .int .i64 r7E] 29) = yy8
            have hq8 : Below yy7.heap.size yy7 yy8 := by rw [← hw]; exact ((Below.refl _ _).alloc (by first | exact Nat.le_refl _ | (simp; done) | (simp; omega) | omega | (simp [World.drewN]; omega)) _)
            have RR : ∀ i, i < 7 → yy8.cell? ⟨yy7.heap.size, i * 3, none⟩ = some (.int .i64 ([(r1N, r1D, r1E), (r2N, r2D, r2E), (r3N, r3D, r3E), (r4N, r4D, r4E), (r5N, r5D, r5E), (r6N, r6D, 0), (r7N, r7D, r7E)].getD i (0, 0, 0)).1) ∧ yy8.cell? ⟨yy7.heap.size, i * 3 + 1, none⟩ = some (.int .i64 ([(r1N, r1D, r1E), (r2N, r2D, r2E), (r3N, r3D, r3E), (r4N, r4D, r4E), (r5N, r5D, r5E), (r6N, r6D, 0), (r7N, r7D, r7E)].getD i (0, 0, 0)).2.1) ∧ yy8.cell? ⟨yy7.heap.size, i * 3 + 2, none⟩ = some (.int .i64 ([(r1N, r1D, r1E), (r2N, r2D, r2E), (r3N, r3D, r3E), (r4N, r4D, r4E), (r5N, r5D, r5E), (r6N, r6D, 0), (r7N, r7D, r7E)].getD i (0, 0, 0)).2.2) := by
              rw [← hw]
              intro i hi
              match i, hi with
              | 0, _ => exact ⟨by simp [go_sem], by simp [go_sem], by simp [go_sem]⟩
              | 1, _ => exact ⟨by simp [go_sem], by simp [go_sem], by simp [go_sem]⟩
              | 2, _ => exact ⟨by simp [go_sem], by simp [go_sem], by simp [go_sem]⟩
              | 3, _ => exact ⟨by simp [go_sem], by simp [go_sem], by simp [go_sem]⟩
              | 4, _ => exact ⟨by simp [go_sem], by simp [go_sem], by simp [go_sem]⟩
              | 5, _ => exact ⟨by simp [go_sem], by simp [go_sem], by simp [go_sem]⟩
              | 6, _ => exact ⟨by simp [go_sem], by simp [go_sem], by simp [go_sem]⟩
            have hB8 := below_step hB7 hq8
            clear hw
            clear hHeld
            first | (with_reducible refine hK.out _ _ ?_ (fun hHeld => ?_)) | (go_wp2_with fail; with_reducible refine hK.out _ _ ?_ (fun hHeld => ?_))
            · with_reducible exact ⟨cell_below hB8 hx0, cell_below hB8 hx1, cell_below hB8 hy0, cell_below hB8 hy1, cell_below hB8 ha0, cell_below hB8 ha1, cell_below hB8 hb0, cell_below hB8 hb1, hB8⟩
            clear hK K
            (try simp only [Act.put, List.setIfInBounds_toArray, List.set_cons_zero, List.set_cons_succ])
            refine wpAnyH_take (i := 27) (oi := ({ dst := some 10, op := Op.assign (Operand.tmp 55), type := 37, pos := "law.go:166", after := #[{ on := 26, ground := Ground.data }, { on := 25, ground := Ground.chain }, { on := 0, ground := Ground.phase }, { on := 1, ground := Ground.phase }, { on := 2, ground := Ground.phase }, { on := 3, ground := Ground.phase }, { on := 4, ground := Ground.phase }, { on := 5, ground := Ground.phase }, { on := 6, ground := Ground.phase }, { on := 7, ground := Ground.phase }, { on := 8, ground := Ground.phase }, { on := 9, ground := Ground.phase }, { on := 10, ground := Ground.phase }, { on := 11, ground := Ground.phase }, { on := 12, ground := Ground.phase }, { on := 13, ground := Ground.phase }, { on := 14, ground := Ground.phase }, { on := 15, ground := Ground.phase }, { on := 16, ground := Ground.phase }, { on := 17, ground := Ground.phase }, { on := 18, ground := Ground.phase }, { on := 19, ground := Ground.phase }, { on := 20, ground := Ground.phase }, { on := 21, ground := Ground.phase }, { on := 22, ground := Ground.phase }, { on := 23, ground := Ground.phase }, { on := 24, ground := Ground.phase }, { on := 25, ground := Ground.phase }, { on := 26, ground := Ground.phase }], guard := none } : Oper)) (v := ?_) rfl (by kernel_rfl) (by kernel_rfl) (by kernel_rfl) (fun _ _ _ h => h) (Or.inl ⟨by rfl, ?_⟩) (by assumption) ?_
            rotate_left
            · intro w hSw; (try dsimp only at hSw); go_simp <;> with_reducible rfl
            (try simp only [Act.put, List.setIfInBounds_toArray, List.set_cons_zero, List.set_cons_succ])
            refine wpAnyH_done (by kernel_rfl) ?_ _
            go_wp2_with fail
            go_meet
            exact alls_is yy7.heap.size (G1.out) (G2.out) (G3.out) (G4.out) (G5.out) (G6.out) (G7.out) RR hB8
        · skip
          go_simp
          generalize hw : yy1.alloc (.cells #[.int .i64 bN, .int .i64 bD, .int .i64 aN, .int .i64 aD, .int .i64 bN, .int .i64 bD] 25) = yy2
          have hq2 : Below yy1.heap.size yy1 yy2 := by rw [← hw]; exact ((Below.refl _ _).alloc (by first | exact Nat.le_refl _ | (simp; done) | (simp; omega) | omega | (simp [World.drewN]; omega)) _)
          have FL := fracs3 (W := yy2) (m := yy1.heap.size) (a := bN) (b := bD) (c := aN) (d := aD) (e := bN) (f := bD) (by rw [← hw]; simp [go_sem]) (by rw [← hw]; simp [go_sem]) (by rw [← hw]; simp [go_sem]) (by rw [← hw]; simp [go_sem]) (by rw [← hw]; simp [go_sem]) (by rw [← hw]; simp [go_sem])
          have hL2 := Below.refl yy2.heap.size yy2
          have hB2 := below_step hB1 hq2
          clear hw
          clear hHeld
          first | (with_reducible refine hK.out _ _ ?_ (fun hHeld => ?_)) | (go_wp2_with fail; with_reducible refine hK.out _ _ ?_ (fun hHeld => ?_))
          · with_reducible exact ⟨cell_below hB2 hx0, cell_below hB2 hx1, cell_below hB2 hy0, cell_below hB2 hy1, cell_below hB2 ha0, cell_below hB2 ha1, cell_below hB2 hb0, cell_below hB2 hb1, hB2⟩
          clear hK K
          (try simp only [Act.put, List.setIfInBounds_toArray, List.set_cons_zero, List.set_cons_succ])
          refine wpAnyH_ready (rs := [8]) (by kernel_rfl) (by simp) ?_
          refine AllReadyH.cons (o := ({ dst := some 37, op := Op.call { callee := Callee.value (Operand.func 12), args := #[Operand.tmp 35, Operand.tmp 36], argTypes := #[25, 25] }, type := 29, pos := "law.go:166", after := #[{ on := 6, ground := Ground.data }, { on := 7, ground := Ground.data }, { on := 5, ground := Ground.chain }], guard := none } : Oper)) rfl (fun K hK => ?_) AllReadyH.nil
          go_simp
          go_at_call 12
          with_reducible refine (C3.out _).mono ?_
          rintro e yy3 ⟨rfl, hq3⟩
          have hB3 := below_step hB2 hq3
          have hL3 := below_step hL2 hq3
          clear hHeld
          first | (with_reducible refine hK.out _ _ ?_ (fun hHeld => ?_)) | (go_wp2_with fail; with_reducible refine hK.out _ _ ?_ (fun hHeld => ?_))
          · with_reducible exact ⟨cell_below hB3 hx0, cell_below hB3 hx1, cell_below hB3 hy0, cell_below hB3 hy1, cell_below hB3 ha0, cell_below hB3 ha1, cell_below hB3 hb0, cell_below hB3 hb1, hB3⟩
          clear hK K
          (try simp only [Act.put, List.setIfInBounds_toArray, List.set_cons_zero, List.set_cons_succ])
          refine wpAnyH_ready (rs := [11]) (by kernel_rfl) (by simp) ?_
          refine AllReadyH.cons (o := ({ dst := some 40, op := Op.call { callee := Callee.value (Operand.func 15), args := #[Operand.tmp 38, Operand.tmp 39], argTypes := #[25, 25] }, type := 29, pos := "law.go:166", after := #[{ on := 9, ground := Ground.data }, { on := 10, ground := Ground.data }, { on := 8, ground := Ground.chain }], guard := none } : Oper)) rfl (fun K hK => ?_) AllReadyH.nil
          go_simp
          go_at_call 15
          with_reducible refine (C4.out _).mono ?_
          rintro e yy4 ⟨rfl, hq4⟩
          have hB4 := below_step hB3 hq4
          have hL4 := below_step hL3 hq4
          clear hHeld
          first | (with_reducible refine hK.out _ _ ?_ (fun hHeld => ?_)) | (go_wp2_with fail; with_reducible refine hK.out _ _ ?_ (fun hHeld => ?_))
          · with_reducible exact ⟨cell_below hB4 hx0, cell_below hB4 hx1, cell_below hB4 hy0, cell_below hB4 hy1, cell_below hB4 ha0, cell_below hB4 ha1, cell_below hB4 hb0, cell_below hB4 hb1, hB4⟩
          clear hK K
          (try simp only [Act.put, List.setIfInBounds_toArray, List.set_cons_zero, List.set_cons_succ])
          refine wpAnyH_ready (rs := [16]) (by kernel_rfl) (by simp) ?_
          refine AllReadyH.cons (o := ({ dst := some 45, op := Op.call { callee := Callee.value (Operand.func 19), args := #[Operand.tmp 42, Operand.tmp 44], argTypes := #[3, 3] }, type := 29, pos := "law.go:166", after := #[{ on := 13, ground := Ground.data }, { on := 15, ground := Ground.data }, { on := 11, ground := Ground.chain }], guard := none } : Oper)) rfl (fun K hK => ?_) AllReadyH.nil
          go_simp
          go_at_call 19
          with_reducible refine (C5.out _).mono ?_
          rintro e yy5 ⟨rfl, hq5⟩
          have hB5 := below_step hB4 hq5
          have hL5 := below_step hL4 hq5
          clear hHeld
          first | (with_reducible refine hK.out _ _ ?_ (fun hHeld => ?_)) | (go_wp2_with fail; with_reducible refine hK.out _ _ ?_ (fun hHeld => ?_))
          · with_reducible exact ⟨cell_below hB5 hx0, cell_below hB5 hx1, cell_below hB5 hy0, cell_below hB5 hy1, cell_below hB5 ha0, cell_below hB5 ha1, cell_below hB5 hb0, cell_below hB5 hb1, hB5⟩
          clear hK K
          (try simp only [Act.put, List.setIfInBounds_toArray, List.set_cons_zero, List.set_cons_succ])
          refine wpAnyH_ready (rs := [19]) (by kernel_rfl) (by simp) ?_
          refine AllReadyH.cons (o := ({ dst := some 48, op := Op.call { callee := Callee.value (Operand.func 17), args := #[Operand.tmp 46, Operand.tmp 47], argTypes := #[25, 25] }, type := 25, pos := "law.go:166", after := #[{ on := 17, ground := Ground.data }, { on := 18, ground := Ground.data }, { on := 16, ground := Ground.chain }], guard := none } : Oper)) rfl (fun K hK => ?_) AllReadyH.nil
          go_simp
          go_at_call 17
          with_reducible refine (C6.out _).mono ?_
          rintro e yy6 ⟨rfl, hq6⟩
          have hB6 := below_step hB5 hq6
          have hL6 := below_step hL5 hq6
          clear hHeld
          first | (with_reducible refine hK.out _ _ ?_ (fun hHeld => ?_)) | (go_wp2_with fail; with_reducible refine hK.out _ _ ?_ (fun hHeld => ?_))
          · with_reducible exact ⟨cell_below hB6 hx0, cell_below hB6 hx1, cell_below hB6 hy0, cell_below hB6 hy1, cell_below hB6 ha0, cell_below hB6 ha1, cell_below hB6 hb0, cell_below hB6 hb1, hB6⟩
          clear hK K
          (try simp only [Act.put, List.setIfInBounds_toArray, List.set_cons_zero, List.set_cons_succ])
          refine wpAnyH_take (i := 20) (oi := ({ dst := some 49, op := Op.build 29 #[(0, Operand.tmp 48)], type := 29, pos := "law.go:166", after := #[{ on := 19, ground := Ground.data }], guard := none } : Oper)) (v := ?_) rfl (by kernel_rfl) (by kernel_rfl) (by kernel_rfl) (fun _ _ _ h => h) (Or.inl ⟨by rfl, ?_⟩) (by assumption) ?_
          rotate_left
          · intro w hSw; (try dsimp only at hSw); go_simp <;> with_reducible rfl
          (try simp only [Act.put, List.setIfInBounds_toArray, List.set_cons_zero, List.set_cons_succ])
          refine wpAnyH_ready (rs := [25]) (by kernel_rfl) (by simp) ?_
          refine AllReadyH.cons (o := ({ dst := some 54, op := Op.call { callee := Callee.value (Operand.func 20), args := #[Operand.tmp 53], argTypes := #[36] }, type := 29, pos := "law.go:166", after := #[{ on := 24, ground := Ground.data }, { on := 19, ground := Ground.chain }], guard := none } : Oper)) rfl (fun K hK => ?_) AllReadyH.nil
          go_simp
          go_at_call 20
          with_reducible refine (C7.out _ _ (FracsAt.below FL hL6)).mono ?_
          rintro e yy7 ⟨rfl, hq7⟩
          have hB7 := below_step hB6 hq7
          have hL7 := below_step hL6 hq7
          clear hHeld
          first | (with_reducible refine hK.out _ _ ?_ (fun hHeld => ?_)) | (go_wp2_with fail; with_reducible refine hK.out _ _ ?_ (fun hHeld => ?_))
          · with_reducible exact ⟨cell_below hB7 hx0, cell_below hB7 hx1, cell_below hB7 hy0, cell_below hB7 hy1, cell_below hB7 ha0, cell_below hB7 ha1, cell_below hB7 hb0, cell_below hB7 hb1, hB7⟩
          clear hK K
          (try simp only [Act.put, List.setIfInBounds_toArray, List.set_cons_zero, List.set_cons_succ])
          refine wpAnyH_ready (rs := [26]) (by kernel_rfl) (by simp) ?_
          refine AllReadyH.cons (o := ({ dst := some 55, op := Op.buildSlice 37 7 #[(0, Operand.tmp 31), (1, Operand.tmp 34), (2, Operand.tmp 37), (3, Operand.tmp 40), (4, Operand.tmp 45), (5, Operand.tmp 49), (6, Operand.tmp 54)], type := 37, pos := "law.go:166", after := #[{ on := 2, ground := Ground.data }, { on := 5, ground := Ground.data }, { on := 8, ground := Ground.data }, { on := 11, ground := Ground.data }, { on := 16, ground := Ground.data }, { on := 20, ground := Ground.data }, { on := 25, ground := Ground.data }], guard := none } : Oper)) rfl (fun K hK => ?_) AllReadyH.nil
          go_simp
          generalize hw : yy7.alloc (.cells #[.int .i64 r1N, .int .i64 r1D, .int .i64 r1E, .int .i64 r2N, .int .i64 r2D, .int .i64 r2E, .int .i64 r3N, .int .i64 r3D, .int .i64 r3E, .int .i64 r4N, .int .i64 r4D, .int .i64 r4E, .int .i64 r5N, .int .i64 r5D, .int .i64 r5E, .int .i64 r6N, .int .i64 r6D, .int .i64 0, .int .i64 r7N, .int .i64 r7D, .int .i64 r7E] 29) = yy8
          have hq8 : Below yy7.heap.size yy7 yy8 := by rw [← hw]; exact ((Below.refl _ _).alloc (by first | exact Nat.le_refl _ | (simp; done) | (simp; omega) | omega | (simp [World.drewN]; omega)) _)
          have RR : ∀ i, i < 7 → yy8.cell? ⟨yy7.heap.size, i * 3, none⟩ = some (.int .i64 ([(r1N, r1D, r1E), (r2N, r2D, r2E), (r3N, r3D, r3E), (r4N, r4D, r4E), (r5N, r5D, r5E), (r6N, r6D, 0), (r7N, r7D, r7E)].getD i (0, 0, 0)).1) ∧ yy8.cell? ⟨yy7.heap.size, i * 3 + 1, none⟩ = some (.int .i64 ([(r1N, r1D, r1E), (r2N, r2D, r2E), (r3N, r3D, r3E), (r4N, r4D, r4E), (r5N, r5D, r5E), (r6N, r6D, 0), (r7N, r7D, r7E)].getD i (0, 0, 0)).2.1) ∧ yy8.cell? ⟨yy7.heap.size, i * 3 + 2, none⟩ = some (.int .i64 ([(r1N, r1D, r1E), (r2N, r2D, r2E), (r3N, r3D, r3E), (r4N, r4D, r4E), (r5N, r5D, r5E), (r6N, r6D, 0), (r7N, r7D, r7E)].getD i (0, 0, 0)).2.2) := by
            rw [← hw]
            intro i hi
            match i, hi with
            | 0, _ => exact ⟨by simp [go_sem], by simp [go_sem], by simp [go_sem]⟩
            | 1, _ => exact ⟨by simp [go_sem], by simp [go_sem], by simp [go_sem]⟩
            | 2, _ => exact ⟨by simp [go_sem], by simp [go_sem], by simp [go_sem]⟩
            | 3, _ => exact ⟨by simp [go_sem], by simp [go_sem], by simp [go_sem]⟩
            | 4, _ => exact ⟨by simp [go_sem], by simp [go_sem], by simp [go_sem]⟩
            | 5, _ => exact ⟨by simp [go_sem], by simp [go_sem], by simp [go_sem]⟩
            | 6, _ => exact ⟨by simp [go_sem], by simp [go_sem], by simp [go_sem]⟩
          have hB8 := below_step hB7 hq8
          clear hw
          clear hHeld
          first | (with_reducible refine hK.out _ _ ?_ (fun hHeld => ?_)) | (go_wp2_with fail; with_reducible refine hK.out _ _ ?_ (fun hHeld => ?_))
          · with_reducible exact ⟨cell_below hB8 hx0, cell_below hB8 hx1, cell_below hB8 hy0, cell_below hB8 hy1, cell_below hB8 ha0, cell_below hB8 ha1, cell_below hB8 hb0, cell_below hB8 hb1, hB8⟩
          clear hK K
          (try simp only [Act.put, List.setIfInBounds_toArray, List.set_cons_zero, List.set_cons_succ])
          refine wpAnyH_take (i := 27) (oi := ({ dst := some 10, op := Op.assign (Operand.tmp 55), type := 37, pos := "law.go:166", after := #[{ on := 26, ground := Ground.data }, { on := 25, ground := Ground.chain }, { on := 0, ground := Ground.phase }, { on := 1, ground := Ground.phase }, { on := 2, ground := Ground.phase }, { on := 3, ground := Ground.phase }, { on := 4, ground := Ground.phase }, { on := 5, ground := Ground.phase }, { on := 6, ground := Ground.phase }, { on := 7, ground := Ground.phase }, { on := 8, ground := Ground.phase }, { on := 9, ground := Ground.phase }, { on := 10, ground := Ground.phase }, { on := 11, ground := Ground.phase }, { on := 12, ground := Ground.phase }, { on := 13, ground := Ground.phase }, { on := 14, ground := Ground.phase }, { on := 15, ground := Ground.phase }, { on := 16, ground := Ground.phase }, { on := 17, ground := Ground.phase }, { on := 18, ground := Ground.phase }, { on := 19, ground := Ground.phase }, { on := 20, ground := Ground.phase }, { on := 21, ground := Ground.phase }, { on := 22, ground := Ground.phase }, { on := 23, ground := Ground.phase }, { on := 24, ground := Ground.phase }, { on := 25, ground := Ground.phase }, { on := 26, ground := Ground.phase }], guard := none } : Oper)) (v := ?_) rfl (by kernel_rfl) (by kernel_rfl) (by kernel_rfl) (fun _ _ _ h => h) (Or.inl ⟨by rfl, ?_⟩) (by assumption) ?_
          rotate_left
          · intro w hSw; (try dsimp only at hSw); go_simp <;> with_reducible rfl
          (try simp only [Act.put, List.setIfInBounds_toArray, List.set_cons_zero, List.set_cons_succ])
          refine wpAnyH_done (by kernel_rfl) ?_ _
          go_wp2_with fail
          go_meet
          exact alls_is yy7.heap.size (G1.out) (G2.out) (G3.out) (G4.out) (G5.out) (G6.out) (G7.out) RR hB8
      · skip
        go_simp
        generalize hw : yy0.alloc (.cells #[.int .i64 bN, .int .i64 bD, .int .i64 aN, .int .i64 aD, .int .i64 bN, .int .i64 bD] 25) = yy1
        have hq1 : Below yy0.heap.size yy0 yy1 := by rw [← hw]; exact ((Below.refl _ _).alloc (by first | exact Nat.le_refl _ | (simp; done) | (simp; omega) | omega | (simp [World.drewN]; omega)) _)
        have FL := fracs3 (W := yy1) (m := yy0.heap.size) (a := bN) (b := bD) (c := aN) (d := aD) (e := bN) (f := bD) (by rw [← hw]; simp [go_sem]) (by rw [← hw]; simp [go_sem]) (by rw [← hw]; simp [go_sem]) (by rw [← hw]; simp [go_sem]) (by rw [← hw]; simp [go_sem]) (by rw [← hw]; simp [go_sem])
        have hL1 := Below.refl yy1.heap.size yy1
        have hB1 := below_step hB0 hq1
        clear hw
        clear hHeld
        first | (with_reducible refine hK.out _ _ ?_ (fun hHeld => ?_)) | (go_wp2_with fail; with_reducible refine hK.out _ _ ?_ (fun hHeld => ?_))
        · with_reducible exact ⟨cell_below hB1 hx0, cell_below hB1 hx1, cell_below hB1 hy0, cell_below hB1 hy1, cell_below hB1 ha0, cell_below hB1 ha1, cell_below hB1 hb0, cell_below hB1 hb1, hB1⟩
        clear hK K
        (try simp only [Act.put, List.setIfInBounds_toArray, List.set_cons_zero, List.set_cons_succ])
        refine wpAnyH_ready (rs := [5]) (by kernel_rfl) (by simp) ?_
        refine AllReadyH.cons (o := ({ dst := some 34, op := Op.call { callee := Callee.value (Operand.func 14), args := #[Operand.tmp 32, Operand.tmp 33], argTypes := #[25, 25] }, type := 29, pos := "law.go:166", after := #[{ on := 3, ground := Ground.data }, { on := 4, ground := Ground.data }, { on := 2, ground := Ground.chain }], guard := none } : Oper)) rfl (fun K hK => ?_) AllReadyH.nil
        go_simp
        go_at_call 14
        with_reducible refine (C2.out _).mono ?_
        rintro e yy2 ⟨rfl, hq2⟩
        have hB2 := below_step hB1 hq2
        have hL2 := below_step hL1 hq2
        clear hHeld
        first | (with_reducible refine hK.out _ _ ?_ (fun hHeld => ?_)) | (go_wp2_with fail; with_reducible refine hK.out _ _ ?_ (fun hHeld => ?_))
        · with_reducible exact ⟨cell_below hB2 hx0, cell_below hB2 hx1, cell_below hB2 hy0, cell_below hB2 hy1, cell_below hB2 ha0, cell_below hB2 ha1, cell_below hB2 hb0, cell_below hB2 hb1, hB2⟩
        clear hK K
        (try simp only [Act.put, List.setIfInBounds_toArray, List.set_cons_zero, List.set_cons_succ])
        refine wpAnyH_ready (rs := [8]) (by kernel_rfl) (by simp) ?_
        refine AllReadyH.cons (o := ({ dst := some 37, op := Op.call { callee := Callee.value (Operand.func 12), args := #[Operand.tmp 35, Operand.tmp 36], argTypes := #[25, 25] }, type := 29, pos := "law.go:166", after := #[{ on := 6, ground := Ground.data }, { on := 7, ground := Ground.data }, { on := 5, ground := Ground.chain }], guard := none } : Oper)) rfl (fun K hK => ?_) AllReadyH.nil
        go_simp
        go_at_call 12
        with_reducible refine (C3.out _).mono ?_
        rintro e yy3 ⟨rfl, hq3⟩
        have hB3 := below_step hB2 hq3
        have hL3 := below_step hL2 hq3
        clear hHeld
        first | (with_reducible refine hK.out _ _ ?_ (fun hHeld => ?_)) | (go_wp2_with fail; with_reducible refine hK.out _ _ ?_ (fun hHeld => ?_))
        · with_reducible exact ⟨cell_below hB3 hx0, cell_below hB3 hx1, cell_below hB3 hy0, cell_below hB3 hy1, cell_below hB3 ha0, cell_below hB3 ha1, cell_below hB3 hb0, cell_below hB3 hb1, hB3⟩
        clear hK K
        (try simp only [Act.put, List.setIfInBounds_toArray, List.set_cons_zero, List.set_cons_succ])
        refine wpAnyH_ready (rs := [11]) (by kernel_rfl) (by simp) ?_
        refine AllReadyH.cons (o := ({ dst := some 40, op := Op.call { callee := Callee.value (Operand.func 15), args := #[Operand.tmp 38, Operand.tmp 39], argTypes := #[25, 25] }, type := 29, pos := "law.go:166", after := #[{ on := 9, ground := Ground.data }, { on := 10, ground := Ground.data }, { on := 8, ground := Ground.chain }], guard := none } : Oper)) rfl (fun K hK => ?_) AllReadyH.nil
        go_simp
        go_at_call 15
        with_reducible refine (C4.out _).mono ?_
        rintro e yy4 ⟨rfl, hq4⟩
        have hB4 := below_step hB3 hq4
        have hL4 := below_step hL3 hq4
        clear hHeld
        first | (with_reducible refine hK.out _ _ ?_ (fun hHeld => ?_)) | (go_wp2_with fail; with_reducible refine hK.out _ _ ?_ (fun hHeld => ?_))
        · with_reducible exact ⟨cell_below hB4 hx0, cell_below hB4 hx1, cell_below hB4 hy0, cell_below hB4 hy1, cell_below hB4 ha0, cell_below hB4 ha1, cell_below hB4 hb0, cell_below hB4 hb1, hB4⟩
        clear hK K
        (try simp only [Act.put, List.setIfInBounds_toArray, List.set_cons_zero, List.set_cons_succ])
        refine wpAnyH_ready (rs := [16]) (by kernel_rfl) (by simp) ?_
        refine AllReadyH.cons (o := ({ dst := some 45, op := Op.call { callee := Callee.value (Operand.func 19), args := #[Operand.tmp 42, Operand.tmp 44], argTypes := #[3, 3] }, type := 29, pos := "law.go:166", after := #[{ on := 13, ground := Ground.data }, { on := 15, ground := Ground.data }, { on := 11, ground := Ground.chain }], guard := none } : Oper)) rfl (fun K hK => ?_) AllReadyH.nil
        go_simp
        go_at_call 19
        with_reducible refine (C5.out _).mono ?_
        rintro e yy5 ⟨rfl, hq5⟩
        have hB5 := below_step hB4 hq5
        have hL5 := below_step hL4 hq5
        clear hHeld
        first | (with_reducible refine hK.out _ _ ?_ (fun hHeld => ?_)) | (go_wp2_with fail; with_reducible refine hK.out _ _ ?_ (fun hHeld => ?_))
        · with_reducible exact ⟨cell_below hB5 hx0, cell_below hB5 hx1, cell_below hB5 hy0, cell_below hB5 hy1, cell_below hB5 ha0, cell_below hB5 ha1, cell_below hB5 hb0, cell_below hB5 hb1, hB5⟩
        clear hK K
        (try simp only [Act.put, List.setIfInBounds_toArray, List.set_cons_zero, List.set_cons_succ])
        refine wpAnyH_ready (rs := [19]) (by kernel_rfl) (by simp) ?_
        refine AllReadyH.cons (o := ({ dst := some 48, op := Op.call { callee := Callee.value (Operand.func 17), args := #[Operand.tmp 46, Operand.tmp 47], argTypes := #[25, 25] }, type := 25, pos := "law.go:166", after := #[{ on := 17, ground := Ground.data }, { on := 18, ground := Ground.data }, { on := 16, ground := Ground.chain }], guard := none } : Oper)) rfl (fun K hK => ?_) AllReadyH.nil
        go_simp
        go_at_call 17
        with_reducible refine (C6.out _).mono ?_
        rintro e yy6 ⟨rfl, hq6⟩
        have hB6 := below_step hB5 hq6
        have hL6 := below_step hL5 hq6
        clear hHeld
        first | (with_reducible refine hK.out _ _ ?_ (fun hHeld => ?_)) | (go_wp2_with fail; with_reducible refine hK.out _ _ ?_ (fun hHeld => ?_))
        · with_reducible exact ⟨cell_below hB6 hx0, cell_below hB6 hx1, cell_below hB6 hy0, cell_below hB6 hy1, cell_below hB6 ha0, cell_below hB6 ha1, cell_below hB6 hb0, cell_below hB6 hb1, hB6⟩
        clear hK K
        (try simp only [Act.put, List.setIfInBounds_toArray, List.set_cons_zero, List.set_cons_succ])
        refine wpAnyH_take (i := 20) (oi := ({ dst := some 49, op := Op.build 29 #[(0, Operand.tmp 48)], type := 29, pos := "law.go:166", after := #[{ on := 19, ground := Ground.data }], guard := none } : Oper)) (v := ?_) rfl (by kernel_rfl) (by kernel_rfl) (by kernel_rfl) (fun _ _ _ h => h) (Or.inl ⟨by rfl, ?_⟩) (by assumption) ?_
        rotate_left
        · intro w hSw; (try dsimp only at hSw); go_simp <;> with_reducible rfl
        (try simp only [Act.put, List.setIfInBounds_toArray, List.set_cons_zero, List.set_cons_succ])
        refine wpAnyH_ready (rs := [25]) (by kernel_rfl) (by simp) ?_
        refine AllReadyH.cons (o := ({ dst := some 54, op := Op.call { callee := Callee.value (Operand.func 20), args := #[Operand.tmp 53], argTypes := #[36] }, type := 29, pos := "law.go:166", after := #[{ on := 24, ground := Ground.data }, { on := 19, ground := Ground.chain }], guard := none } : Oper)) rfl (fun K hK => ?_) AllReadyH.nil
        go_simp
        go_at_call 20
        with_reducible refine (C7.out _ _ (FracsAt.below FL hL6)).mono ?_
        rintro e yy7 ⟨rfl, hq7⟩
        have hB7 := below_step hB6 hq7
        have hL7 := below_step hL6 hq7
        clear hHeld
        first | (with_reducible refine hK.out _ _ ?_ (fun hHeld => ?_)) | (go_wp2_with fail; with_reducible refine hK.out _ _ ?_ (fun hHeld => ?_))
        · with_reducible exact ⟨cell_below hB7 hx0, cell_below hB7 hx1, cell_below hB7 hy0, cell_below hB7 hy1, cell_below hB7 ha0, cell_below hB7 ha1, cell_below hB7 hb0, cell_below hB7 hb1, hB7⟩
        clear hK K
        (try simp only [Act.put, List.setIfInBounds_toArray, List.set_cons_zero, List.set_cons_succ])
        refine wpAnyH_ready (rs := [26]) (by kernel_rfl) (by simp) ?_
        refine AllReadyH.cons (o := ({ dst := some 55, op := Op.buildSlice 37 7 #[(0, Operand.tmp 31), (1, Operand.tmp 34), (2, Operand.tmp 37), (3, Operand.tmp 40), (4, Operand.tmp 45), (5, Operand.tmp 49), (6, Operand.tmp 54)], type := 37, pos := "law.go:166", after := #[{ on := 2, ground := Ground.data }, { on := 5, ground := Ground.data }, { on := 8, ground := Ground.data }, { on := 11, ground := Ground.data }, { on := 16, ground := Ground.data }, { on := 20, ground := Ground.data }, { on := 25, ground := Ground.data }], guard := none } : Oper)) rfl (fun K hK => ?_) AllReadyH.nil
        go_simp
        generalize hw : yy7.alloc (.cells #[.int .i64 r1N, .int .i64 r1D, .int .i64 r1E, .int .i64 r2N, .int .i64 r2D, .int .i64 r2E, .int .i64 r3N, .int .i64 r3D, .int .i64 r3E, .int .i64 r4N, .int .i64 r4D, .int .i64 r4E, .int .i64 r5N, .int .i64 r5D, .int .i64 r5E, .int .i64 r6N, .int .i64 r6D, .int .i64 0, .int .i64 r7N, .int .i64 r7D, .int .i64 r7E] 29) = yy8
        have hq8 : Below yy7.heap.size yy7 yy8 := by rw [← hw]; exact ((Below.refl _ _).alloc (by first | exact Nat.le_refl _ | (simp; done) | (simp; omega) | omega | (simp [World.drewN]; omega)) _)
        have RR : ∀ i, i < 7 → yy8.cell? ⟨yy7.heap.size, i * 3, none⟩ = some (.int .i64 ([(r1N, r1D, r1E), (r2N, r2D, r2E), (r3N, r3D, r3E), (r4N, r4D, r4E), (r5N, r5D, r5E), (r6N, r6D, 0), (r7N, r7D, r7E)].getD i (0, 0, 0)).1) ∧ yy8.cell? ⟨yy7.heap.size, i * 3 + 1, none⟩ = some (.int .i64 ([(r1N, r1D, r1E), (r2N, r2D, r2E), (r3N, r3D, r3E), (r4N, r4D, r4E), (r5N, r5D, r5E), (r6N, r6D, 0), (r7N, r7D, r7E)].getD i (0, 0, 0)).2.1) ∧ yy8.cell? ⟨yy7.heap.size, i * 3 + 2, none⟩ = some (.int .i64 ([(r1N, r1D, r1E), (r2N, r2D, r2E), (r3N, r3D, r3E), (r4N, r4D, r4E), (r5N, r5D, r5E), (r6N, r6D, 0), (r7N, r7D, r7E)].getD i (0, 0, 0)).2.2) := by
          rw [← hw]
          intro i hi
          match i, hi with
          | 0, _ => exact ⟨by simp [go_sem], by simp [go_sem], by simp [go_sem]⟩
          | 1, _ => exact ⟨by simp [go_sem], by simp [go_sem], by simp [go_sem]⟩
          | 2, _ => exact ⟨by simp [go_sem], by simp [go_sem], by simp [go_sem]⟩
          | 3, _ => exact ⟨by simp [go_sem], by simp [go_sem], by simp [go_sem]⟩
          | 4, _ => exact ⟨by simp [go_sem], by simp [go_sem], by simp [go_sem]⟩
          | 5, _ => exact ⟨by simp [go_sem], by simp [go_sem], by simp [go_sem]⟩
          | 6, _ => exact ⟨by simp [go_sem], by simp [go_sem], by simp [go_sem]⟩
        have hB8 := below_step hB7 hq8
        clear hw
        clear hHeld
        first | (with_reducible refine hK.out _ _ ?_ (fun hHeld => ?_)) | (go_wp2_with fail; with_reducible refine hK.out _ _ ?_ (fun hHeld => ?_))
        · with_reducible exact ⟨cell_below hB8 hx0, cell_below hB8 hx1, cell_below hB8 hy0, cell_below hB8 hy1, cell_below hB8 ha0, cell_below hB8 ha1, cell_below hB8 hb0, cell_below hB8 hb1, hB8⟩
        clear hK K
        (try simp only [Act.put, List.setIfInBounds_toArray, List.set_cons_zero, List.set_cons_succ])
        refine wpAnyH_take (i := 27) (oi := ({ dst := some 10, op := Op.assign (Operand.tmp 55), type := 37, pos := "law.go:166", after := #[{ on := 26, ground := Ground.data }, { on := 25, ground := Ground.chain }, { on := 0, ground := Ground.phase }, { on := 1, ground := Ground.phase }, { on := 2, ground := Ground.phase }, { on := 3, ground := Ground.phase }, { on := 4, ground := Ground.phase }, { on := 5, ground := Ground.phase }, { on := 6, ground := Ground.phase }, { on := 7, ground := Ground.phase }, { on := 8, ground := Ground.phase }, { on := 9, ground := Ground.phase }, { on := 10, ground := Ground.phase }, { on := 11, ground := Ground.phase }, { on := 12, ground := Ground.phase }, { on := 13, ground := Ground.phase }, { on := 14, ground := Ground.phase }, { on := 15, ground := Ground.phase }, { on := 16, ground := Ground.phase }, { on := 17, ground := Ground.phase }, { on := 18, ground := Ground.phase }, { on := 19, ground := Ground.phase }, { on := 20, ground := Ground.phase }, { on := 21, ground := Ground.phase }, { on := 22, ground := Ground.phase }, { on := 23, ground := Ground.phase }, { on := 24, ground := Ground.phase }, { on := 25, ground := Ground.phase }, { on := 26, ground := Ground.phase }], guard := none } : Oper)) (v := ?_) rfl (by kernel_rfl) (by kernel_rfl) (by kernel_rfl) (fun _ _ _ h => h) (Or.inl ⟨by rfl, ?_⟩) (by assumption) ?_
        rotate_left
        · intro w hSw; (try dsimp only at hSw); go_simp <;> with_reducible rfl
        (try simp only [Act.put, List.setIfInBounds_toArray, List.set_cons_zero, List.set_cons_succ])
        refine wpAnyH_done (by kernel_rfl) ?_ _
        go_wp2_with fail
        go_meet
        exact alls_is yy7.heap.size (G1.out) (G2.out) (G3.out) (G4.out) (G5.out) (G6.out) (G7.out) RR hB8
    · skip
      go_simp
      generalize hw : (wA.alloc (.cells #[.int .i64 bN, .int .i64 bD, .int .i64 aN, .int .i64 aD, .int .i64 bN, .int .i64 bD] 25)).drew = yy0
      have hq0 : Below wA.heap.size wA yy0 := by rw [← hw]; exact ((Below.refl _ _).alloc (by first | exact Nat.le_refl _ | (simp; done) | (simp; omega) | omega | (simp [World.drewN]; omega)) _).drew
      have FL := fracs3 (W := yy0) (m := wA.heap.size) (a := bN) (b := bD) (c := aN) (d := aD) (e := bN) (f := bD) (by rw [← hw]; simp [go_sem]) (by rw [← hw]; simp [go_sem]) (by rw [← hw]; simp [go_sem]) (by rw [← hw]; simp [go_sem]) (by rw [← hw]; simp [go_sem]) (by rw [← hw]; simp [go_sem])
      have hL0 := Below.refl yy0.heap.size yy0
      have hB0 := hq0
      clear hw
      clear hHeld
      first | (with_reducible refine hK.out _ _ ?_ (fun hHeld => ?_)) | (go_wp2_with fail; with_reducible refine hK.out _ _ ?_ (fun hHeld => ?_))
      · with_reducible exact ⟨cell_below hB0 hx0, cell_below hB0 hx1, cell_below hB0 hy0, cell_below hB0 hy1, cell_below hB0 ha0, cell_below hB0 ha1, cell_below hB0 hb0, cell_below hB0 hb1, hB0⟩
      clear hK K
      (try simp only [Act.put, List.setIfInBounds_toArray, List.set_cons_zero, List.set_cons_succ])
      refine wpAnyH_ready (rs := [2]) (by kernel_rfl) (by simp) ?_
      refine AllReadyH.cons (o := ({ dst := some 31, op := Op.call { callee := Callee.value (Operand.func 11), args := #[Operand.tmp 29, Operand.tmp 30], argTypes := #[25, 25] }, type := 29, pos := "law.go:166", after := #[{ on := 0, ground := Ground.data }, { on := 1, ground := Ground.data }], guard := none } : Oper)) rfl (fun K hK => ?_) AllReadyH.nil
      go_simp
      go_at_call 11
      with_reducible refine (C1.out _).mono ?_
      rintro e yy1 ⟨rfl, hq1⟩
      have hB1 := below_step hB0 hq1
      have hL1 := below_step hL0 hq1
      clear hHeld
      first | (with_reducible refine hK.out _ _ ?_ (fun hHeld => ?_)) | (go_wp2_with fail; with_reducible refine hK.out _ _ ?_ (fun hHeld => ?_))
      · with_reducible exact ⟨cell_below hB1 hx0, cell_below hB1 hx1, cell_below hB1 hy0, cell_below hB1 hy1, cell_below hB1 ha0, cell_below hB1 ha1, cell_below hB1 hb0, cell_below hB1 hb1, hB1⟩
      clear hK K
      (try simp only [Act.put, List.setIfInBounds_toArray, List.set_cons_zero, List.set_cons_succ])
      refine wpAnyH_ready (rs := [5]) (by kernel_rfl) (by simp) ?_
      refine AllReadyH.cons (o := ({ dst := some 34, op := Op.call { callee := Callee.value (Operand.func 14), args := #[Operand.tmp 32, Operand.tmp 33], argTypes := #[25, 25] }, type := 29, pos := "law.go:166", after := #[{ on := 3, ground := Ground.data }, { on := 4, ground := Ground.data }, { on := 2, ground := Ground.chain }], guard := none } : Oper)) rfl (fun K hK => ?_) AllReadyH.nil
      go_simp
      go_at_call 14
      with_reducible refine (C2.out _).mono ?_
      rintro e yy2 ⟨rfl, hq2⟩
      have hB2 := below_step hB1 hq2
      have hL2 := below_step hL1 hq2
      clear hHeld
      first | (with_reducible refine hK.out _ _ ?_ (fun hHeld => ?_)) | (go_wp2_with fail; with_reducible refine hK.out _ _ ?_ (fun hHeld => ?_))
      · with_reducible exact ⟨cell_below hB2 hx0, cell_below hB2 hx1, cell_below hB2 hy0, cell_below hB2 hy1, cell_below hB2 ha0, cell_below hB2 ha1, cell_below hB2 hb0, cell_below hB2 hb1, hB2⟩
      clear hK K
      (try simp only [Act.put, List.setIfInBounds_toArray, List.set_cons_zero, List.set_cons_succ])
      refine wpAnyH_ready (rs := [8]) (by kernel_rfl) (by simp) ?_
      refine AllReadyH.cons (o := ({ dst := some 37, op := Op.call { callee := Callee.value (Operand.func 12), args := #[Operand.tmp 35, Operand.tmp 36], argTypes := #[25, 25] }, type := 29, pos := "law.go:166", after := #[{ on := 6, ground := Ground.data }, { on := 7, ground := Ground.data }, { on := 5, ground := Ground.chain }], guard := none } : Oper)) rfl (fun K hK => ?_) AllReadyH.nil
      go_simp
      go_at_call 12
      with_reducible refine (C3.out _).mono ?_
      rintro e yy3 ⟨rfl, hq3⟩
      have hB3 := below_step hB2 hq3
      have hL3 := below_step hL2 hq3
      clear hHeld
      first | (with_reducible refine hK.out _ _ ?_ (fun hHeld => ?_)) | (go_wp2_with fail; with_reducible refine hK.out _ _ ?_ (fun hHeld => ?_))
      · with_reducible exact ⟨cell_below hB3 hx0, cell_below hB3 hx1, cell_below hB3 hy0, cell_below hB3 hy1, cell_below hB3 ha0, cell_below hB3 ha1, cell_below hB3 hb0, cell_below hB3 hb1, hB3⟩
      clear hK K
      (try simp only [Act.put, List.setIfInBounds_toArray, List.set_cons_zero, List.set_cons_succ])
      refine wpAnyH_ready (rs := [11]) (by kernel_rfl) (by simp) ?_
      refine AllReadyH.cons (o := ({ dst := some 40, op := Op.call { callee := Callee.value (Operand.func 15), args := #[Operand.tmp 38, Operand.tmp 39], argTypes := #[25, 25] }, type := 29, pos := "law.go:166", after := #[{ on := 9, ground := Ground.data }, { on := 10, ground := Ground.data }, { on := 8, ground := Ground.chain }], guard := none } : Oper)) rfl (fun K hK => ?_) AllReadyH.nil
      go_simp
      go_at_call 15
      with_reducible refine (C4.out _).mono ?_
      rintro e yy4 ⟨rfl, hq4⟩
      have hB4 := below_step hB3 hq4
      have hL4 := below_step hL3 hq4
      clear hHeld
      first | (with_reducible refine hK.out _ _ ?_ (fun hHeld => ?_)) | (go_wp2_with fail; with_reducible refine hK.out _ _ ?_ (fun hHeld => ?_))
      · with_reducible exact ⟨cell_below hB4 hx0, cell_below hB4 hx1, cell_below hB4 hy0, cell_below hB4 hy1, cell_below hB4 ha0, cell_below hB4 ha1, cell_below hB4 hb0, cell_below hB4 hb1, hB4⟩
      clear hK K
      (try simp only [Act.put, List.setIfInBounds_toArray, List.set_cons_zero, List.set_cons_succ])
      refine wpAnyH_ready (rs := [16]) (by kernel_rfl) (by simp) ?_
      refine AllReadyH.cons (o := ({ dst := some 45, op := Op.call { callee := Callee.value (Operand.func 19), args := #[Operand.tmp 42, Operand.tmp 44], argTypes := #[3, 3] }, type := 29, pos := "law.go:166", after := #[{ on := 13, ground := Ground.data }, { on := 15, ground := Ground.data }, { on := 11, ground := Ground.chain }], guard := none } : Oper)) rfl (fun K hK => ?_) AllReadyH.nil
      go_simp
      go_at_call 19
      with_reducible refine (C5.out _).mono ?_
      rintro e yy5 ⟨rfl, hq5⟩
      have hB5 := below_step hB4 hq5
      have hL5 := below_step hL4 hq5
      clear hHeld
      first | (with_reducible refine hK.out _ _ ?_ (fun hHeld => ?_)) | (go_wp2_with fail; with_reducible refine hK.out _ _ ?_ (fun hHeld => ?_))
      · with_reducible exact ⟨cell_below hB5 hx0, cell_below hB5 hx1, cell_below hB5 hy0, cell_below hB5 hy1, cell_below hB5 ha0, cell_below hB5 ha1, cell_below hB5 hb0, cell_below hB5 hb1, hB5⟩
      clear hK K
      (try simp only [Act.put, List.setIfInBounds_toArray, List.set_cons_zero, List.set_cons_succ])
      refine wpAnyH_ready (rs := [19]) (by kernel_rfl) (by simp) ?_
      refine AllReadyH.cons (o := ({ dst := some 48, op := Op.call { callee := Callee.value (Operand.func 17), args := #[Operand.tmp 46, Operand.tmp 47], argTypes := #[25, 25] }, type := 25, pos := "law.go:166", after := #[{ on := 17, ground := Ground.data }, { on := 18, ground := Ground.data }, { on := 16, ground := Ground.chain }], guard := none } : Oper)) rfl (fun K hK => ?_) AllReadyH.nil
      go_simp
      go_at_call 17
      with_reducible refine (C6.out _).mono ?_
      rintro e yy6 ⟨rfl, hq6⟩
      have hB6 := below_step hB5 hq6
      have hL6 := below_step hL5 hq6
      clear hHeld
      first | (with_reducible refine hK.out _ _ ?_ (fun hHeld => ?_)) | (go_wp2_with fail; with_reducible refine hK.out _ _ ?_ (fun hHeld => ?_))
      · with_reducible exact ⟨cell_below hB6 hx0, cell_below hB6 hx1, cell_below hB6 hy0, cell_below hB6 hy1, cell_below hB6 ha0, cell_below hB6 ha1, cell_below hB6 hb0, cell_below hB6 hb1, hB6⟩
      clear hK K
      (try simp only [Act.put, List.setIfInBounds_toArray, List.set_cons_zero, List.set_cons_succ])
      refine wpAnyH_take (i := 20) (oi := ({ dst := some 49, op := Op.build 29 #[(0, Operand.tmp 48)], type := 29, pos := "law.go:166", after := #[{ on := 19, ground := Ground.data }], guard := none } : Oper)) (v := ?_) rfl (by kernel_rfl) (by kernel_rfl) (by kernel_rfl) (fun _ _ _ h => h) (Or.inl ⟨by rfl, ?_⟩) (by assumption) ?_
      rotate_left
      · intro w hSw; (try dsimp only at hSw); go_simp <;> with_reducible rfl
      (try simp only [Act.put, List.setIfInBounds_toArray, List.set_cons_zero, List.set_cons_succ])
      refine wpAnyH_ready (rs := [25]) (by kernel_rfl) (by simp) ?_
      refine AllReadyH.cons (o := ({ dst := some 54, op := Op.call { callee := Callee.value (Operand.func 20), args := #[Operand.tmp 53], argTypes := #[36] }, type := 29, pos := "law.go:166", after := #[{ on := 24, ground := Ground.data }, { on := 19, ground := Ground.chain }], guard := none } : Oper)) rfl (fun K hK => ?_) AllReadyH.nil
      go_simp
      go_at_call 20
      with_reducible refine (C7.out _ _ (FracsAt.below FL hL6)).mono ?_
      rintro e yy7 ⟨rfl, hq7⟩
      have hB7 := below_step hB6 hq7
      have hL7 := below_step hL6 hq7
      clear hHeld
      first | (with_reducible refine hK.out _ _ ?_ (fun hHeld => ?_)) | (go_wp2_with fail; with_reducible refine hK.out _ _ ?_ (fun hHeld => ?_))
      · with_reducible exact ⟨cell_below hB7 hx0, cell_below hB7 hx1, cell_below hB7 hy0, cell_below hB7 hy1, cell_below hB7 ha0, cell_below hB7 ha1, cell_below hB7 hb0, cell_below hB7 hb1, hB7⟩
      clear hK K
      (try simp only [Act.put, List.setIfInBounds_toArray, List.set_cons_zero, List.set_cons_succ])
      refine wpAnyH_ready (rs := [26]) (by kernel_rfl) (by simp) ?_
      refine AllReadyH.cons (o := ({ dst := some 55, op := Op.buildSlice 37 7 #[(0, Operand.tmp 31), (1, Operand.tmp 34), (2, Operand.tmp 37), (3, Operand.tmp 40), (4, Operand.tmp 45), (5, Operand.tmp 49), (6, Operand.tmp 54)], type := 37, pos := "law.go:166", after := #[{ on := 2, ground := Ground.data }, { on := 5, ground := Ground.data }, { on := 8, ground := Ground.data }, { on := 11, ground := Ground.data }, { on := 16, ground := Ground.data }, { on := 20, ground := Ground.data }, { on := 25, ground := Ground.data }], guard := none } : Oper)) rfl (fun K hK => ?_) AllReadyH.nil
      go_simp
      generalize hw : yy7.alloc (.cells #[.int .i64 r1N, .int .i64 r1D, .int .i64 r1E, .int .i64 r2N, .int .i64 r2D, .int .i64 r2E, .int .i64 r3N, .int .i64 r3D, .int .i64 r3E, .int .i64 r4N, .int .i64 r4D, .int .i64 r4E, .int .i64 r5N, .int .i64 r5D, .int .i64 r5E, .int .i64 r6N, .int .i64 r6D, .int .i64 0, .int .i64 r7N, .int .i64 r7D, .int .i64 r7E] 29) = yy8
      have hq8 : Below yy7.heap.size yy7 yy8 := by rw [← hw]; exact ((Below.refl _ _).alloc (by first | exact Nat.le_refl _ | (simp; done) | (simp; omega) | omega | (simp [World.drewN]; omega)) _)
      have RR : ∀ i, i < 7 → yy8.cell? ⟨yy7.heap.size, i * 3, none⟩ = some (.int .i64 ([(r1N, r1D, r1E), (r2N, r2D, r2E), (r3N, r3D, r3E), (r4N, r4D, r4E), (r5N, r5D, r5E), (r6N, r6D, 0), (r7N, r7D, r7E)].getD i (0, 0, 0)).1) ∧ yy8.cell? ⟨yy7.heap.size, i * 3 + 1, none⟩ = some (.int .i64 ([(r1N, r1D, r1E), (r2N, r2D, r2E), (r3N, r3D, r3E), (r4N, r4D, r4E), (r5N, r5D, r5E), (r6N, r6D, 0), (r7N, r7D, r7E)].getD i (0, 0, 0)).2.1) ∧ yy8.cell? ⟨yy7.heap.size, i * 3 + 2, none⟩ = some (.int .i64 ([(r1N, r1D, r1E), (r2N, r2D, r2E), (r3N, r3D, r3E), (r4N, r4D, r4E), (r5N, r5D, r5E), (r6N, r6D, 0), (r7N, r7D, r7E)].getD i (0, 0, 0)).2.2) := by
        rw [← hw]
        intro i hi
        match i, hi with
        | 0, _ => exact ⟨by simp [go_sem], by simp [go_sem], by simp [go_sem]⟩
        | 1, _ => exact ⟨by simp [go_sem], by simp [go_sem], by simp [go_sem]⟩
        | 2, _ => exact ⟨by simp [go_sem], by simp [go_sem], by simp [go_sem]⟩
        | 3, _ => exact ⟨by simp [go_sem], by simp [go_sem], by simp [go_sem]⟩
        | 4, _ => exact ⟨by simp [go_sem], by simp [go_sem], by simp [go_sem]⟩
        | 5, _ => exact ⟨by simp [go_sem], by simp [go_sem], by simp [go_sem]⟩
        | 6, _ => exact ⟨by simp [go_sem], by simp [go_sem], by simp [go_sem]⟩
      have hB8 := below_step hB7 hq8
      clear hw
      clear hHeld
      first | (with_reducible refine hK.out _ _ ?_ (fun hHeld => ?_)) | (go_wp2_with fail; with_reducible refine hK.out _ _ ?_ (fun hHeld => ?_))
      · with_reducible exact ⟨cell_below hB8 hx0, cell_below hB8 hx1, cell_below hB8 hy0, cell_below hB8 hy1, cell_below hB8 ha0, cell_below hB8 ha1, cell_below hB8 hb0, cell_below hB8 hb1, hB8⟩
      clear hK K
      (try simp only [Act.put, List.setIfInBounds_toArray, List.set_cons_zero, List.set_cons_succ])
      refine wpAnyH_take (i := 27) (oi := ({ dst := some 10, op := Op.assign (Operand.tmp 55), type := 37, pos := "law.go:166", after := #[{ on := 26, ground := Ground.data }, { on := 25, ground := Ground.chain }, { on := 0, ground := Ground.phase }, { on := 1, ground := Ground.phase }, { on := 2, ground := Ground.phase }, { on := 3, ground := Ground.phase }, { on := 4, ground := Ground.phase }, { on := 5, ground := Ground.phase }, { on := 6, ground := Ground.phase }, { on := 7, ground := Ground.phase }, { on := 8, ground := Ground.phase }, { on := 9, ground := Ground.phase }, { on := 10, ground := Ground.phase }, { on := 11, ground := Ground.phase }, { on := 12, ground := Ground.phase }, { on := 13, ground := Ground.phase }, { on := 14, ground := Ground.phase }, { on := 15, ground := Ground.phase }, { on := 16, ground := Ground.phase }, { on := 17, ground := Ground.phase }, { on := 18, ground := Ground.phase }, { on := 19, ground := Ground.phase }, { on := 20, ground := Ground.phase }, { on := 21, ground := Ground.phase }, { on := 22, ground := Ground.phase }, { on := 23, ground := Ground.phase }, { on := 24, ground := Ground.phase }, { on := 25, ground := Ground.phase }, { on := 26, ground := Ground.phase }], guard := none } : Oper)) (v := ?_) rfl (by kernel_rfl) (by kernel_rfl) (by kernel_rfl) (fun _ _ _ h => h) (Or.inl ⟨by rfl, ?_⟩) (by assumption) ?_
      rotate_left
      · intro w hSw; (try dsimp only at hSw); go_simp <;> with_reducible rfl
      (try simp only [Act.put, List.setIfInBounds_toArray, List.set_cons_zero, List.set_cons_succ])
      refine wpAnyH_done (by kernel_rfl) ?_ _
      go_wp2_with fail
      go_meet
      exact alls_is yy7.heap.size (G1.out) (G2.out) (G3.out) (G4.out) (G5.out) (G6.out) (G7.out) RR hB8
  case rest =>
  obtain ⟨m, R, hRl, rfl, hG, hC, hB⟩ := hcut
  obtain ⟨wB, rfl⟩ : ∃ wB : World, wB = wc := ⟨_, rfl⟩
  clear hx0 hx1 hy0 hy1 ha0 ha1 hb0 hb1 hz
  have GR := hid hG
  have CR := hid hC
  have RLen := hid hRl
  have BB := hid hB
  have TB := hid (below_step BA.out hB)
  clear hG hC hRl hB G1 G2 G3 G4 G5 G6 G7 C1 C2 C3 C4 C5 C6 C7
  go_wp2_with fail
  go_loopw [11] (fun i wr => ∃ k : Nat, k ≤ 7 ∧ i = .int .i64 k ∧ Below wB.heap.size wB wr) (fun i _ => 7 - (intOf i).toNat)
  case atStart => exact ⟨0, by omega, rfl, Below.refl _ _⟩
  case round =>
    obtain ⟨k, hk, rfl, hb⟩ := hrel
    by_cases hlt : k < 7
    · have q := CR.out k hlt
      have gd := GR.out (R.getD k (0, 0, 0)) (by rw [List.getD_eq_getElem?_getD, List.getElem?_eq_getElem (by rw [RLen.out]; exact hlt)]; exact List.getElem_mem _)
      generalize (R.getD k (0, 0, 0)).1 = N at *
      generalize (R.getD k (0, 0, 0)).2.1 = D at *
      generalize (R.getD k (0, 0, 0)).2.2 = E at *
      have hr0 := cell_below hb q.1
      have hr1 := cell_below hb q.2.1
      have hr2 := cell_below hb q.2.2
      have BK := hid hb
      have hsd := (Below.refl wr.heap.size wr).drew
      clear q hb
      by_cases hE : E = 0
      · have e0 : (E == 0) = true := by rw [hE]; rfl
        have e1 : (E != 0) = false := by rw [hE]; rfl
        have VC := hid (fun w => by have h := valid_any (N) (D) gd.n gd.d w; rw [gd.v, e0] at h; exact h)
        clear gd hE
        go_wp2_with fail
        refine wp_region_held_drew (S := (fun V => V.cell? ⟨m, k * 3, none⟩ = some (.int .i64 (N)) ∧ V.cell? ⟨m, k * 3 + 1, none⟩ = some (.int .i64 (D)) ∧ V.cell? ⟨m, k * 3 + 2, none⟩ = some (.int .i64 E) ∧ Below wr.heap.size wr V)) (by kernel_rfl) ?_ (fun hHeld => ?_)
        · with_reducible exact ⟨cell_below hsd hr0, cell_below hsd hr1, cell_below hsd hr2, hsd⟩
        refine wpAnyH_take (i := 0) (oi := ({ dst := some 62, op := Op.move (Operand.tmp 10), type := 37, pos := "law.go:168", after := #[], guard := none } : Oper)) (v := ?_) rfl (by kernel_rfl) (by kernel_rfl) (by kernel_rfl) (fun _ _ _ h => h) (Or.inl ⟨by rfl, ?_⟩) (by assumption) ?_
        rotate_left
        · intro w hSw; (try dsimp only at hSw); go_simp <;> with_reducible rfl
        (try simp only [Act.put, List.setIfInBounds_toArray, List.set_cons_zero, List.set_cons_succ])
        refine wpAnyH_take (i := 1) (oi := ({ dst := some 63, op := Op.move (Operand.tmp 11), type := 3, pos := "law.go:168", after := #[], guard := none } : Oper)) (v := ?_) rfl (by kernel_rfl) (by kernel_rfl) (by kernel_rfl) (fun _ _ _ h => h) (Or.inl ⟨by rfl, ?_⟩) (by assumption) ?_
        rotate_left
        · intro w hSw; (try dsimp only at hSw); go_simp <;> with_reducible rfl
        (try simp only [Act.put, List.setIfInBounds_toArray, List.set_cons_zero, List.set_cons_succ])
        refine wpAnyH_take (i := 2) (oi := ({ dst := some 64, op := Op.indexAddr 37 (Operand.tmp 62) (Operand.tmp 63), type := 0, pos := "law.go:168", after := #[{ on := 0, ground := Ground.data }, { on := 1, ground := Ground.data }], guard := none } : Oper)) (v := ?_) rfl (by kernel_rfl) (by kernel_rfl) (by kernel_rfl) (fun _ _ _ h => h) (Or.inl ⟨by rfl, ?_⟩) (by assumption) ?_
        rotate_left
        · intro w hSw; (try dsimp only at hSw); go_simp <;> with_reducible rfl
        (try simp only [Act.put, List.setIfInBounds_toArray, List.set_cons_zero, List.set_cons_succ])
        refine wpAnyH_take (i := 3) (oi := ({ dst := some 65, op := Op.fieldAddr 29 (Operand.tmp 64) 0, type := 0, pos := "law.go:168", after := #[{ on := 2, ground := Ground.data }], guard := none } : Oper)) (v := ?_) rfl (by kernel_rfl) (by kernel_rfl) (by kernel_rfl) (fun _ _ _ h => h) (Or.inl ⟨by rfl, ?_⟩) (by assumption) ?_
        rotate_left
        · intro w hSw; (try dsimp only at hSw); go_simp <;> with_reducible rfl
        (try simp only [Act.put, List.setIfInBounds_toArray, List.set_cons_zero, List.set_cons_succ])
        refine wpAnyH_take (i := 4) (oi := ({ dst := some 66, op := Op.load 25 (Operand.tmp 65), type := 25, pos := "law.go:168", after := #[{ on := 3, ground := Ground.data }], guard := none } : Oper)) (v := ?_) rfl (by kernel_rfl) (by kernel_rfl) (by kernel_rfl) (fun _ _ _ h => h) (Or.inl ⟨by rfl, ?_⟩) (by assumption) ?_
        rotate_left
        · intro w hSw; (try dsimp only at hSw); go_simp <;> with_reducible rfl
        (try simp only [Act.put, List.setIfInBounds_toArray, List.set_cons_zero, List.set_cons_succ])
        refine wpAnyH_take (i := 6) (oi := ({ dst := some 68, op := Op.move (Operand.tmp 10), type := 37, pos := "law.go:168", after := #[], guard := none } : Oper)) (v := ?_) rfl (by kernel_rfl) (by kernel_rfl) (by kernel_rfl) (fun _ _ _ h => h) (Or.inl ⟨by rfl, ?_⟩) (by assumption) ?_
        rotate_left
        · intro w hSw; (try dsimp only at hSw); go_simp <;> with_reducible rfl
        (try simp only [Act.put, List.setIfInBounds_toArray, List.set_cons_zero, List.set_cons_succ])
        refine wpAnyH_take (i := 7) (oi := ({ dst := some 69, op := Op.move (Operand.tmp 11), type := 3, pos := "law.go:168", after := #[], guard := none } : Oper)) (v := ?_) rfl (by kernel_rfl) (by kernel_rfl) (by kernel_rfl) (fun _ _ _ h => h) (Or.inl ⟨by rfl, ?_⟩) (by assumption) ?_
        rotate_left
        · intro w hSw; (try dsimp only at hSw); go_simp <;> with_reducible rfl
        (try simp only [Act.put, List.setIfInBounds_toArray, List.set_cons_zero, List.set_cons_succ])
        refine wpAnyH_take (i := 8) (oi := ({ dst := some 70, op := Op.indexAddr 37 (Operand.tmp 68) (Operand.tmp 69), type := 0, pos := "law.go:168", after := #[{ on := 6, ground := Ground.data }, { on := 7, ground := Ground.data }], guard := none } : Oper)) (v := ?_) rfl (by kernel_rfl) (by kernel_rfl) (by kernel_rfl) (fun _ _ _ h => h) (Or.inl ⟨by rfl, ?_⟩) (by assumption) ?_
        rotate_left
        · intro w hSw; (try dsimp only at hSw); go_simp <;> with_reducible rfl
        (try simp only [Act.put, List.setIfInBounds_toArray, List.set_cons_zero, List.set_cons_succ])
        refine wpAnyH_take (i := 9) (oi := ({ dst := some 71, op := Op.fieldAddr 29 (Operand.tmp 70) 1, type := 0, pos := "law.go:168", after := #[{ on := 8, ground := Ground.data }], guard := none } : Oper)) (v := ?_) rfl (by kernel_rfl) (by kernel_rfl) (by kernel_rfl) (fun _ _ _ h => h) (Or.inl ⟨by rfl, ?_⟩) (by assumption) ?_
        rotate_left
        · intro w hSw; (try dsimp only at hSw); go_simp <;> with_reducible rfl
        (try simp only [Act.put, List.setIfInBounds_toArray, List.set_cons_zero, List.set_cons_succ])
        refine wpAnyH_take (i := 10) (oi := ({ dst := some 72, op := Op.load 27 (Operand.tmp 71), type := 27, pos := "law.go:168", after := #[{ on := 9, ground := Ground.data }], guard := none } : Oper)) (v := ?_) rfl (by kernel_rfl) (by kernel_rfl) (by kernel_rfl) (fun _ _ _ h => h) (Or.inl ⟨by rfl, ?_⟩) (by assumption) ?_
        rotate_left
        · intro w hSw; (try dsimp only at hSw); go_simp <;> with_reducible rfl
        (try simp only [Act.put, List.setIfInBounds_toArray, List.set_cons_zero, List.set_cons_succ])
        refine wpAnyH_take (i := 11) (oi := ({ dst := some 73, op := Op.binOp BinOp.eql 27 (Operand.tmp 72) (Operand.const (Value.int IntKind.i64 0)) 27, type := 4, pos := "law.go:168", after := #[{ on := 10, ground := Ground.data }], guard := none } : Oper)) (v := ?_) rfl (by kernel_rfl) (by kernel_rfl) (by kernel_rfl) (fun _ _ _ h => h) (Or.inl ⟨by rfl, ?_⟩) (by assumption) ?_
        rotate_left
        · intro w hSw; (try dsimp only at hSw); go_simp <;> with_reducible rfl
        (try simp only [Act.put, List.setIfInBounds_toArray, List.set_cons_zero, List.set_cons_succ])
        refine wpAnyH_ready (rs := [5]) (by kernel_rfl) (by simp) ?_
        refine AllReadyH.cons (o := ({ dst := some 67, op := Op.call { callee := Callee.value (Operand.func 21), args := #[Operand.tmp 66], argTypes := #[25] }, type := 4, pos := "law.go:168", after := #[{ on := 4, ground := Ground.data }], guard := none } : Oper)) rfl (fun K hK => ?_) ?_
        rotate_left
        · exact AllReadyH.nil
        go_simp
        go_at_call 21
        with_reducible refine (VC.out _).mono ?_
        rintro e y0 ⟨rfl, hq0⟩
        have hB0 := below_step hsd hq0
        clear hHeld
        first | (with_reducible refine hK.out _ _ ?_ (fun hHeld => ?_)) | (go_wp2_with fail; with_reducible refine hK.out _ _ ?_ (fun hHeld => ?_))
        · with_reducible exact ⟨cell_below hB0 hr0, cell_below hB0 hr1, cell_below hB0 hr2, hB0⟩
        clear hK K
        (try simp only [Act.put, List.setIfInBounds_toArray, List.set_cons_zero, List.set_cons_succ])
        refine wpAnyH_take (i := 12) (oi := ({ dst := some 74, op := Op.binOp BinOp.neq 4 (Operand.tmp 67) (Operand.tmp 73) 4, type := 4, pos := "law.go:168", after := #[{ on := 5, ground := Ground.data }, { on := 11, ground := Ground.data }], guard := none } : Oper)) (v := ?_) rfl (by kernel_rfl) (by kernel_rfl) (by kernel_rfl) (fun _ _ _ h => h) (Or.inl ⟨by rfl, ?_⟩) (by assumption) ?_
        rotate_left
        · intro w hSw; (try dsimp only at hSw); go_simp <;> with_reducible rfl
        (try simp only [Act.put, List.setIfInBounds_toArray, List.set_cons_zero, List.set_cons_succ])
        refine wpAnyH_take (i := 13) (oi := ({ dst := some 75, op := Op.move (Operand.tmp 74), type := 4, pos := "law.go:168", after := #[{ on := 12, ground := Ground.data }, { on := 5, ground := Ground.chain }], guard := none } : Oper)) (v := ?_) rfl (by kernel_rfl) (by kernel_rfl) (by kernel_rfl) (fun _ _ _ h => h) (Or.inl ⟨by rfl, ?_⟩) (by assumption) ?_
        rotate_left
        · intro w hSw; (try dsimp only at hSw); go_simp <;> with_reducible rfl
        (try simp only [Act.put, List.setIfInBounds_toArray, List.set_cons_zero, List.set_cons_succ])
        refine wpAnyH_take (i := 14) (oi := ({ dst := some 76, op := Op.move (Operand.tmp 10), type := 37, pos := "law.go:168", after := #[{ on := 13, ground := Ground.guard }], guard := some (13, false) } : Oper)) (v := ?_) rfl (by kernel_rfl) (by kernel_rfl) (by kernel_rfl) (fun _ _ _ h => h) (Or.inl ⟨by rfl, ?_⟩) (by assumption) ?_
        rotate_left
        · intro w hSw; (try dsimp only at hSw); go_simp <;> with_reducible rfl
        (try simp only [Act.put, List.setIfInBounds_toArray, List.set_cons_zero, List.set_cons_succ])
        refine wpAnyH_take (i := 15) (oi := ({ dst := some 77, op := Op.move (Operand.tmp 11), type := 3, pos := "law.go:168", after := #[{ on := 13, ground := Ground.guard }], guard := some (13, false) } : Oper)) (v := ?_) rfl (by kernel_rfl) (by kernel_rfl) (by kernel_rfl) (fun _ _ _ h => h) (Or.inl ⟨by rfl, ?_⟩) (by assumption) ?_
        rotate_left
        · intro w hSw; (try dsimp only at hSw); go_simp <;> with_reducible rfl
        (try simp only [Act.put, List.setIfInBounds_toArray, List.set_cons_zero, List.set_cons_succ])
        refine wpAnyH_take (i := 16) (oi := ({ dst := some 78, op := Op.indexAddr 37 (Operand.tmp 76) (Operand.tmp 77), type := 0, pos := "law.go:168", after := #[{ on := 14, ground := Ground.data }, { on := 15, ground := Ground.data }, { on := 13, ground := Ground.guard }], guard := some (13, false) } : Oper)) (v := ?_) rfl (by kernel_rfl) (by kernel_rfl) (by kernel_rfl) (fun _ _ _ h => h) (Or.inl ⟨by rfl, ?_⟩) (by assumption) ?_
        rotate_left
        · intro w hSw; (try dsimp only at hSw); go_simp <;> with_reducible rfl
        (try simp only [Act.put, List.setIfInBounds_toArray, List.set_cons_zero, List.set_cons_succ])
        refine wpAnyH_take (i := 17) (oi := ({ dst := some 79, op := Op.fieldAddr 29 (Operand.tmp 78) 1, type := 0, pos := "law.go:168", after := #[{ on := 16, ground := Ground.data }, { on := 13, ground := Ground.guard }], guard := some (13, false) } : Oper)) (v := ?_) rfl (by kernel_rfl) (by kernel_rfl) (by kernel_rfl) (fun _ _ _ h => h) (Or.inl ⟨by rfl, ?_⟩) (by assumption) ?_
        rotate_left
        · intro w hSw; (try dsimp only at hSw); go_simp <;> with_reducible rfl
        (try simp only [Act.put, List.setIfInBounds_toArray, List.set_cons_zero, List.set_cons_succ])
        refine wpAnyH_take (i := 18) (oi := ({ dst := some 80, op := Op.load 27 (Operand.tmp 79), type := 27, pos := "law.go:168", after := #[{ on := 17, ground := Ground.data }, { on := 13, ground := Ground.guard }], guard := some (13, false) } : Oper)) (v := ?_) rfl (by kernel_rfl) (by kernel_rfl) (by kernel_rfl) (fun _ _ _ h => h) (Or.inl ⟨by rfl, ?_⟩) (by assumption) ?_
        rotate_left
        · intro w hSw; (try dsimp only at hSw); go_simp <;> with_reducible rfl
        (try simp only [Act.put, List.setIfInBounds_toArray, List.set_cons_zero, List.set_cons_succ])
        refine wpAnyH_take (i := 19) (oi := ({ dst := some 81, op := Op.binOp BinOp.neq 27 (Operand.tmp 80) (Operand.const (Value.int IntKind.i64 0)) 27, type := 4, pos := "law.go:168", after := #[{ on := 18, ground := Ground.data }, { on := 13, ground := Ground.guard }], guard := some (13, false) } : Oper)) (v := ?_) rfl (by kernel_rfl) (by kernel_rfl) (by kernel_rfl) (fun _ _ _ h => h) (Or.inl ⟨by rfl, ?_⟩) (by assumption) ?_
        rotate_left
        · intro w hSw; (try dsimp only at hSw); go_simp <;> with_reducible rfl
        (try simp only [Act.put, List.setIfInBounds_toArray, List.set_cons_zero, List.set_cons_succ])
        refine wpAnyH_take (i := 20) (oi := ({ dst := some 82, op := Op.move (Operand.tmp 81), type := 4, pos := "law.go:168", after := #[{ on := 19, ground := Ground.data }, { on := 13, ground := Ground.chain }, { on := 13, ground := Ground.guard }], guard := some (13, false) } : Oper)) (v := ?_) rfl (by kernel_rfl) (by kernel_rfl) (by kernel_rfl) (fun _ _ _ h => h) (Or.inl ⟨by rfl, ?_⟩) (by assumption) ?_
        rotate_left
        · intro w hSw; (try dsimp only at hSw); go_simp <;> with_reducible rfl
        (try simp only [Act.put, List.setIfInBounds_toArray, List.set_cons_zero, List.set_cons_succ])
        refine wpAnyH_take (i := 21) (oi := ({ dst := some 83, op := Op.move (Operand.tmp 10), type := 37, pos := "law.go:168", after := #[{ on := 20, ground := Ground.guard }], guard := some (20, true) } : Oper)) (v := undef) rfl (by kernel_rfl) (by kernel_rfl) (by kernel_rfl) (fun _ _ _ h => h) (Or.inr ⟨by rfl, rfl⟩) (by assumption) ?_
        (try simp only [Act.put, List.setIfInBounds_toArray, List.set_cons_zero, List.set_cons_succ])
        refine wpAnyH_take (i := 22) (oi := ({ dst := some 84, op := Op.move (Operand.tmp 11), type := 3, pos := "law.go:168", after := #[{ on := 20, ground := Ground.guard }], guard := some (20, true) } : Oper)) (v := undef) rfl (by kernel_rfl) (by kernel_rfl) (by kernel_rfl) (fun _ _ _ h => h) (Or.inr ⟨by rfl, rfl⟩) (by assumption) ?_
        (try simp only [Act.put, List.setIfInBounds_toArray, List.set_cons_zero, List.set_cons_succ])
        refine wpAnyH_take (i := 23) (oi := ({ dst := some 85, op := Op.indexAddr 37 (Operand.tmp 83) (Operand.tmp 84), type := 0, pos := "law.go:168", after := #[{ on := 21, ground := Ground.data }, { on := 22, ground := Ground.data }, { on := 20, ground := Ground.guard }], guard := some (20, true) } : Oper)) (v := undef) rfl (by kernel_rfl) (by kernel_rfl) (by kernel_rfl) (fun _ _ _ h => h) (Or.inr ⟨by rfl, rfl⟩) (by assumption) ?_
        (try simp only [Act.put, List.setIfInBounds_toArray, List.set_cons_zero, List.set_cons_succ])
        refine wpAnyH_take (i := 24) (oi := ({ dst := some 86, op := Op.fieldAddr 29 (Operand.tmp 85) 0, type := 0, pos := "law.go:168", after := #[{ on := 23, ground := Ground.data }, { on := 20, ground := Ground.guard }], guard := some (20, true) } : Oper)) (v := undef) rfl (by kernel_rfl) (by kernel_rfl) (by kernel_rfl) (fun _ _ _ h => h) (Or.inr ⟨by rfl, rfl⟩) (by assumption) ?_
        (try simp only [Act.put, List.setIfInBounds_toArray, List.set_cons_zero, List.set_cons_succ])
        refine wpAnyH_take (i := 25) (oi := ({ dst := some 87, op := Op.load 25 (Operand.tmp 86), type := 25, pos := "law.go:168", after := #[{ on := 24, ground := Ground.data }, { on := 20, ground := Ground.guard }], guard := some (20, true) } : Oper)) (v := undef) rfl (by kernel_rfl) (by kernel_rfl) (by kernel_rfl) (fun _ _ _ h => h) (Or.inr ⟨by rfl, rfl⟩) (by assumption) ?_
        (try simp only [Act.put, List.setIfInBounds_toArray, List.set_cons_zero, List.set_cons_succ])
        refine wpAnyH_take (i := 26) (oi := ({ dst := some 88, op := Op.build 25 #[], type := 25, pos := "law.go:168", after := #[{ on := 20, ground := Ground.guard }], guard := some (20, true) } : Oper)) (v := undef) rfl (by kernel_rfl) (by kernel_rfl) (by kernel_rfl) (fun _ _ _ h => h) (Or.inr ⟨by rfl, rfl⟩) (by assumption) ?_
        (try simp only [Act.put, List.setIfInBounds_toArray, List.set_cons_zero, List.set_cons_succ])
        refine wpAnyH_take (i := 27) (oi := ({ dst := some 89, op := Op.binOp BinOp.neq 25 (Operand.tmp 87) (Operand.tmp 88) 25, type := 4, pos := "law.go:168", after := #[{ on := 25, ground := Ground.data }, { on := 26, ground := Ground.data }, { on := 20, ground := Ground.guard }], guard := some (20, true) } : Oper)) (v := undef) rfl (by kernel_rfl) (by kernel_rfl) (by kernel_rfl) (fun _ _ _ h => h) (Or.inr ⟨by rfl, rfl⟩) (by assumption) ?_
        (try simp only [Act.put, List.setIfInBounds_toArray, List.set_cons_zero, List.set_cons_succ])
        refine wpAnyH_take (i := 28) (oi := ({ dst := some 90, op := Op.pick (Operand.tmp 82) (Operand.tmp 89) (Operand.const (Value.bool false)), type := 4, pos := "law.go:168", after := #[{ on := 20, ground := Ground.data }, { on := 27, ground := Ground.data }, { on := 13, ground := Ground.guard }], guard := some (13, false) } : Oper)) (v := ?_) rfl (by kernel_rfl) (by kernel_rfl) (by kernel_rfl) (fun _ _ _ h => h) (Or.inl ⟨by rfl, ?_⟩) (by assumption) ?_
        rotate_left
        · intro w hSw; (try dsimp only at hSw); go_simp <;> with_reducible rfl
        (try simp only [Act.put, List.setIfInBounds_toArray, List.set_cons_zero, List.set_cons_succ])
        refine wpAnyH_take (i := 29) (oi := ({ dst := some 91, op := Op.pick (Operand.tmp 75) (Operand.const (Value.bool true)) (Operand.tmp 90), type := 4, pos := "law.go:168", after := #[{ on := 13, ground := Ground.data }, { on := 28, ground := Ground.data }], guard := none } : Oper)) (v := ?_) rfl (by kernel_rfl) (by kernel_rfl) (by kernel_rfl) (fun _ _ _ h => h) (Or.inl ⟨by rfl, ?_⟩) (by assumption) ?_
        rotate_left
        · intro w hSw; (try dsimp only at hSw); go_simp <;> with_reducible rfl
        (try simp only [Act.put, List.setIfInBounds_toArray, List.set_cons_zero, List.set_cons_succ])
        refine wpAnyH_done (by kernel_rfl) ?_ _
        go_wp2_with fail
        go_roundw
        case rel => exact ⟨k + 1, by omega, by go_num, below_step BK.out (by with_reducible assumption)⟩
        case measure => simp [intOf]; omega
      · have e0 : (E == 0) = false := by simpa using hE
        have e1 : (E != 0) = true := by simpa using hE
        obtain ⟨rfl, rfl⟩ := gd.z.resolve_left hE
        have VC := hid (fun w => by have h := valid_any (0) (0) gd.n gd.d w; rw [gd.v, e0] at h; exact h)
        clear gd hE
        go_wp2_with fail
        refine wp_region_held_drew (S := (fun V => V.cell? ⟨m, k * 3, none⟩ = some (.int .i64 (0)) ∧ V.cell? ⟨m, k * 3 + 1, none⟩ = some (.int .i64 (0)) ∧ V.cell? ⟨m, k * 3 + 2, none⟩ = some (.int .i64 E) ∧ Below wr.heap.size wr V)) (by kernel_rfl) ?_ (fun hHeld => ?_)
        · with_reducible exact ⟨cell_below hsd hr0, cell_below hsd hr1, cell_below hsd hr2, hsd⟩
        refine wpAnyH_take (i := 0) (oi := ({ dst := some 62, op := Op.move (Operand.tmp 10), type := 37, pos := "law.go:168", after := #[], guard := none } : Oper)) (v := ?_) rfl (by kernel_rfl) (by kernel_rfl) (by kernel_rfl) (fun _ _ _ h => h) (Or.inl ⟨by rfl, ?_⟩) (by assumption) ?_
        rotate_left
        · intro w hSw; (try dsimp only at hSw); go_simp <;> with_reducible rfl
        (try simp only [Act.put, List.setIfInBounds_toArray, List.set_cons_zero, List.set_cons_succ])
        refine wpAnyH_take (i := 1) (oi := ({ dst := some 63, op := Op.move (Operand.tmp 11), type := 3, pos := "law.go:168", after := #[], guard := none } : Oper)) (v := ?_) rfl (by kernel_rfl) (by kernel_rfl) (by kernel_rfl) (fun _ _ _ h => h) (Or.inl ⟨by rfl, ?_⟩) (by assumption) ?_
        rotate_left
        · intro w hSw; (try dsimp only at hSw); go_simp <;> with_reducible rfl
        (try simp only [Act.put, List.setIfInBounds_toArray, List.set_cons_zero, List.set_cons_succ])
        refine wpAnyH_take (i := 2) (oi := ({ dst := some 64, op := Op.indexAddr 37 (Operand.tmp 62) (Operand.tmp 63), type := 0, pos := "law.go:168", after := #[{ on := 0, ground := Ground.data }, { on := 1, ground := Ground.data }], guard := none } : Oper)) (v := ?_) rfl (by kernel_rfl) (by kernel_rfl) (by kernel_rfl) (fun _ _ _ h => h) (Or.inl ⟨by rfl, ?_⟩) (by assumption) ?_
        rotate_left
        · intro w hSw; (try dsimp only at hSw); go_simp <;> with_reducible rfl
        (try simp only [Act.put, List.setIfInBounds_toArray, List.set_cons_zero, List.set_cons_succ])
        refine wpAnyH_take (i := 3) (oi := ({ dst := some 65, op := Op.fieldAddr 29 (Operand.tmp 64) 0, type := 0, pos := "law.go:168", after := #[{ on := 2, ground := Ground.data }], guard := none } : Oper)) (v := ?_) rfl (by kernel_rfl) (by kernel_rfl) (by kernel_rfl) (fun _ _ _ h => h) (Or.inl ⟨by rfl, ?_⟩) (by assumption) ?_
        rotate_left
        · intro w hSw; (try dsimp only at hSw); go_simp <;> with_reducible rfl
        (try simp only [Act.put, List.setIfInBounds_toArray, List.set_cons_zero, List.set_cons_succ])
        refine wpAnyH_take (i := 4) (oi := ({ dst := some 66, op := Op.load 25 (Operand.tmp 65), type := 25, pos := "law.go:168", after := #[{ on := 3, ground := Ground.data }], guard := none } : Oper)) (v := ?_) rfl (by kernel_rfl) (by kernel_rfl) (by kernel_rfl) (fun _ _ _ h => h) (Or.inl ⟨by rfl, ?_⟩) (by assumption) ?_
        rotate_left
        · intro w hSw; (try dsimp only at hSw); go_simp <;> with_reducible rfl
        (try simp only [Act.put, List.setIfInBounds_toArray, List.set_cons_zero, List.set_cons_succ])
        refine wpAnyH_take (i := 6) (oi := ({ dst := some 68, op := Op.move (Operand.tmp 10), type := 37, pos := "law.go:168", after := #[], guard := none } : Oper)) (v := ?_) rfl (by kernel_rfl) (by kernel_rfl) (by kernel_rfl) (fun _ _ _ h => h) (Or.inl ⟨by rfl, ?_⟩) (by assumption) ?_
        rotate_left
        · intro w hSw; (try dsimp only at hSw); go_simp <;> with_reducible rfl
        (try simp only [Act.put, List.setIfInBounds_toArray, List.set_cons_zero, List.set_cons_succ])
        refine wpAnyH_take (i := 7) (oi := ({ dst := some 69, op := Op.move (Operand.tmp 11), type := 3, pos := "law.go:168", after := #[], guard := none } : Oper)) (v := ?_) rfl (by kernel_rfl) (by kernel_rfl) (by kernel_rfl) (fun _ _ _ h => h) (Or.inl ⟨by rfl, ?_⟩) (by assumption) ?_
        rotate_left
        · intro w hSw; (try dsimp only at hSw); go_simp <;> with_reducible rfl
        (try simp only [Act.put, List.setIfInBounds_toArray, List.set_cons_zero, List.set_cons_succ])
        refine wpAnyH_take (i := 8) (oi := ({ dst := some 70, op := Op.indexAddr 37 (Operand.tmp 68) (Operand.tmp 69), type := 0, pos := "law.go:168", after := #[{ on := 6, ground := Ground.data }, { on := 7, ground := Ground.data }], guard := none } : Oper)) (v := ?_) rfl (by kernel_rfl) (by kernel_rfl) (by kernel_rfl) (fun _ _ _ h => h) (Or.inl ⟨by rfl, ?_⟩) (by assumption) ?_
        rotate_left
        · intro w hSw; (try dsimp only at hSw); go_simp <;> with_reducible rfl
        (try simp only [Act.put, List.setIfInBounds_toArray, List.set_cons_zero, List.set_cons_succ])
        refine wpAnyH_take (i := 9) (oi := ({ dst := some 71, op := Op.fieldAddr 29 (Operand.tmp 70) 1, type := 0, pos := "law.go:168", after := #[{ on := 8, ground := Ground.data }], guard := none } : Oper)) (v := ?_) rfl (by kernel_rfl) (by kernel_rfl) (by kernel_rfl) (fun _ _ _ h => h) (Or.inl ⟨by rfl, ?_⟩) (by assumption) ?_
        rotate_left
        · intro w hSw; (try dsimp only at hSw); go_simp <;> with_reducible rfl
        (try simp only [Act.put, List.setIfInBounds_toArray, List.set_cons_zero, List.set_cons_succ])
        refine wpAnyH_take (i := 10) (oi := ({ dst := some 72, op := Op.load 27 (Operand.tmp 71), type := 27, pos := "law.go:168", after := #[{ on := 9, ground := Ground.data }], guard := none } : Oper)) (v := ?_) rfl (by kernel_rfl) (by kernel_rfl) (by kernel_rfl) (fun _ _ _ h => h) (Or.inl ⟨by rfl, ?_⟩) (by assumption) ?_
        rotate_left
        · intro w hSw; (try dsimp only at hSw); go_simp <;> with_reducible rfl
        (try simp only [Act.put, List.setIfInBounds_toArray, List.set_cons_zero, List.set_cons_succ])
        refine wpAnyH_take (i := 11) (oi := ({ dst := some 73, op := Op.binOp BinOp.eql 27 (Operand.tmp 72) (Operand.const (Value.int IntKind.i64 0)) 27, type := 4, pos := "law.go:168", after := #[{ on := 10, ground := Ground.data }], guard := none } : Oper)) (v := ?_) rfl (by kernel_rfl) (by kernel_rfl) (by kernel_rfl) (fun _ _ _ h => h) (Or.inl ⟨by rfl, ?_⟩) (by assumption) ?_
        rotate_left
        · intro w hSw; (try dsimp only at hSw); go_simp <;> with_reducible rfl
        (try simp only [Act.put, List.setIfInBounds_toArray, List.set_cons_zero, List.set_cons_succ])
        refine wpAnyH_ready (rs := [5]) (by kernel_rfl) (by simp) ?_
        refine AllReadyH.cons (o := ({ dst := some 67, op := Op.call { callee := Callee.value (Operand.func 21), args := #[Operand.tmp 66], argTypes := #[25] }, type := 4, pos := "law.go:168", after := #[{ on := 4, ground := Ground.data }], guard := none } : Oper)) rfl (fun K hK => ?_) ?_
        rotate_left
        · exact AllReadyH.nil
        go_simp
        go_at_call 21
        with_reducible refine (VC.out _).mono ?_
        rintro e y0 ⟨rfl, hq0⟩
        have hB0 := below_step hsd hq0
        clear hHeld
        first | (with_reducible refine hK.out _ _ ?_ (fun hHeld => ?_)) | (go_wp2_with fail; with_reducible refine hK.out _ _ ?_ (fun hHeld => ?_))
        · with_reducible exact ⟨cell_below hB0 hr0, cell_below hB0 hr1, cell_below hB0 hr2, hB0⟩
        clear hK K
        (try simp only [Act.put, List.setIfInBounds_toArray, List.set_cons_zero, List.set_cons_succ])
        refine wpAnyH_take (i := 12) (oi := ({ dst := some 74, op := Op.binOp BinOp.neq 4 (Operand.tmp 67) (Operand.tmp 73) 4, type := 4, pos := "law.go:168", after := #[{ on := 5, ground := Ground.data }, { on := 11, ground := Ground.data }], guard := none } : Oper)) (v := ?_) rfl (by kernel_rfl) (by kernel_rfl) (by kernel_rfl) (fun _ _ _ h => h) (Or.inl ⟨by rfl, ?_⟩) (by assumption) ?_
        rotate_left
        · intro w hSw; (try dsimp only at hSw); go_simp <;> with_reducible rfl
        (try simp only [Act.put, List.setIfInBounds_toArray, List.set_cons_zero, List.set_cons_succ])
        refine wpAnyH_take (i := 13) (oi := ({ dst := some 75, op := Op.move (Operand.tmp 74), type := 4, pos := "law.go:168", after := #[{ on := 12, ground := Ground.data }, { on := 5, ground := Ground.chain }], guard := none } : Oper)) (v := ?_) rfl (by kernel_rfl) (by kernel_rfl) (by kernel_rfl) (fun _ _ _ h => h) (Or.inl ⟨by rfl, ?_⟩) (by assumption) ?_
        rotate_left
        · intro w hSw; (try dsimp only at hSw); go_simp <;> with_reducible rfl
        (try simp only [Act.put, List.setIfInBounds_toArray, List.set_cons_zero, List.set_cons_succ])
        refine wpAnyH_take (i := 14) (oi := ({ dst := some 76, op := Op.move (Operand.tmp 10), type := 37, pos := "law.go:168", after := #[{ on := 13, ground := Ground.guard }], guard := some (13, false) } : Oper)) (v := ?_) rfl (by kernel_rfl) (by kernel_rfl) (by kernel_rfl) (fun _ _ _ h => h) (Or.inl ⟨by rfl, ?_⟩) (by assumption) ?_
        rotate_left
        · intro w hSw; (try dsimp only at hSw); go_simp <;> with_reducible rfl
        (try simp only [Act.put, List.setIfInBounds_toArray, List.set_cons_zero, List.set_cons_succ])
        refine wpAnyH_take (i := 15) (oi := ({ dst := some 77, op := Op.move (Operand.tmp 11), type := 3, pos := "law.go:168", after := #[{ on := 13, ground := Ground.guard }], guard := some (13, false) } : Oper)) (v := ?_) rfl (by kernel_rfl) (by kernel_rfl) (by kernel_rfl) (fun _ _ _ h => h) (Or.inl ⟨by rfl, ?_⟩) (by assumption) ?_
        rotate_left
        · intro w hSw; (try dsimp only at hSw); go_simp <;> with_reducible rfl
        (try simp only [Act.put, List.setIfInBounds_toArray, List.set_cons_zero, List.set_cons_succ])
        refine wpAnyH_take (i := 16) (oi := ({ dst := some 78, op := Op.indexAddr 37 (Operand.tmp 76) (Operand.tmp 77), type := 0, pos := "law.go:168", after := #[{ on := 14, ground := Ground.data }, { on := 15, ground := Ground.data }, { on := 13, ground := Ground.guard }], guard := some (13, false) } : Oper)) (v := ?_) rfl (by kernel_rfl) (by kernel_rfl) (by kernel_rfl) (fun _ _ _ h => h) (Or.inl ⟨by rfl, ?_⟩) (by assumption) ?_
        rotate_left
        · intro w hSw; (try dsimp only at hSw); go_simp <;> with_reducible rfl
        (try simp only [Act.put, List.setIfInBounds_toArray, List.set_cons_zero, List.set_cons_succ])
        refine wpAnyH_take (i := 17) (oi := ({ dst := some 79, op := Op.fieldAddr 29 (Operand.tmp 78) 1, type := 0, pos := "law.go:168", after := #[{ on := 16, ground := Ground.data }, { on := 13, ground := Ground.guard }], guard := some (13, false) } : Oper)) (v := ?_) rfl (by kernel_rfl) (by kernel_rfl) (by kernel_rfl) (fun _ _ _ h => h) (Or.inl ⟨by rfl, ?_⟩) (by assumption) ?_
        rotate_left
        · intro w hSw; (try dsimp only at hSw); go_simp <;> with_reducible rfl
        (try simp only [Act.put, List.setIfInBounds_toArray, List.set_cons_zero, List.set_cons_succ])
        refine wpAnyH_take (i := 18) (oi := ({ dst := some 80, op := Op.load 27 (Operand.tmp 79), type := 27, pos := "law.go:168", after := #[{ on := 17, ground := Ground.data }, { on := 13, ground := Ground.guard }], guard := some (13, false) } : Oper)) (v := ?_) rfl (by kernel_rfl) (by kernel_rfl) (by kernel_rfl) (fun _ _ _ h => h) (Or.inl ⟨by rfl, ?_⟩) (by assumption) ?_
        rotate_left
        · intro w hSw; (try dsimp only at hSw); go_simp <;> with_reducible rfl
        (try simp only [Act.put, List.setIfInBounds_toArray, List.set_cons_zero, List.set_cons_succ])
        refine wpAnyH_take (i := 19) (oi := ({ dst := some 81, op := Op.binOp BinOp.neq 27 (Operand.tmp 80) (Operand.const (Value.int IntKind.i64 0)) 27, type := 4, pos := "law.go:168", after := #[{ on := 18, ground := Ground.data }, { on := 13, ground := Ground.guard }], guard := some (13, false) } : Oper)) (v := ?_) rfl (by kernel_rfl) (by kernel_rfl) (by kernel_rfl) (fun _ _ _ h => h) (Or.inl ⟨by rfl, ?_⟩) (by assumption) ?_
        rotate_left
        · intro w hSw; (try dsimp only at hSw); go_simp <;> with_reducible rfl
        (try simp only [Act.put, List.setIfInBounds_toArray, List.set_cons_zero, List.set_cons_succ])
        refine wpAnyH_take (i := 20) (oi := ({ dst := some 82, op := Op.move (Operand.tmp 81), type := 4, pos := "law.go:168", after := #[{ on := 19, ground := Ground.data }, { on := 13, ground := Ground.chain }, { on := 13, ground := Ground.guard }], guard := some (13, false) } : Oper)) (v := ?_) rfl (by kernel_rfl) (by kernel_rfl) (by kernel_rfl) (fun _ _ _ h => h) (Or.inl ⟨by rfl, ?_⟩) (by assumption) ?_
        rotate_left
        · intro w hSw; (try dsimp only at hSw); go_simp <;> with_reducible rfl
        (try simp only [Act.put, List.setIfInBounds_toArray, List.set_cons_zero, List.set_cons_succ])
        refine wpAnyH_take (i := 21) (oi := ({ dst := some 83, op := Op.move (Operand.tmp 10), type := 37, pos := "law.go:168", after := #[{ on := 20, ground := Ground.guard }], guard := some (20, true) } : Oper)) (v := ?_) rfl (by kernel_rfl) (by kernel_rfl) (by kernel_rfl) (fun _ _ _ h => h) (Or.inl ⟨by rfl, ?_⟩) (by assumption) ?_
        rotate_left
        · intro w hSw; (try dsimp only at hSw); go_simp <;> with_reducible rfl
        (try simp only [Act.put, List.setIfInBounds_toArray, List.set_cons_zero, List.set_cons_succ])
        refine wpAnyH_take (i := 22) (oi := ({ dst := some 84, op := Op.move (Operand.tmp 11), type := 3, pos := "law.go:168", after := #[{ on := 20, ground := Ground.guard }], guard := some (20, true) } : Oper)) (v := ?_) rfl (by kernel_rfl) (by kernel_rfl) (by kernel_rfl) (fun _ _ _ h => h) (Or.inl ⟨by rfl, ?_⟩) (by assumption) ?_
        rotate_left
        · intro w hSw; (try dsimp only at hSw); go_simp <;> with_reducible rfl
        (try simp only [Act.put, List.setIfInBounds_toArray, List.set_cons_zero, List.set_cons_succ])
        refine wpAnyH_take (i := 23) (oi := ({ dst := some 85, op := Op.indexAddr 37 (Operand.tmp 83) (Operand.tmp 84), type := 0, pos := "law.go:168", after := #[{ on := 21, ground := Ground.data }, { on := 22, ground := Ground.data }, { on := 20, ground := Ground.guard }], guard := some (20, true) } : Oper)) (v := ?_) rfl (by kernel_rfl) (by kernel_rfl) (by kernel_rfl) (fun _ _ _ h => h) (Or.inl ⟨by rfl, ?_⟩) (by assumption) ?_
        rotate_left
        · intro w hSw; (try dsimp only at hSw); go_simp <;> with_reducible rfl
        (try simp only [Act.put, List.setIfInBounds_toArray, List.set_cons_zero, List.set_cons_succ])
        refine wpAnyH_take (i := 24) (oi := ({ dst := some 86, op := Op.fieldAddr 29 (Operand.tmp 85) 0, type := 0, pos := "law.go:168", after := #[{ on := 23, ground := Ground.data }, { on := 20, ground := Ground.guard }], guard := some (20, true) } : Oper)) (v := ?_) rfl (by kernel_rfl) (by kernel_rfl) (by kernel_rfl) (fun _ _ _ h => h) (Or.inl ⟨by rfl, ?_⟩) (by assumption) ?_
        rotate_left
        · intro w hSw; (try dsimp only at hSw); go_simp <;> with_reducible rfl
        (try simp only [Act.put, List.setIfInBounds_toArray, List.set_cons_zero, List.set_cons_succ])
        refine wpAnyH_take (i := 25) (oi := ({ dst := some 87, op := Op.load 25 (Operand.tmp 86), type := 25, pos := "law.go:168", after := #[{ on := 24, ground := Ground.data }, { on := 20, ground := Ground.guard }], guard := some (20, true) } : Oper)) (v := ?_) rfl (by kernel_rfl) (by kernel_rfl) (by kernel_rfl) (fun _ _ _ h => h) (Or.inl ⟨by rfl, ?_⟩) (by assumption) ?_
        rotate_left
        · intro w hSw; (try dsimp only at hSw); go_simp <;> with_reducible rfl
        (try simp only [Act.put, List.setIfInBounds_toArray, List.set_cons_zero, List.set_cons_succ])
        refine wpAnyH_take (i := 26) (oi := ({ dst := some 88, op := Op.build 25 #[], type := 25, pos := "law.go:168", after := #[{ on := 20, ground := Ground.guard }], guard := some (20, true) } : Oper)) (v := ?_) rfl (by kernel_rfl) (by kernel_rfl) (by kernel_rfl) (fun _ _ _ h => h) (Or.inl ⟨by rfl, ?_⟩) (by assumption) ?_
        rotate_left
        · intro w hSw; (try dsimp only at hSw); go_simp <;> with_reducible rfl
        (try simp only [Act.put, List.setIfInBounds_toArray, List.set_cons_zero, List.set_cons_succ])
        refine wpAnyH_take (i := 27) (oi := ({ dst := some 89, op := Op.binOp BinOp.neq 25 (Operand.tmp 87) (Operand.tmp 88) 25, type := 4, pos := "law.go:168", after := #[{ on := 25, ground := Ground.data }, { on := 26, ground := Ground.data }, { on := 20, ground := Ground.guard }], guard := some (20, true) } : Oper)) (v := ?_) rfl (by kernel_rfl) (by kernel_rfl) (by kernel_rfl) (fun _ _ _ h => h) (Or.inl ⟨by rfl, ?_⟩) (by assumption) ?_
        rotate_left
        · intro w hSw; (try dsimp only at hSw); go_simp <;> with_reducible rfl
        (try simp only [Act.put, List.setIfInBounds_toArray, List.set_cons_zero, List.set_cons_succ])
        refine wpAnyH_take (i := 28) (oi := ({ dst := some 90, op := Op.pick (Operand.tmp 82) (Operand.tmp 89) (Operand.const (Value.bool false)), type := 4, pos := "law.go:168", after := #[{ on := 20, ground := Ground.data }, { on := 27, ground := Ground.data }, { on := 13, ground := Ground.guard }], guard := some (13, false) } : Oper)) (v := ?_) rfl (by kernel_rfl) (by kernel_rfl) (by kernel_rfl) (fun _ _ _ h => h) (Or.inl ⟨by rfl, ?_⟩) (by assumption) ?_
        rotate_left
        · intro w hSw; (try dsimp only at hSw); go_simp <;> with_reducible rfl
        (try simp only [Act.put, List.setIfInBounds_toArray, List.set_cons_zero, List.set_cons_succ])
        refine wpAnyH_take (i := 29) (oi := ({ dst := some 91, op := Op.pick (Operand.tmp 75) (Operand.const (Value.bool true)) (Operand.tmp 90), type := 4, pos := "law.go:168", after := #[{ on := 13, ground := Ground.data }, { on := 28, ground := Ground.data }], guard := none } : Oper)) (v := ?_) rfl (by kernel_rfl) (by kernel_rfl) (by kernel_rfl) (fun _ _ _ h => h) (Or.inl ⟨by rfl, ?_⟩) (by assumption) ?_
        rotate_left
        · intro w hSw; (try dsimp only at hSw); go_simp <;> with_reducible rfl
        (try simp only [Act.put, List.setIfInBounds_toArray, List.set_cons_zero, List.set_cons_succ])
        refine wpAnyH_done (by kernel_rfl) ?_ _
        go_wp2_with fail
        go_roundw
        case rel => exact ⟨k + 1, by omega, by go_num, below_step BK.out (by with_reducible assumption)⟩
        case measure => simp [intOf]; omega
    · have TW := hid (below_step TB.out hb)
      have hx := PA.out wr (below_step BB.out hb)
      have c0 := hx.1
      have c1 := hx.2.1
      clear hx hb
      obtain ⟨n, hn⟩ : ∃ n, x0.tmod 1073741824 = n := ⟨_, rfl⟩
      obtain ⟨d, hd⟩ : ∃ n, x1.tmod 1073741824 = n := ⟨_, rfl⟩
      have BN := hid (show -1073741824 < n ∧ n < 1073741824 by rw [← hn]; exact tmod_bd x0)
      have BD := hid (show -1073741824 < d ∧ d < 1073741824 by rw [← hd]; exact tmod_bd x1)
      by_cases hd0 : d = 0
      · have z0 : (d == 0) = true := by rw [hd0]; rfl
        have z1 : decide (d = 0) = true := by rw [hd0]; rfl
        clear hd0
        go_wp2_with fail
        go_ret
        exact ⟨rfl, TW.out⟩
      have z0 : (d == 0) = false := by simpa using hd0
      have z1 : decide (d = 0) = false := by simpa using hd0
      have D0 := hid hd0
      clear hd0
      by_cases hk0 : kk = 0
      · have z2 : (kk == 0) = true := by rw [hk0]; rfl
        have z3 : decide (kk = 0) = true := by rw [hk0]; rfl
        clear hk0
        go_wp2_with fail
        go_ret
        exact ⟨rfl, TW.out⟩
      have z2 : (kk == 0) = false := by simpa using hk0
      have z3 : decide (kk = 0) = false := by simpa using hk0
      obtain ⟨f1, f2, f3, f4⟩ := low_fit n d BN.out BD.out D0.out
      obtain ⟨s1, s2, s3⟩ := low_same n d kk D0.out hk0
      have p1 := prod_bd (by decide) (show -1073741824 ≤ n ∧ n ≤ 1073741824 by have := BN.out; omega) (show -2147483648 ≤ kk ∧ kk ≤ 2147483648 by have := HK.out; omega)
      have p2 := prod_bd (by decide) (show -1073741824 ≤ d ∧ d ≤ 1073741824 by have := BD.out; omega) (show -2147483648 ≤ kk ∧ kk ≤ 2147483648 by have := HK.out; omega)
      obtain ⟨N, hN⟩ : ∃ N, nN n d = N := ⟨_, rfl⟩
      obtain ⟨D, hD⟩ : ∃ D, nD n d = D := ⟨_, rfl⟩
      rw [hN, hD] at f2
      rw [hN] at f3 s1
      rw [hD] at f4 s2
      rw [f1] at s3
      have p3 := prod_bd (by decide) (show -1073741824 ≤ N ∧ N ≤ 1073741824 by omega) (show -1073741824 ≤ d ∧ d ≤ 1073741824 by have := BD.out; omega)
      have p4 := prod_bd (by decide) (show -1073741824 ≤ D ∧ D ≤ 1073741824 by omega) (show -1073741824 ≤ n ∧ n ≤ 1073741824 by have := BN.out; omega)
      have P1 := hid (fun w => createdE n d N D 0 (by have := BN.out; unfold I64; omega) (by have := BD.out; unfold I64; omega) hN hD f1 w)
      have P2 := hid (fun w => createdE (n * kk) (d * kk) N D 0 (by unfold I64; omega) (by unfold I64; omega) s1 s2 s3 w)
      have w1' : IntKind.i64.wrap (n * kk) = n * kk := by rw [IntKind.wrap_i64]; omega
      have w2' : IntKind.i64.wrap (d * kk) = d * kk := by rw [IntKind.wrap_i64]; omega
      have w3' : IntKind.i64.wrap (N * d) = N * d := by rw [IntKind.wrap_i64]; omega
      have w4' : IntKind.i64.wrap (D * n) = D * n := by rw [IntKind.wrap_i64]; omega
      have v0 : IntKind.i64.wrap kk = kk := by have := HK.out; rw [IntKind.wrap_i64]; omega
      have FE := hid f2
      clear hk0 f1 f2 f3 f4 s1 s2 s3 p1 p2 p3 p4 hN hD
      go_wp2_with fail
      refine (P1.out _).mono ?_
      rintro e v1 ⟨rfl, hb⟩
      have T1 := hid (below_step TW.out hb)
      clear hb c0 c1
      go_wp2_with fail
      refine (P2.out _).mono ?_
      rintro e v4 ⟨rfl, hb⟩
      have T2 := hid (below_step (below_a T1.out _) hb)
      have a0 := cell_below hb (x := .int .i64 N) (a := ⟨v1.heap.size, 0, none⟩) (by simp [go_sem])
      have a1 := cell_below hb (x := .int .i64 D) (a := ⟨v1.heap.size, 1, none⟩) (by simp [go_sem])
      have a2 := cell_below hb (x := .int .i64 0) (a := ⟨v1.heap.size, 2, none⟩) (by simp [go_sem])
      have b0 := fun o => cell_below (below_a (Below.refl v4.heap.size v4) o) a0
      have b1 := fun o => cell_below (below_a (Below.refl v4.heap.size v4) o) a1
      have b2 := fun o => cell_below (below_a (Below.refl v4.heap.size v4) o) a2
      have e1 : (N * d == D * n) = true := by rw [FE.out]; simp
      have e2 : decide (N * d = D * n) = true := by rw [FE.out]; simp
      clear hb a0 a1 a2
      go_wp2_with fail
      go_ret
      exact ⟨rfl, below_a T2.out _⟩
end Go.Proofs.YtgkbefkgkpjmgaaDoor

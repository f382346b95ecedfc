import Derived.Test.YtffcnkkgbhhfnaaGreatDoorRbr
import Derived.Deep.RegionHeld3
namespace Go.Proofs.YtffcnkkgbhhfnaaGreatDoor
open Go.RowKit Go.Instr
set_option linter.unusedVariables false

/-! The law RatMatchesReference. -/
theorem valid_fr {aN aD : Int} (a : Fr aN aD) (w : World) : Calls Tryz.prog 7 #[.agg #[.int .i64 aN, .int .i64 aD]] w fun e w' => e = .returned (.bool true) ∧ Below w.heap.size w w' := by
  have := valid_any aN aD a.bigN.i64 a.bigD.i64 w
  rw [(valid_iff aN aD).2 a] at this
  exact this
theorem both_texts {aN aD : Int} (a : Fr aN aD) : ∃ t : ByteArray, (∀ w, Glob w → Calls Tryz.prog 24 #[.agg #[.int .i64 aN, .int .i64 aD]] w fun e w' => e = .returned (.string t) ∧ Below w.heap.size w w') ∧ (∀ w, Calls Tryz.prog 25 #[.agg #[.int .i64 aN, .int .i64 aD]] w fun e w' => e = .returned (.string t) ∧ Below w.heap.size w w') :=
  ⟨_, fun w g => text_any aN aD a.bigN.i64 a.bigD.i64 w g, fun w => rtext_any aN aD a w⟩
theorem box2_far {w : World} {b B : Nat} {x y : Value} (h : Box2 w b x y) (hb : B ≠ b) (u v : Value) : Box2 ((w.setCell ⟨B, 0, none⟩ u).setCell ⟨B, 1, none⟩ v) b x y := by
  obtain ⟨g0, g1, f0, f1, g4⟩ := h
  exact ⟨(World.cell?_setCell_far _ _ _ _ hb).trans ((World.cell?_setCell_far _ _ _ _ hb).trans g0), (World.cell?_setCell_far _ _ _ _ hb).trans ((World.cell?_setCell_far _ _ _ _ hb).trans g1), by simpa [go_sem] using f0, by simpa [go_sem] using f1, by simpa using g4⟩
set_option maxRecDepth 100000 in
set_option maxHeartbeats 16000000 in
theorem rm_walk (xa xb ya yb : Int) (bxa : I64 xa) (bxb : I64 xb) (bya : I64 ya) (byb : I64 yb) (w : World) (g : Glob w) :
    Calls Tryz.prog 3 #[.agg #[.int .i64 xa, .int .i64 xb], .agg #[.int .i64 ya, .int .i64 yb]] w fun e w' => e = .returned (.bool true) ∧ Below w.heap.size w w' := by
  obtain ⟨w0, hw0⟩ : ∃ w0, (w.alloc (.cells #[.int .i64 xa, .int .i64 xb] 22)).alloc (.cells #[.int .i64 ya, .int .i64 yb] 22) = w0 := ⟨_, rfl⟩
  have hb0 : Below w.heap.size w w0 := by rw [← hw0]; exact below_a (below_a (Below.refl _ _) _) _
  have PK := hid (fun (W : World) (hW : Below w0.heap.size w0 W) => show W.cell? ⟨w.heap.size, 0, none⟩ = some (.int .i64 xa) ∧ W.cell? ⟨w.heap.size, 1, none⟩ = some (.int .i64 xb) ∧ W.cell? ⟨w.heap.size + 1, 0, none⟩ = some (.int .i64 ya) ∧ W.cell? ⟨w.heap.size + 1, 1, none⟩ = some (.int .i64 yb) from by
    refine ⟨cell_below hW ?_, cell_below hW ?_, cell_below hW ?_, cell_below hW ?_⟩ <;> (rw [← hw0]; simp [go_sem]))
  have B0 := hid hb0
  have G0 := hid (glob_below hb0 g)
  have HXY := hid (And.intro bxa (And.intro bxb (And.intro bya byb)))
  have Hw := hid hw0
  obtain ⟨N1, hN1⟩ : ∃ N, nN xa xb = N := ⟨_, rfl⟩
  obtain ⟨D1, hD1⟩ : ∃ N, nD xa xb = N := ⟨_, rfl⟩
  obtain ⟨E1, hE1⟩ : ∃ N, nE xa xb = N := ⟨_, rfl⟩
  obtain ⟨N2, hN2⟩ : ∃ N, nN xa ya = N := ⟨_, rfl⟩
  obtain ⟨D2, hD2⟩ : ∃ N, nD xa ya = N := ⟨_, rfl⟩
  obtain ⟨E2, hE2⟩ : ∃ N, nE xa ya = N := ⟨_, rfl⟩
  have K1 := hid (fun w => createdE xa xb N1 D1 E1 bxa bxb hN1 hD1 hE1 w)
  have K2 := hid (fun w => createdE xa ya N2 D2 E2 bxa bya hN2 hD2 hE2 w)
  have R1 := hid (fun w => newin_any xa xb bxa bxb w)
  have R2 := hid (fun w => newin_any xa ya bxa bya w)
  rw [hN1, hD1, hE1] at R1
  rw [hN2, hD2, hE2] at R2
  have V1 := hid (fun w => valid_any xa xb bxa bxb w)
  have V2 := hid (fun w => rvalid_all xa xb bxa bxb w)
  obtain ⟨bv, hbv⟩ : ∃ b, validB xa xb = b := ⟨_, rfl⟩
  rw [hbv] at V1 V2
  have nb : (bv != bv) = false := by simp
  clear hb0 g bxa bxb bya byb hw0 hN1 hD1 hE1 hN2 hD2 hE2 hbv
  go_enter Tryz.func3, Tryz.ntmps3
  go_wp2_with fail
  rw [Hw.out]
  clear Hw
  refine (examples_any _ G0.out).mono ?_
  rintro e w1 ⟨rfl, hb⟩
  have B1 := hid hb; clear hb
  obtain ⟨c0, c1, d0, d1⟩ := PK.out _ B1.out
  have hsd := (Below.refl w1.heap.size w1).drew
  go_upto_region 4 with fail
  refine wp_region_held_drew (S := fun W' => (W'.cell? ⟨w.heap.size, 0, none⟩ = some (.int .i64 xa) ∧ W'.cell? ⟨w.heap.size, 1, none⟩ = some (.int .i64 xb) ∧ W'.cell? ⟨w.heap.size + 1, 0, none⟩ = some (.int .i64 ya) ∧ W'.cell? ⟨w.heap.size + 1, 1, none⟩ = some (.int .i64 yb))) (by kernel_rfl) ?_ (fun hHeld => ?_)
  · exact ⟨c0, c1, d0, d1⟩
  refine wpAnyH_take (i := 0) (oi := ({ dst := some 14, op := Op.indexAddr 22 (Operand.tmp 2) (Operand.const (Value.int IntKind.i64 0)), type := 0, pos := "law.go:72", after := #[], guard := none } : Oper)) (v := ?_) rfl (by kernel_rfl) (by kernel_rfl) (by kernel_rfl) (fun _ _ _ h => h) (Or.inl ⟨by rfl, ?_⟩) (by assumption) ?_
  rotate_left
  · intro w hSw; (try dsimp only at hSw); go_simp <;> with_reducible rfl
  (try simp only [Act.put, List.setIfInBounds_toArray, List.set_cons_zero, List.set_cons_succ])
  refine wpAnyH_take (i := 1) (oi := ({ dst := some 15, op := Op.load 3 (Operand.tmp 14), type := 3, pos := "law.go:72", after := #[{ on := 0, ground := Ground.data }], guard := none } : Oper)) (v := ?_) rfl (by kernel_rfl) (by kernel_rfl) (by kernel_rfl) (fun _ _ _ h => h) (Or.inl ⟨by rfl, ?_⟩) (by assumption) ?_
  rotate_left
  · intro w hSw; (try dsimp only at hSw); go_simp <;> with_reducible rfl
  (try simp only [Act.put, List.setIfInBounds_toArray, List.set_cons_zero, List.set_cons_succ])
  refine wpAnyH_take (i := 2) (oi := ({ dst := some 16, op := Op.indexAddr 22 (Operand.tmp 2) (Operand.const (Value.int IntKind.i64 1)), type := 0, pos := "law.go:72", after := #[], guard := none } : Oper)) (v := ?_) rfl (by kernel_rfl) (by kernel_rfl) (by kernel_rfl) (fun _ _ _ h => h) (Or.inl ⟨by rfl, ?_⟩) (by assumption) ?_
  rotate_left
  · intro w hSw; (try dsimp only at hSw); go_simp <;> with_reducible rfl
  (try simp only [Act.put, List.setIfInBounds_toArray, List.set_cons_zero, List.set_cons_succ])
  refine wpAnyH_take (i := 3) (oi := ({ dst := some 17, op := Op.load 3 (Operand.tmp 16), type := 3, pos := "law.go:72", after := #[{ on := 2, ground := Ground.data }], guard := none } : Oper)) (v := ?_) rfl (by kernel_rfl) (by kernel_rfl) (by kernel_rfl) (fun _ _ _ h => h) (Or.inl ⟨by rfl, ?_⟩) (by assumption) ?_
  rotate_left
  · intro w hSw; (try dsimp only at hSw); go_simp <;> with_reducible rfl
  (try simp only [Act.put, List.setIfInBounds_toArray, List.set_cons_zero, List.set_cons_succ])
  refine wpAnyH_take (i := 5) (oi := ({ dst := some 19, op := Op.indexAddr 22 (Operand.tmp 2) (Operand.const (Value.int IntKind.i64 0)), type := 0, pos := "law.go:72", after := #[], guard := none } : Oper)) (v := ?_) rfl (by kernel_rfl) (by kernel_rfl) (by kernel_rfl) (fun _ _ _ h => h) (Or.inl ⟨by rfl, ?_⟩) (by assumption) ?_
  rotate_left
  · intro w hSw; (try dsimp only at hSw); go_simp <;> with_reducible rfl
  (try simp only [Act.put, List.setIfInBounds_toArray, List.set_cons_zero, List.set_cons_succ])
  refine wpAnyH_take (i := 6) (oi := ({ dst := some 20, op := Op.load 3 (Operand.tmp 19), type := 3, pos := "law.go:72", after := #[{ on := 5, ground := Ground.data }], guard := none } : Oper)) (v := ?_) rfl (by kernel_rfl) (by kernel_rfl) (by kernel_rfl) (fun _ _ _ h => h) (Or.inl ⟨by rfl, ?_⟩) (by assumption) ?_
  rotate_left
  · intro w hSw; (try dsimp only at hSw); go_simp <;> with_reducible rfl
  (try simp only [Act.put, List.setIfInBounds_toArray, List.set_cons_zero, List.set_cons_succ])
  refine wpAnyH_take (i := 7) (oi := ({ dst := some 21, op := Op.indexAddr 22 (Operand.tmp 2) (Operand.const (Value.int IntKind.i64 1)), type := 0, pos := "law.go:72", after := #[], guard := none } : Oper)) (v := ?_) rfl (by kernel_rfl) (by kernel_rfl) (by kernel_rfl) (fun _ _ _ h => h) (Or.inl ⟨by rfl, ?_⟩) (by assumption) ?_
  rotate_left
  · intro w hSw; (try dsimp only at hSw); go_simp <;> with_reducible rfl
  (try simp only [Act.put, List.setIfInBounds_toArray, List.set_cons_zero, List.set_cons_succ])
  refine wpAnyH_take (i := 8) (oi := ({ dst := some 22, op := Op.load 3 (Operand.tmp 21), type := 3, pos := "law.go:72", after := #[{ on := 7, ground := Ground.data }], guard := none } : Oper)) (v := ?_) rfl (by kernel_rfl) (by kernel_rfl) (by kernel_rfl) (fun _ _ _ h => h) (Or.inl ⟨by rfl, ?_⟩) (by assumption) ?_
  rotate_left
  · intro w hSw; (try dsimp only at hSw); go_simp <;> with_reducible rfl
  (try simp only [Act.put, List.setIfInBounds_toArray, List.set_cons_zero, List.set_cons_succ])
  refine wpAnyH_ready (rs := [4]) (by kernel_rfl) (by simp) ?_
  refine AllReadyH.cons (o := ({ dst := some 18, op := Op.call { callee := Callee.value (Operand.func 5), args := #[Operand.tmp 15, Operand.tmp 17], argTypes := #[3, 3] }, type := 28, pos := "law.go:72", after := #[{ on := 1, ground := Ground.data }, { on := 3, ground := Ground.data }], guard := none } : Oper)) rfl (fun K hK => ?_) ?_
  rotate_left
  · exact AllReadyH.nil
  go_simp
  go_at_call 5
  with_reducible refine (K1.out _).mono ?_
  rintro e y0 ⟨rfl, hq0⟩
  have hB0 := below_step hsd hq0
  clear hHeld
  first | (with_reducible refine hK.out _ _ ?_ (fun hHeld => ?_)) | (go_wp2_with fail; with_reducible refine hK.out _ _ ?_ (fun hHeld => ?_))
  · exact ⟨cell_below hB0 c0, cell_below hB0 c1, cell_below hB0 d0, cell_below hB0 d1⟩
  clear hK K
  (try simp only [Act.put, List.setIfInBounds_toArray, List.set_cons_zero, List.set_cons_succ])
  refine wpAnyH_ready (rs := [9]) (by kernel_rfl) (by simp) ?_
  refine AllReadyH.cons (o := ({ dst := some 23, op := Op.call { callee := Callee.value (Operand.func 6), args := #[Operand.tmp 20, Operand.tmp 22], argTypes := #[3, 3] }, type := 28, pos := "law.go:72", after := #[{ on := 6, ground := Ground.data }, { on := 8, ground := Ground.data }, { on := 4, ground := Ground.chain }], guard := none } : Oper)) rfl (fun K hK => ?_) ?_
  rotate_left
  · exact AllReadyH.nil
  go_simp
  go_at_call 6
  with_reducible refine (R1.out _).mono ?_
  rintro e y1 ⟨rfl, hq1⟩
  have hB1 := below_step hB0 hq1
  clear hHeld
  first | (with_reducible refine hK.out _ _ ?_ (fun hHeld => ?_)) | (go_wp2_with fail; with_reducible refine hK.out _ _ ?_ (fun hHeld => ?_))
  · exact ⟨cell_below hB1 c0, cell_below hB1 c1, cell_below hB1 d0, cell_below hB1 d1⟩
  clear hK K
  (try simp only [Act.put, List.setIfInBounds_toArray, List.set_cons_zero, List.set_cons_succ])
  refine wpAnyH_take (i := 10) (oi := ({ dst := some 24, op := Op.binOp BinOp.neq 28 (Operand.tmp 18) (Operand.tmp 23) 28, type := 4, pos := "law.go:72", after := #[{ on := 4, ground := Ground.data }, { on := 9, ground := Ground.data }], guard := none } : Oper)) (v := ?_) rfl (by kernel_rfl) (by kernel_rfl) (by kernel_rfl) (fun _ _ _ h => h) (Or.inl ⟨by rfl, ?_⟩) (by assumption) ?_
  rotate_left
  · intro w hSw; (try dsimp only at hSw); go_simp <;> with_reducible rfl
  (try simp only [Act.put, List.setIfInBounds_toArray, List.set_cons_zero, List.set_cons_succ])
  refine wpAnyH_take (i := 11) (oi := ({ dst := some 25, op := Op.move (Operand.tmp 24), type := 4, pos := "law.go:72", after := #[{ on := 10, ground := Ground.data }, { on := 9, ground := Ground.chain }], guard := none } : Oper)) (v := ?_) rfl (by kernel_rfl) (by kernel_rfl) (by kernel_rfl) (fun _ _ _ h => h) (Or.inl ⟨by rfl, ?_⟩) (by assumption) ?_
  rotate_left
  · intro w hSw; (try dsimp only at hSw); go_simp <;> with_reducible rfl
  (try simp only [Act.put, List.setIfInBounds_toArray, List.set_cons_zero, List.set_cons_succ])
  refine wpAnyH_take (i := 12) (oi := ({ dst := some 26, op := Op.indexAddr 22 (Operand.tmp 2) (Operand.const (Value.int IntKind.i64 0)), type := 0, pos := "law.go:72", after := #[{ on := 11, ground := Ground.guard }], guard := some (11, false) } : Oper)) (v := ?_) rfl (by kernel_rfl) (by kernel_rfl) (by kernel_rfl) (fun _ _ _ h => h) (Or.inl ⟨by rfl, ?_⟩) (by assumption) ?_
  rotate_left
  · intro w hSw; (try dsimp only at hSw); go_simp <;> with_reducible rfl
  (try simp only [Act.put, List.setIfInBounds_toArray, List.set_cons_zero, List.set_cons_succ])
  refine wpAnyH_take (i := 13) (oi := ({ dst := some 27, op := Op.load 3 (Operand.tmp 26), type := 3, pos := "law.go:72", after := #[{ on := 12, ground := Ground.data }, { on := 11, ground := Ground.guard }], guard := some (11, false) } : Oper)) (v := ?_) rfl (by kernel_rfl) (by kernel_rfl) (by kernel_rfl) (fun _ _ _ h => h) (Or.inl ⟨by rfl, ?_⟩) (by assumption) ?_
  rotate_left
  · intro w hSw; (try dsimp only at hSw); go_simp <;> with_reducible rfl
  (try simp only [Act.put, List.setIfInBounds_toArray, List.set_cons_zero, List.set_cons_succ])
  refine wpAnyH_take (i := 14) (oi := ({ dst := some 28, op := Op.indexAddr 22 (Operand.tmp 3) (Operand.const (Value.int IntKind.i64 0)), type := 0, pos := "law.go:72", after := #[{ on := 11, ground := Ground.guard }], guard := some (11, false) } : Oper)) (v := ?_) rfl (by kernel_rfl) (by kernel_rfl) (by kernel_rfl) (fun _ _ _ h => h) (Or.inl ⟨by rfl, ?_⟩) (by assumption) ?_
  rotate_left
  · intro w hSw; (try dsimp only at hSw); go_simp <;> with_reducible rfl
  (try simp only [Act.put, List.setIfInBounds_toArray, List.set_cons_zero, List.set_cons_succ])
  refine wpAnyH_take (i := 15) (oi := ({ dst := some 29, op := Op.load 3 (Operand.tmp 28), type := 3, pos := "law.go:72", after := #[{ on := 14, ground := Ground.data }, { on := 11, ground := Ground.guard }], guard := some (11, false) } : Oper)) (v := ?_) rfl (by kernel_rfl) (by kernel_rfl) (by kernel_rfl) (fun _ _ _ h => h) (Or.inl ⟨by rfl, ?_⟩) (by assumption) ?_
  rotate_left
  · intro w hSw; (try dsimp only at hSw); go_simp <;> with_reducible rfl
  (try simp only [Act.put, List.setIfInBounds_toArray, List.set_cons_zero, List.set_cons_succ])
  refine wpAnyH_take (i := 17) (oi := ({ dst := some 31, op := Op.indexAddr 22 (Operand.tmp 2) (Operand.const (Value.int IntKind.i64 0)), type := 0, pos := "law.go:72", after := #[{ on := 11, ground := Ground.guard }], guard := some (11, false) } : Oper)) (v := ?_) rfl (by kernel_rfl) (by kernel_rfl) (by kernel_rfl) (fun _ _ _ h => h) (Or.inl ⟨by rfl, ?_⟩) (by assumption) ?_
  rotate_left
  · intro w hSw; (try dsimp only at hSw); go_simp <;> with_reducible rfl
  (try simp only [Act.put, List.setIfInBounds_toArray, List.set_cons_zero, List.set_cons_succ])
  refine wpAnyH_take (i := 18) (oi := ({ dst := some 32, op := Op.load 3 (Operand.tmp 31), type := 3, pos := "law.go:72", after := #[{ on := 17, ground := Ground.data }, { on := 11, ground := Ground.guard }], guard := some (11, false) } : Oper)) (v := ?_) rfl (by kernel_rfl) (by kernel_rfl) (by kernel_rfl) (fun _ _ _ h => h) (Or.inl ⟨by rfl, ?_⟩) (by assumption) ?_
  rotate_left
  · intro w hSw; (try dsimp only at hSw); go_simp <;> with_reducible rfl
  (try simp only [Act.put, List.setIfInBounds_toArray, List.set_cons_zero, List.set_cons_succ])
  refine wpAnyH_take (i := 19) (oi := ({ dst := some 33, op := Op.indexAddr 22 (Operand.tmp 3) (Operand.const (Value.int IntKind.i64 0)), type := 0, pos := "law.go:72", after := #[{ on := 11, ground := Ground.guard }], guard := some (11, false) } : Oper)) (v := ?_) rfl (by kernel_rfl) (by kernel_rfl) (by kernel_rfl) (fun _ _ _ h => h) (Or.inl ⟨by rfl, ?_⟩) (by assumption) ?_
  rotate_left
  · intro w hSw; (try dsimp only at hSw); go_simp <;> with_reducible rfl
  (try simp only [Act.put, List.setIfInBounds_toArray, List.set_cons_zero, List.set_cons_succ])
  refine wpAnyH_take (i := 20) (oi := ({ dst := some 34, op := Op.load 3 (Operand.tmp 33), type := 3, pos := "law.go:72", after := #[{ on := 19, ground := Ground.data }, { on := 11, ground := Ground.guard }], guard := some (11, false) } : Oper)) (v := ?_) rfl (by kernel_rfl) (by kernel_rfl) (by kernel_rfl) (fun _ _ _ h => h) (Or.inl ⟨by rfl, ?_⟩) (by assumption) ?_
  rotate_left
  · intro w hSw; (try dsimp only at hSw); go_simp <;> with_reducible rfl
  (try simp only [Act.put, List.setIfInBounds_toArray, List.set_cons_zero, List.set_cons_succ])
  refine wpAnyH_ready (rs := [16]) (by kernel_rfl) (by simp) ?_
  refine AllReadyH.cons (o := ({ dst := some 30, op := Op.call { callee := Callee.value (Operand.func 5), args := #[Operand.tmp 27, Operand.tmp 29], argTypes := #[3, 3] }, type := 28, pos := "law.go:72", after := #[{ on := 13, ground := Ground.data }, { on := 15, ground := Ground.data }, { on := 11, ground := Ground.chain }, { on := 11, ground := Ground.guard }], guard := some (11, false) } : Oper)) rfl (fun K hK => ?_) ?_
  rotate_left
  · exact AllReadyH.nil
  go_simp
  go_at_call 5
  with_reducible refine (K2.out _).mono ?_
  rintro e y2 ⟨rfl, hq2⟩
  have hB2 := below_step hB1 hq2
  clear hHeld
  first | (with_reducible refine hK.out _ _ ?_ (fun hHeld => ?_)) | (go_wp2_with fail; with_reducible refine hK.out _ _ ?_ (fun hHeld => ?_))
  · exact ⟨cell_below hB2 c0, cell_below hB2 c1, cell_below hB2 d0, cell_below hB2 d1⟩
  clear hK K
  (try simp only [Act.put, List.setIfInBounds_toArray, List.set_cons_zero, List.set_cons_succ])
  refine wpAnyH_ready (rs := [21]) (by kernel_rfl) (by simp) ?_
  refine AllReadyH.cons (o := ({ dst := some 35, op := Op.call { callee := Callee.value (Operand.func 6), args := #[Operand.tmp 32, Operand.tmp 34], argTypes := #[3, 3] }, type := 28, pos := "law.go:72", after := #[{ on := 18, ground := Ground.data }, { on := 20, ground := Ground.data }, { on := 16, ground := Ground.chain }, { on := 11, ground := Ground.guard }], guard := some (11, false) } : Oper)) rfl (fun K hK => ?_) ?_
  rotate_left
  · exact AllReadyH.nil
  go_simp
  go_at_call 6
  with_reducible refine (R2.out _).mono ?_
  rintro e y3 ⟨rfl, hq3⟩
  have hB3 := below_step hB2 hq3
  clear hHeld
  first | (with_reducible refine hK.out _ _ ?_ (fun hHeld => ?_)) | (go_wp2_with fail; with_reducible refine hK.out _ _ ?_ (fun hHeld => ?_))
  · exact ⟨cell_below hB3 c0, cell_below hB3 c1, cell_below hB3 d0, cell_below hB3 d1⟩
  clear hK K
  (try simp only [Act.put, List.setIfInBounds_toArray, List.set_cons_zero, List.set_cons_succ])
  refine wpAnyH_take (i := 22) (oi := ({ dst := some 36, op := Op.binOp BinOp.neq 28 (Operand.tmp 30) (Operand.tmp 35) 28, type := 4, pos := "law.go:72", after := #[{ on := 16, ground := Ground.data }, { on := 21, ground := Ground.data }, { on := 11, ground := Ground.guard }], guard := some (11, false) } : Oper)) (v := ?_) rfl (by kernel_rfl) (by kernel_rfl) (by kernel_rfl) (fun _ _ _ h => h) (Or.inl ⟨by rfl, ?_⟩) (by assumption) ?_
  rotate_left
  · intro w hSw; (try dsimp only at hSw); go_simp <;> with_reducible rfl
  (try simp only [Act.put, List.setIfInBounds_toArray, List.set_cons_zero, List.set_cons_succ])
  refine wpAnyH_take (i := 23) (oi := ({ dst := some 37, op := Op.pick (Operand.tmp 25) (Operand.const (Value.bool true)) (Operand.tmp 36), type := 4, pos := "law.go:72", after := #[{ on := 11, ground := Ground.data }, { on := 22, ground := Ground.data }], guard := none } : Oper)) (v := ?_) rfl (by kernel_rfl) (by kernel_rfl) (by kernel_rfl) (fun _ _ _ h => h) (Or.inl ⟨by rfl, ?_⟩) (by assumption) ?_
  rotate_left
  · intro w hSw; (try dsimp only at hSw); go_simp <;> with_reducible rfl
  (try simp only [Act.put, List.setIfInBounds_toArray, List.set_cons_zero, List.set_cons_succ])
  refine wpAnyH_take (i := 24) (oi := ({ dst := some 38, op := Op.move (Operand.tmp 37), type := 4, pos := "law.go:72", after := #[{ on := 23, ground := Ground.data }, { on := 21, ground := Ground.chain }], guard := none } : Oper)) (v := ?_) rfl (by kernel_rfl) (by kernel_rfl) (by kernel_rfl) (fun _ _ _ h => h) (Or.inl ⟨by rfl, ?_⟩) (by assumption) ?_
  rotate_left
  · intro w hSw; (try dsimp only at hSw); go_simp <;> with_reducible rfl
  (try simp only [Act.put, List.setIfInBounds_toArray, List.set_cons_zero, List.set_cons_succ])
  refine wpAnyH_take (i := 25) (oi := ({ dst := some 39, op := Op.indexAddr 22 (Operand.tmp 2) (Operand.const (Value.int IntKind.i64 0)), type := 0, pos := "law.go:72", after := #[{ on := 24, ground := Ground.guard }], guard := some (24, false) } : Oper)) (v := ?_) rfl (by kernel_rfl) (by kernel_rfl) (by kernel_rfl) (fun _ _ _ h => h) (Or.inl ⟨by rfl, ?_⟩) (by assumption) ?_
  rotate_left
  · intro w hSw; (try dsimp only at hSw); go_simp <;> with_reducible rfl
  (try simp only [Act.put, List.setIfInBounds_toArray, List.set_cons_zero, List.set_cons_succ])
  refine wpAnyH_take (i := 26) (oi := ({ dst := some 40, op := Op.load 3 (Operand.tmp 39), type := 3, pos := "law.go:72", after := #[{ on := 25, ground := Ground.data }, { on := 24, ground := Ground.guard }], guard := some (24, false) } : Oper)) (v := ?_) rfl (by kernel_rfl) (by kernel_rfl) (by kernel_rfl) (fun _ _ _ h => h) (Or.inl ⟨by rfl, ?_⟩) (by assumption) ?_
  rotate_left
  · intro w hSw; (try dsimp only at hSw); go_simp <;> with_reducible rfl
  (try simp only [Act.put, List.setIfInBounds_toArray, List.set_cons_zero, List.set_cons_succ])
  refine wpAnyH_take (i := 27) (oi := ({ dst := some 41, op := Op.indexAddr 22 (Operand.tmp 2) (Operand.const (Value.int IntKind.i64 1)), type := 0, pos := "law.go:72", after := #[{ on := 24, ground := Ground.guard }], guard := some (24, false) } : Oper)) (v := ?_) rfl (by kernel_rfl) (by kernel_rfl) (by kernel_rfl) (fun _ _ _ h => h) (Or.inl ⟨by rfl, ?_⟩) (by assumption) ?_
  rotate_left
  · intro w hSw; (try dsimp only at hSw); go_simp <;> with_reducible rfl
  (try simp only [Act.put, List.setIfInBounds_toArray, List.set_cons_zero, List.set_cons_succ])
  refine wpAnyH_take (i := 28) (oi := ({ dst := some 42, op := Op.load 3 (Operand.tmp 41), type := 3, pos := "law.go:72", after := #[{ on := 27, ground := Ground.data }, { on := 24, ground := Ground.guard }], guard := some (24, false) } : Oper)) (v := ?_) rfl (by kernel_rfl) (by kernel_rfl) (by kernel_rfl) (fun _ _ _ h => h) (Or.inl ⟨by rfl, ?_⟩) (by assumption) ?_
  rotate_left
  · intro w hSw; (try dsimp only at hSw); go_simp <;> with_reducible rfl
  (try simp only [Act.put, List.setIfInBounds_toArray, List.set_cons_zero, List.set_cons_succ])
  refine wpAnyH_take (i := 29) (oi := ({ dst := some 43, op := Op.build 25 #[(0, Operand.tmp 40), (1, Operand.tmp 42)], type := 25, pos := "law.go:72", after := #[{ on := 26, ground := Ground.data }, { on := 28, ground := Ground.data }, { on := 24, ground := Ground.guard }], guard := some (24, false) } : Oper)) (v := ?_) rfl (by kernel_rfl) (by kernel_rfl) (by kernel_rfl) (fun _ _ _ h => h) (Or.inl ⟨by rfl, ?_⟩) (by assumption) ?_
  rotate_left
  · intro w hSw; (try dsimp only at hSw); go_simp <;> with_reducible rfl
  (try simp only [Act.put, List.setIfInBounds_toArray, List.set_cons_zero, List.set_cons_succ])
  refine wpAnyH_take (i := 31) (oi := ({ dst := some 45, op := Op.indexAddr 22 (Operand.tmp 2) (Operand.const (Value.int IntKind.i64 0)), type := 0, pos := "law.go:72", after := #[{ on := 24, ground := Ground.guard }], guard := some (24, false) } : Oper)) (v := ?_) rfl (by kernel_rfl) (by kernel_rfl) (by kernel_rfl) (fun _ _ _ h => h) (Or.inl ⟨by rfl, ?_⟩) (by assumption) ?_
  rotate_left
  · intro w hSw; (try dsimp only at hSw); go_simp <;> with_reducible rfl
  (try simp only [Act.put, List.setIfInBounds_toArray, List.set_cons_zero, List.set_cons_succ])
  refine wpAnyH_take (i := 32) (oi := ({ dst := some 46, op := Op.load 3 (Operand.tmp 45), type := 3, pos := "law.go:72", after := #[{ on := 31, ground := Ground.data }, { on := 24, ground := Ground.guard }], guard := some (24, false) } : Oper)) (v := ?_) rfl (by kernel_rfl) (by kernel_rfl) (by kernel_rfl) (fun _ _ _ h => h) (Or.inl ⟨by rfl, ?_⟩) (by assumption) ?_
  rotate_left
  · intro w hSw; (try dsimp only at hSw); go_simp <;> with_reducible rfl
  (try simp only [Act.put, List.setIfInBounds_toArray, List.set_cons_zero, List.set_cons_succ])
  refine wpAnyH_take (i := 33) (oi := ({ dst := some 47, op := Op.indexAddr 22 (Operand.tmp 2) (Operand.const (Value.int IntKind.i64 1)), type := 0, pos := "law.go:72", after := #[{ on := 24, ground := Ground.guard }], guard := some (24, false) } : Oper)) (v := ?_) rfl (by kernel_rfl) (by kernel_rfl) (by kernel_rfl) (fun _ _ _ h => h) (Or.inl ⟨by rfl, ?_⟩) (by assumption) ?_
  rotate_left
  · intro w hSw; (try dsimp only at hSw); go_simp <;> with_reducible rfl
  (try simp only [Act.put, List.setIfInBounds_toArray, List.set_cons_zero, List.set_cons_succ])
  refine wpAnyH_take (i := 34) (oi := ({ dst := some 48, op := Op.load 3 (Operand.tmp 47), type := 3, pos := "law.go:72", after := #[{ on := 33, ground := Ground.data }, { on := 24, ground := Ground.guard }], guard := some (24, false) } : Oper)) (v := ?_) rfl (by kernel_rfl) (by kernel_rfl) (by kernel_rfl) (fun _ _ _ h => h) (Or.inl ⟨by rfl, ?_⟩) (by assumption) ?_
  rotate_left
  · intro w hSw; (try dsimp only at hSw); go_simp <;> with_reducible rfl
  (try simp only [Act.put, List.setIfInBounds_toArray, List.set_cons_zero, List.set_cons_succ])
  refine wpAnyH_take (i := 35) (oi := ({ dst := some 49, op := Op.build 25 #[(0, Operand.tmp 46), (1, Operand.tmp 48)], type := 25, pos := "law.go:72", after := #[{ on := 32, ground := Ground.data }, { on := 34, ground := Ground.data }, { on := 24, ground := Ground.guard }], guard := some (24, false) } : Oper)) (v := ?_) rfl (by kernel_rfl) (by kernel_rfl) (by kernel_rfl) (fun _ _ _ h => h) (Or.inl ⟨by rfl, ?_⟩) (by assumption) ?_
  rotate_left
  · intro w hSw; (try dsimp only at hSw); go_simp <;> with_reducible rfl
  (try simp only [Act.put, List.setIfInBounds_toArray, List.set_cons_zero, List.set_cons_succ])
  refine wpAnyH_ready (rs := [30]) (by kernel_rfl) (by simp) ?_
  refine AllReadyH.cons (o := ({ dst := some 44, op := Op.call { callee := Callee.value (Operand.func 7), args := #[Operand.tmp 43], argTypes := #[25] }, type := 4, pos := "law.go:72", after := #[{ on := 29, ground := Ground.data }, { on := 24, ground := Ground.chain }, { on := 24, ground := Ground.guard }], guard := some (24, false) } : Oper)) rfl (fun K hK => ?_) ?_
  rotate_left
  · exact AllReadyH.nil
  go_simp
  go_at_call 7
  with_reducible refine (V1.out _).mono ?_
  rintro e y4 ⟨rfl, hq4⟩
  have hB4 := below_step hB3 hq4
  clear hHeld
  first | (with_reducible refine hK.out _ _ ?_ (fun hHeld => ?_)) | (go_wp2_with fail; with_reducible refine hK.out _ _ ?_ (fun hHeld => ?_))
  · exact ⟨cell_below hB4 c0, cell_below hB4 c1, cell_below hB4 d0, cell_below hB4 d1⟩
  clear hK K
  (try simp only [Act.put, List.setIfInBounds_toArray, List.set_cons_zero, List.set_cons_succ])
  refine wpAnyH_ready (rs := [36]) (by kernel_rfl) (by simp) ?_
  refine AllReadyH.cons (o := ({ dst := some 50, op := Op.call { callee := Callee.value (Operand.func 8), args := #[Operand.tmp 49], argTypes := #[25] }, type := 4, pos := "law.go:72", after := #[{ on := 35, ground := Ground.data }, { on := 30, ground := Ground.chain }, { on := 24, ground := Ground.guard }], guard := some (24, false) } : Oper)) rfl (fun K hK => ?_) ?_
  rotate_left
  · exact AllReadyH.nil
  go_simp
  go_at_call 8
  with_reducible refine (V2.out _).mono ?_
  rintro e y5 ⟨rfl, hq5⟩
  have hB5 := below_step hB4 hq5
  clear hHeld
  first | (with_reducible refine hK.out _ _ ?_ (fun hHeld => ?_)) | (go_wp2_with fail; with_reducible refine hK.out _ _ ?_ (fun hHeld => ?_))
  · exact ⟨cell_below hB5 c0, cell_below hB5 c1, cell_below hB5 d0, cell_below hB5 d1⟩
  clear hK K
  (try simp only [Act.put, List.setIfInBounds_toArray, List.set_cons_zero, List.set_cons_succ])
  refine wpAnyH_take (i := 37) (oi := ({ dst := some 51, op := Op.binOp BinOp.neq 4 (Operand.tmp 44) (Operand.tmp 50) 4, type := 4, pos := "law.go:72", after := #[{ on := 30, ground := Ground.data }, { on := 36, ground := Ground.data }, { on := 24, ground := Ground.guard }], guard := some (24, false) } : Oper)) (v := ?_) rfl (by kernel_rfl) (by kernel_rfl) (by kernel_rfl) (fun _ _ _ h => h) (Or.inl ⟨by rfl, ?_⟩) (by assumption) ?_
  rotate_left
  · intro w hSw; (try dsimp only at hSw); go_simp <;> with_reducible rfl
  (try simp only [Act.put, List.setIfInBounds_toArray, List.set_cons_zero, List.set_cons_succ])
  refine wpAnyH_take (i := 38) (oi := ({ dst := some 52, op := Op.pick (Operand.tmp 38) (Operand.const (Value.bool true)) (Operand.tmp 51), type := 4, pos := "law.go:72", after := #[{ on := 24, ground := Ground.data }, { on := 37, ground := Ground.data }], guard := none } : Oper)) (v := ?_) rfl (by kernel_rfl) (by kernel_rfl) (by kernel_rfl) (fun _ _ _ h => h) (Or.inl ⟨by rfl, ?_⟩) (by assumption) ?_
  rotate_left
  · intro w hSw; (try dsimp only at hSw); go_simp <;> with_reducible rfl
  (try simp only [Act.put, List.setIfInBounds_toArray, List.set_cons_zero, List.set_cons_succ])
  refine wpAnyH_done (by kernel_rfl) ?_ _
  have B2 := hid (below_step B1.out hB5)
  clear hHeld c0 c1 d0 d1
  obtain ⟨c0, c1, d0, d1⟩ := PK.out _ B2.out
  go_wp2_with fail
  refine (made_any xa xb HXY.out.1 HXY.out.2.1 _).mono ?_
  rintro e w2 ⟨aN, aD, ha, rfl, hb⟩
  have HA := hid ha
  have B3 := hid (below_step B2.out hb)
  clear ha hb c0 c1 d0 d1
  obtain ⟨c0, c1, d0, d1⟩ := PK.out _ (below_a B3.out (.cells #[.int .i64 aN, .int .i64 aD] 25))
  go_wp2_with fail
  refine (made_any ya yb HXY.out.2.2.1 HXY.out.2.2.2 _).mono ?_
  rintro e w3 ⟨bN, bD, hb', rfl, hb⟩
  have HB := hid hb'
  have XA := hid ((box2_new w2 (.int .i64 aN) (.int .i64 aD) 25).below (below_a hb (.cells #[.int .i64 bN, .int .i64 bD] 25)))
  have XB := hid (box2_new w3 (.int .i64 bN) (.int .i64 bD) 25)
  have B4 := hid (below_step (below_a B3.out (.cells #[.int .i64 aN, .int .i64 aD] 25)) (below_a hb (.cells #[.int .i64 bN, .int .i64 bD] 25)))
  clear hb' hb c0 c1 d0 d1
  obtain ⟨nb7, hnb7⟩ : ∃ n, w3.heap.size = n := ⟨_, rfl⟩
  obtain ⟨na6, hna6⟩ : ∃ n, w2.heap.size = n := ⟨_, rfl⟩
  go_upto_region 8 with fail
  obtain ⟨W4, hW4⟩ : ∃ W4, w3.alloc (.cells #[.int .i64 bN, .int .i64 bD] 25) = W4 := ⟨_, rfl⟩
  rw [hW4] at XA XB B4 ⊢
  rw [hnb7] at XB
  rw [hna6] at XA
  (try rw [hnb7])
  (try rw [hna6])
  clear hW4 hnb7 hna6
  obtain ⟨c0, c1, d0, d1⟩ := PK.out _ B4.out
  obtain ⟨a0, a1, -, -, -⟩ := XA.out
  obtain ⟨b0, b1, -, -, -⟩ := XB.out
  have hse := (Below.refl W4.heap.size W4).drew
  refine wp_region_held_drew (S := fun W' => (W'.cell? ⟨na6, 0, none⟩ = some (.int .i64 aN) ∧ W'.cell? ⟨na6, 1, none⟩ = some (.int .i64 aD) ∧ W'.cell? ⟨nb7, 0, none⟩ = some (.int .i64 bN) ∧ W'.cell? ⟨nb7, 1, none⟩ = some (.int .i64 bD) ∧ W'.cell? ⟨w.heap.size, 0, none⟩ = some (.int .i64 xa) ∧ W'.cell? ⟨w.heap.size + 1, 1, none⟩ = some (.int .i64 yb))) (by kernel_rfl) ?_ (fun hHeld => ?_)
  · exact ⟨a0, a1, b0, b1, c0, d1⟩
  refine wpAnyH_take (i := 0) (oi := ({ dst := some 63, op := Op.load 25 (Operand.tmp 6), type := 25, pos := "law.go:77", after := #[], guard := none } : Oper)) (v := ?_) rfl (by kernel_rfl) (by kernel_rfl) (by kernel_rfl) (fun _ _ _ h => h) (Or.inl ⟨by rfl, ?_⟩) (by assumption) ?_
  rotate_left
  · intro w hSw; (try dsimp only at hSw); go_simp <;> with_reducible rfl
  (try simp only [Act.put, List.setIfInBounds_toArray, List.set_cons_zero, List.set_cons_succ])
  refine wpAnyH_take (i := 1) (oi := ({ dst := some 64, op := Op.load 25 (Operand.tmp 7), type := 25, pos := "law.go:77", after := #[], guard := none } : Oper)) (v := ?_) rfl (by kernel_rfl) (by kernel_rfl) (by kernel_rfl) (fun _ _ _ h => h) (Or.inl ⟨by rfl, ?_⟩) (by assumption) ?_
  rotate_left
  · intro w hSw; (try dsimp only at hSw); go_simp <;> with_reducible rfl
  (try simp only [Act.put, List.setIfInBounds_toArray, List.set_cons_zero, List.set_cons_succ])
  refine wpAnyH_take (i := 2) (oi := ({ dst := some 65, op := Op.load 25 (Operand.tmp 6), type := 25, pos := "law.go:77", after := #[], guard := none } : Oper)) (v := ?_) rfl (by kernel_rfl) (by kernel_rfl) (by kernel_rfl) (fun _ _ _ h => h) (Or.inl ⟨by rfl, ?_⟩) (by assumption) ?_
  rotate_left
  · intro w hSw; (try dsimp only at hSw); go_simp <;> with_reducible rfl
  (try simp only [Act.put, List.setIfInBounds_toArray, List.set_cons_zero, List.set_cons_succ])
  refine wpAnyH_take (i := 3) (oi := ({ dst := some 66, op := Op.indexAddr 22 (Operand.tmp 3) (Operand.const (Value.int IntKind.i64 1)), type := 0, pos := "law.go:77", after := #[], guard := none } : Oper)) (v := ?_) rfl (by kernel_rfl) (by kernel_rfl) (by kernel_rfl) (fun _ _ _ h => h) (Or.inl ⟨by rfl, ?_⟩) (by assumption) ?_
  rotate_left
  · intro w hSw; (try dsimp only at hSw); go_simp <;> with_reducible rfl
  (try simp only [Act.put, List.setIfInBounds_toArray, List.set_cons_zero, List.set_cons_succ])
  refine wpAnyH_take (i := 4) (oi := ({ dst := some 67, op := Op.load 3 (Operand.tmp 66), type := 3, pos := "law.go:77", after := #[{ on := 3, ground := Ground.data }], guard := none } : Oper)) (v := ?_) rfl (by kernel_rfl) (by kernel_rfl) (by kernel_rfl) (fun _ _ _ h => h) (Or.inl ⟨by rfl, ?_⟩) (by assumption) ?_
  rotate_left
  · intro w hSw; (try dsimp only at hSw); go_simp <;> with_reducible rfl
  (try simp only [Act.put, List.setIfInBounds_toArray, List.set_cons_zero, List.set_cons_succ])
  refine wpAnyH_take (i := 5) (oi := ({ dst := some 68, op := Op.indexAddr 22 (Operand.tmp 2) (Operand.const (Value.int IntKind.i64 0)), type := 0, pos := "law.go:77", after := #[], guard := none } : Oper)) (v := ?_) rfl (by kernel_rfl) (by kernel_rfl) (by kernel_rfl) (fun _ _ _ h => h) (Or.inl ⟨by rfl, ?_⟩) (by assumption) ?_
  rotate_left
  · intro w hSw; (try dsimp only at hSw); go_simp <;> with_reducible rfl
  (try simp only [Act.put, List.setIfInBounds_toArray, List.set_cons_zero, List.set_cons_succ])
  refine wpAnyH_take (i := 6) (oi := ({ dst := some 69, op := Op.load 3 (Operand.tmp 68), type := 3, pos := "law.go:77", after := #[{ on := 5, ground := Ground.data }], guard := none } : Oper)) (v := ?_) rfl (by kernel_rfl) (by kernel_rfl) (by kernel_rfl) (fun _ _ _ h => h) (Or.inl ⟨by rfl, ?_⟩) (by assumption) ?_
  rotate_left
  · intro w hSw; (try dsimp only at hSw); go_simp <;> with_reducible rfl
  (try simp only [Act.put, List.setIfInBounds_toArray, List.set_cons_zero, List.set_cons_succ])
  refine wpAnyH_ready (rs := [7]) (by kernel_rfl) (by simp) ?_
  refine AllReadyH.cons (o := ({ dst := some 70, op := Op.call { callee := Callee.value (Operand.func 9), args := #[Operand.tmp 67, Operand.tmp 69], argTypes := #[3, 3] }, type := 25, pos := "law.go:77", after := #[{ on := 4, ground := Ground.data }, { on := 6, ground := Ground.data }], guard := none } : Oper)) rfl (fun K hK => ?_) ?_
  rotate_left
  · exact AllReadyH.nil
  go_simp
  go_at_call 9
  with_reducible refine (made_any yb xa HXY.out.2.2.2 HXY.out.1 _).mono ?_
  rintro e y0 ⟨cN, cD, hc, rfl, hq0⟩
  have hB0 := below_step hse hq0
  clear hHeld
  first | (with_reducible refine hK.out _ _ ?_ (fun hHeld => ?_)) | (go_wp2_with fail; with_reducible refine hK.out _ _ ?_ (fun hHeld => ?_))
  · exact ⟨cell_below hB0 a0, cell_below hB0 a1, cell_below hB0 b0, cell_below hB0 b1, cell_below hB0 c0, cell_below hB0 d1⟩
  clear hK K
  (try simp only [Act.put, List.setIfInBounds_toArray, List.set_cons_zero, List.set_cons_succ])
  refine wpAnyH_ready (rs := [8]) (by kernel_rfl) (by simp) ?_
  refine AllReadyH.cons (o := ({ dst := some 71, op := Op.buildSlice 32 4 #[(0, Operand.tmp 63), (1, Operand.tmp 64), (2, Operand.tmp 65), (3, Operand.tmp 70)], type := 32, pos := "law.go:77", after := #[{ on := 0, ground := Ground.data }, { on := 1, ground := Ground.data }, { on := 2, ground := Ground.data }, { on := 7, ground := Ground.data }], guard := none } : Oper)) rfl (fun K hK => ?_) ?_
  rotate_left
  · exact AllReadyH.nil
  go_simp
  have hM1 := below_a hB0 (.cells #[.int .i64 aN, .int .i64 aD, .int .i64 bN, .int .i64 bD, .int .i64 aN, .int .i64 aD, .int .i64 cN, .int .i64 cD] 25)
  clear hHeld
  first | (with_reducible refine hK.out _ _ ?_ (fun hHeld => ?_)) | (go_wp2_with fail; with_reducible refine hK.out _ _ ?_ (fun hHeld => ?_))
  · exact ⟨cell_below hM1 a0, cell_below hM1 a1, cell_below hM1 b0, cell_below hM1 b1, cell_below hM1 c0, cell_below hM1 d1⟩
  clear hK K
  (try simp only [Act.put, List.setIfInBounds_toArray, List.set_cons_zero, List.set_cons_succ])
  refine wpAnyH_take (i := 9) (oi := ({ dst := some 8, op := Op.assign (Operand.tmp 71), type := 32, pos := "law.go:77", after := #[{ on := 8, ground := Ground.data }, { on := 7, ground := Ground.chain }, { on := 0, ground := Ground.phase }, { on := 1, ground := Ground.phase }, { on := 2, ground := Ground.phase }, { on := 3, ground := Ground.phase }, { on := 4, ground := Ground.phase }, { on := 5, ground := Ground.phase }, { on := 6, ground := Ground.phase }, { on := 7, ground := Ground.phase }, { on := 8, ground := Ground.phase }], guard := none } : Oper)) (v := ?_) rfl (by kernel_rfl) (by kernel_rfl) (by kernel_rfl) (fun _ _ _ h => h) (Or.inl ⟨by rfl, ?_⟩) (by assumption) ?_
  rotate_left
  · intro w hSw; (try dsimp only at hSw); go_simp <;> with_reducible rfl
  (try simp only [Act.put, List.setIfInBounds_toArray, List.set_cons_zero, List.set_cons_succ])
  refine wpAnyH_done (by kernel_rfl) ?_ _
  have HCC := hid hc
  obtain ⟨nl, hnl⟩ : ∃ n, y0.heap.size = n := ⟨_, rfl⟩
  obtain ⟨W5, hW5⟩ : ∃ W5, y0.alloc (.cells #[.int .i64 aN, .int .i64 aD, .int .i64 bN, .int .i64 bD, .int .i64 aN, .int .i64 aD, .int .i64 cN, .int .i64 cD] 25) = W5 := ⟨_, rfl⟩
  have FR := hid (show FracsAt W5 [(aN, aD), (bN, bD), (aN, aD), (cN, cD)] nl 0 by rw [← hW5, ← hnl]; exact fracs4 (heap_new _ _))
  have hb45 : Below W4.heap.size W4 W5 := by rw [← hW5]; exact hM1
  have B5 := hid (below_step B4.out hb45)
  have XA5 := hid (XA.out.below hb45)
  have XB5 := hid (XB.out.below hb45)
  rw [hW5]
  (try rw [hnl])
  have LF : ∀ p ∈ ([(aN, aD), (bN, bD), (aN, aD), (cN, cD)] : List (Int × Int)), Fr p.1 p.2 := by
    intro p hp
    simp only [List.mem_cons, List.not_mem_nil, or_false] at hp
    rcases hp with rfl | rfl | rfl | rfl
    · exact HA.out
    · exact HB.out
    · exact HA.out
    · exact hc
  have TL := hid (show ∀ (W : World), FracsAt W [(aN, aD), (bN, bD), (aN, aD), (cN, cD)] nl 0 → Calls Tryz.prog 20 #[.slice (some ⟨nl, 0, none⟩) 4 4] W fun e w' => e = .returned (.agg #[.int .i64 (sumN [(aN, aD), (bN, bD), (aN, aD), (cN, cD)]), .int .i64 (sumD [(aN, aD), (bN, bD), (aN, aD), (cN, cD)]), .int .i64 (sumE [(aN, aD), (bN, bD), (aN, aD), (cN, cD)])]) ∧ Below W.heap.size W w' from fun W h => total_lies [(aN, aD), (bN, bD), (aN, aD), (cN, cD)] nl 0 4 W (Nat.le_refl _) (by simp) h LF)
  have SL := hid (show ∀ (W : World), FracsAt W [(aN, aD), (bN, bD), (aN, aD), (cN, cD)] nl 0 → Calls Tryz.prog 21 #[.slice (some ⟨nl, 0, none⟩) 4 4] W fun e w' => e = .returned (.agg #[.int .i64 (sumN [(aN, aD), (bN, bD), (aN, aD), (cN, cD)]), .int .i64 (sumD [(aN, aD), (bN, bD), (aN, aD), (cN, cD)]), .int .i64 (sumE [(aN, aD), (bN, bD), (aN, aD), (cN, cD)])]) ∧ Below W.heap.size W w' from fun W h => sumin_any [(aN, aD), (bN, bD), (aN, aD), (cN, cD)] nl 0 4 W (Nat.le_refl _) (by simp) h LF)
  obtain ⟨TN, hTN⟩ : ∃ N, sumN [(aN, aD), (bN, bD), (aN, aD), (cN, cD)] = N := ⟨_, rfl⟩
  obtain ⟨TD, hTD⟩ : ∃ N, sumD [(aN, aD), (bN, bD), (aN, aD), (cN, cD)] = N := ⟨_, rfl⟩
  obtain ⟨TE, hTE⟩ : ∃ N, sumE [(aN, aD), (bN, bD), (aN, aD), (cN, cD)] = N := ⟨_, rfl⟩
  rw [hTN, hTD, hTE] at TL SL
  obtain ⟨AN, AD, AE, hTA⟩ := trip_ex (Rat.divInt aN aD + Rat.divInt bN bD)
  obtain ⟨SN, SD, SE, hTS⟩ := trip_ex (Rat.divInt aN aD - Rat.divInt bN bD)
  obtain ⟨MN, MD, ME, hTM⟩ := trip_ex (Rat.divInt aN aD * Rat.divInt bN bD)
  have A1 := hid (fun w => addT HA.out HB.out hTA w)
  have A2 := hid (fun w => fr3_trip hTA ▸ addin_any HA.out HB.out w)
  have S1 := hid (fun w => subT HA.out HB.out hTS w)
  have S2 := hid (fun w => fr3_trip hTS ▸ subin_any HA.out HB.out w)
  have M1 := hid (fun w => mulT HA.out HB.out hTM w)
  have M2 := hid (fun w => fr3_trip hTM ▸ mulin_any HA.out HB.out w)
  obtain ⟨VN, VD, VE, hV1, hV2⟩ := div_both HA.out HB.out
  have D1 := hid hV1
  have D2 := hid hV2
  have C1 := hid (fun w => cmpF HA.out HB.out w)
  have C2 := hid (fun w => rcmp_any HA.out HB.out w)
  obtain ⟨zc, hzc⟩ : ∃ z, cmpV (Rat.divInt aN aD) (Rat.divInt bN bD) = z := ⟨_, rfl⟩
  rw [hzc] at C1 C2
  clear hc hW5 hnl LF hTN hTD hTE hTA hTS hTM hV1 hV2 hzc a0 a1 b0 b1 c0 c1 d0 d1 hHeld hb45
  obtain ⟨a0, a1, -, -, -⟩ := XA5.out
  obtain ⟨b0, b1, -, -, -⟩ := XB5.out
  have hsf := (Below.refl W5.heap.size W5).drew
  go_upto_region 9 with fail
  refine wp_region_held_drew (S := fun W' => (W'.cell? ⟨na6, 0, none⟩ = some (.int .i64 aN) ∧ W'.cell? ⟨na6, 1, none⟩ = some (.int .i64 aD) ∧ W'.cell? ⟨nb7, 0, none⟩ = some (.int .i64 bN) ∧ W'.cell? ⟨nb7, 1, none⟩ = some (.int .i64 bD))) (by kernel_rfl) ?_ (fun hHeld => ?_)
  · exact ⟨a0, a1, b0, b1⟩
  refine wpAnyH_take (i := 0) (oi := ({ dst := some 72, op := Op.load 25 (Operand.tmp 6), type := 25, pos := "law.go:78", after := #[], guard := none } : Oper)) (v := ?_) rfl (by kernel_rfl) (by kernel_rfl) (by kernel_rfl) (fun _ _ _ h => h) (Or.inl ⟨by rfl, ?_⟩) (by assumption) ?_
  rotate_left
  · intro w hSw; (try dsimp only at hSw); go_simp <;> with_reducible rfl
  (try simp only [Act.put, List.setIfInBounds_toArray, List.set_cons_zero, List.set_cons_succ])
  refine wpAnyH_take (i := 1) (oi := ({ dst := some 73, op := Op.load 25 (Operand.tmp 7), type := 25, pos := "law.go:78", after := #[], guard := none } : Oper)) (v := ?_) rfl (by kernel_rfl) (by kernel_rfl) (by kernel_rfl) (fun _ _ _ h => h) (Or.inl ⟨by rfl, ?_⟩) (by assumption) ?_
  rotate_left
  · intro w hSw; (try dsimp only at hSw); go_simp <;> with_reducible rfl
  (try simp only [Act.put, List.setIfInBounds_toArray, List.set_cons_zero, List.set_cons_succ])
  refine wpAnyH_take (i := 3) (oi := ({ dst := some 75, op := Op.load 25 (Operand.tmp 6), type := 25, pos := "law.go:78", after := #[], guard := none } : Oper)) (v := ?_) rfl (by kernel_rfl) (by kernel_rfl) (by kernel_rfl) (fun _ _ _ h => h) (Or.inl ⟨by rfl, ?_⟩) (by assumption) ?_
  rotate_left
  · intro w hSw; (try dsimp only at hSw); go_simp <;> with_reducible rfl
  (try simp only [Act.put, List.setIfInBounds_toArray, List.set_cons_zero, List.set_cons_succ])
  refine wpAnyH_take (i := 4) (oi := ({ dst := some 76, op := Op.load 25 (Operand.tmp 7), type := 25, pos := "law.go:78", after := #[], guard := none } : Oper)) (v := ?_) rfl (by kernel_rfl) (by kernel_rfl) (by kernel_rfl) (fun _ _ _ h => h) (Or.inl ⟨by rfl, ?_⟩) (by assumption) ?_
  rotate_left
  · intro w hSw; (try dsimp only at hSw); go_simp <;> with_reducible rfl
  (try simp only [Act.put, List.setIfInBounds_toArray, List.set_cons_zero, List.set_cons_succ])
  refine wpAnyH_ready (rs := [2]) (by kernel_rfl) (by simp) ?_
  refine AllReadyH.cons (o := ({ dst := some 74, op := Op.call { callee := Callee.value (Operand.func 10), args := #[Operand.tmp 72, Operand.tmp 73], argTypes := #[25, 25] }, type := 28, pos := "law.go:78", after := #[{ on := 0, ground := Ground.data }, { on := 1, ground := Ground.data }], guard := none } : Oper)) rfl (fun K hK => ?_) ?_
  rotate_left
  · exact AllReadyH.nil
  go_simp
  go_at_call 10
  with_reducible refine (A1.out _).mono ?_
  rintro e y0 ⟨rfl, hq0⟩
  have hB0 := below_step hsf hq0
  clear hHeld
  first | (with_reducible refine hK.out _ _ ?_ (fun hHeld => ?_)) | (go_wp2_with fail; with_reducible refine hK.out _ _ ?_ (fun hHeld => ?_))
  · exact ⟨cell_below hB0 a0, cell_below hB0 a1, cell_below hB0 b0, cell_below hB0 b1⟩
  clear hK K
  (try simp only [Act.put, List.setIfInBounds_toArray, List.set_cons_zero, List.set_cons_succ])
  refine wpAnyH_ready (rs := [5]) (by kernel_rfl) (by simp) ?_
  refine AllReadyH.cons (o := ({ dst := some 77, op := Op.call { callee := Callee.value (Operand.func 11), args := #[Operand.tmp 75, Operand.tmp 76], argTypes := #[25, 25] }, type := 28, pos := "law.go:78", after := #[{ on := 3, ground := Ground.data }, { on := 4, ground := Ground.data }, { on := 2, ground := Ground.chain }], guard := none } : Oper)) rfl (fun K hK => ?_) ?_
  rotate_left
  · exact AllReadyH.nil
  go_simp
  go_at_call 11
  with_reducible refine (A2.out _).mono ?_
  rintro e y1 ⟨rfl, hq1⟩
  have hB1 := below_step hB0 hq1
  clear hHeld
  first | (with_reducible refine hK.out _ _ ?_ (fun hHeld => ?_)) | (go_wp2_with fail; with_reducible refine hK.out _ _ ?_ (fun hHeld => ?_))
  · exact ⟨cell_below hB1 a0, cell_below hB1 a1, cell_below hB1 b0, cell_below hB1 b1⟩
  clear hK K
  (try simp only [Act.put, List.setIfInBounds_toArray, List.set_cons_zero, List.set_cons_succ])
  refine wpAnyH_take (i := 6) (oi := ({ dst := some 78, op := Op.binOp BinOp.neq 28 (Operand.tmp 74) (Operand.tmp 77) 28, type := 4, pos := "law.go:78", after := #[{ on := 2, ground := Ground.data }, { on := 5, ground := Ground.data }], guard := none } : Oper)) (v := ?_) rfl (by kernel_rfl) (by kernel_rfl) (by kernel_rfl) (fun _ _ _ h => h) (Or.inl ⟨by rfl, ?_⟩) (by assumption) ?_
  rotate_left
  · intro w hSw; (try dsimp only at hSw); go_simp <;> with_reducible rfl
  (try simp only [Act.put, List.setIfInBounds_toArray, List.set_cons_zero, List.set_cons_succ])
  refine wpAnyH_take (i := 7) (oi := ({ dst := some 79, op := Op.move (Operand.tmp 78), type := 4, pos := "law.go:78", after := #[{ on := 6, ground := Ground.data }, { on := 5, ground := Ground.chain }], guard := none } : Oper)) (v := ?_) rfl (by kernel_rfl) (by kernel_rfl) (by kernel_rfl) (fun _ _ _ h => h) (Or.inl ⟨by rfl, ?_⟩) (by assumption) ?_
  rotate_left
  · intro w hSw; (try dsimp only at hSw); go_simp <;> with_reducible rfl
  (try simp only [Act.put, List.setIfInBounds_toArray, List.set_cons_zero, List.set_cons_succ])
  refine wpAnyH_take (i := 8) (oi := ({ dst := some 80, op := Op.load 25 (Operand.tmp 6), type := 25, pos := "law.go:78", after := #[{ on := 7, ground := Ground.guard }], guard := some (7, false) } : Oper)) (v := ?_) rfl (by kernel_rfl) (by kernel_rfl) (by kernel_rfl) (fun _ _ _ h => h) (Or.inl ⟨by rfl, ?_⟩) (by assumption) ?_
  rotate_left
  · intro w hSw; (try dsimp only at hSw); go_simp <;> with_reducible rfl
  (try simp only [Act.put, List.setIfInBounds_toArray, List.set_cons_zero, List.set_cons_succ])
  refine wpAnyH_take (i := 9) (oi := ({ dst := some 81, op := Op.load 25 (Operand.tmp 7), type := 25, pos := "law.go:78", after := #[{ on := 7, ground := Ground.guard }], guard := some (7, false) } : Oper)) (v := ?_) rfl (by kernel_rfl) (by kernel_rfl) (by kernel_rfl) (fun _ _ _ h => h) (Or.inl ⟨by rfl, ?_⟩) (by assumption) ?_
  rotate_left
  · intro w hSw; (try dsimp only at hSw); go_simp <;> with_reducible rfl
  (try simp only [Act.put, List.setIfInBounds_toArray, List.set_cons_zero, List.set_cons_succ])
  refine wpAnyH_take (i := 11) (oi := ({ dst := some 83, op := Op.load 25 (Operand.tmp 6), type := 25, pos := "law.go:78", after := #[{ on := 7, ground := Ground.guard }], guard := some (7, false) } : Oper)) (v := ?_) rfl (by kernel_rfl) (by kernel_rfl) (by kernel_rfl) (fun _ _ _ h => h) (Or.inl ⟨by rfl, ?_⟩) (by assumption) ?_
  rotate_left
  · intro w hSw; (try dsimp only at hSw); go_simp <;> with_reducible rfl
  (try simp only [Act.put, List.setIfInBounds_toArray, List.set_cons_zero, List.set_cons_succ])
  refine wpAnyH_take (i := 12) (oi := ({ dst := some 84, op := Op.load 25 (Operand.tmp 7), type := 25, pos := "law.go:78", after := #[{ on := 7, ground := Ground.guard }], guard := some (7, false) } : Oper)) (v := ?_) rfl (by kernel_rfl) (by kernel_rfl) (by kernel_rfl) (fun _ _ _ h => h) (Or.inl ⟨by rfl, ?_⟩) (by assumption) ?_
  rotate_left
  · intro w hSw; (try dsimp only at hSw); go_simp <;> with_reducible rfl
  (try simp only [Act.put, List.setIfInBounds_toArray, List.set_cons_zero, List.set_cons_succ])
  refine wpAnyH_ready (rs := [10]) (by kernel_rfl) (by simp) ?_
  refine AllReadyH.cons (o := ({ dst := some 82, op := Op.call { callee := Callee.value (Operand.func 12), args := #[Operand.tmp 80, Operand.tmp 81], argTypes := #[25, 25] }, type := 28, pos := "law.go:78", after := #[{ on := 8, ground := Ground.data }, { on := 9, ground := Ground.data }, { on := 7, ground := Ground.chain }, { on := 7, ground := Ground.guard }], guard := some (7, false) } : Oper)) rfl (fun K hK => ?_) ?_
  rotate_left
  · exact AllReadyH.nil
  go_simp
  go_at_call 12
  with_reducible refine (S1.out _).mono ?_
  rintro e y2 ⟨rfl, hq2⟩
  have hB2 := below_step hB1 hq2
  clear hHeld
  first | (with_reducible refine hK.out _ _ ?_ (fun hHeld => ?_)) | (go_wp2_with fail; with_reducible refine hK.out _ _ ?_ (fun hHeld => ?_))
  · exact ⟨cell_below hB2 a0, cell_below hB2 a1, cell_below hB2 b0, cell_below hB2 b1⟩
  clear hK K
  (try simp only [Act.put, List.setIfInBounds_toArray, List.set_cons_zero, List.set_cons_succ])
  refine wpAnyH_ready (rs := [13]) (by kernel_rfl) (by simp) ?_
  refine AllReadyH.cons (o := ({ dst := some 85, op := Op.call { callee := Callee.value (Operand.func 13), args := #[Operand.tmp 83, Operand.tmp 84], argTypes := #[25, 25] }, type := 28, pos := "law.go:78", after := #[{ on := 11, ground := Ground.data }, { on := 12, ground := Ground.data }, { on := 10, ground := Ground.chain }, { on := 7, ground := Ground.guard }], guard := some (7, false) } : Oper)) rfl (fun K hK => ?_) ?_
  rotate_left
  · exact AllReadyH.nil
  go_simp
  go_at_call 13
  with_reducible refine (S2.out _).mono ?_
  rintro e y3 ⟨rfl, hq3⟩
  have hB3 := below_step hB2 hq3
  clear hHeld
  first | (with_reducible refine hK.out _ _ ?_ (fun hHeld => ?_)) | (go_wp2_with fail; with_reducible refine hK.out _ _ ?_ (fun hHeld => ?_))
  · exact ⟨cell_below hB3 a0, cell_below hB3 a1, cell_below hB3 b0, cell_below hB3 b1⟩
  clear hK K
  (try simp only [Act.put, List.setIfInBounds_toArray, List.set_cons_zero, List.set_cons_succ])
  refine wpAnyH_take (i := 14) (oi := ({ dst := some 86, op := Op.binOp BinOp.neq 28 (Operand.tmp 82) (Operand.tmp 85) 28, type := 4, pos := "law.go:78", after := #[{ on := 10, ground := Ground.data }, { on := 13, ground := Ground.data }, { on := 7, ground := Ground.guard }], guard := some (7, false) } : Oper)) (v := ?_) rfl (by kernel_rfl) (by kernel_rfl) (by kernel_rfl) (fun _ _ _ h => h) (Or.inl ⟨by rfl, ?_⟩) (by assumption) ?_
  rotate_left
  · intro w hSw; (try dsimp only at hSw); go_simp <;> with_reducible rfl
  (try simp only [Act.put, List.setIfInBounds_toArray, List.set_cons_zero, List.set_cons_succ])
  refine wpAnyH_take (i := 15) (oi := ({ dst := some 87, op := Op.pick (Operand.tmp 79) (Operand.const (Value.bool true)) (Operand.tmp 86), type := 4, pos := "law.go:78", after := #[{ on := 7, ground := Ground.data }, { on := 14, ground := Ground.data }], guard := none } : Oper)) (v := ?_) rfl (by kernel_rfl) (by kernel_rfl) (by kernel_rfl) (fun _ _ _ h => h) (Or.inl ⟨by rfl, ?_⟩) (by assumption) ?_
  rotate_left
  · intro w hSw; (try dsimp only at hSw); go_simp <;> with_reducible rfl
  (try simp only [Act.put, List.setIfInBounds_toArray, List.set_cons_zero, List.set_cons_succ])
  refine wpAnyH_take (i := 16) (oi := ({ dst := some 88, op := Op.move (Operand.tmp 87), type := 4, pos := "law.go:78", after := #[{ on := 15, ground := Ground.data }, { on := 13, ground := Ground.chain }], guard := none } : Oper)) (v := ?_) rfl (by kernel_rfl) (by kernel_rfl) (by kernel_rfl) (fun _ _ _ h => h) (Or.inl ⟨by rfl, ?_⟩) (by assumption) ?_
  rotate_left
  · intro w hSw; (try dsimp only at hSw); go_simp <;> with_reducible rfl
  (try simp only [Act.put, List.setIfInBounds_toArray, List.set_cons_zero, List.set_cons_succ])
  refine wpAnyH_take (i := 17) (oi := ({ dst := some 89, op := Op.load 25 (Operand.tmp 6), type := 25, pos := "law.go:78", after := #[{ on := 16, ground := Ground.guard }], guard := some (16, false) } : Oper)) (v := ?_) rfl (by kernel_rfl) (by kernel_rfl) (by kernel_rfl) (fun _ _ _ h => h) (Or.inl ⟨by rfl, ?_⟩) (by assumption) ?_
  rotate_left
  · intro w hSw; (try dsimp only at hSw); go_simp <;> with_reducible rfl
  (try simp only [Act.put, List.setIfInBounds_toArray, List.set_cons_zero, List.set_cons_succ])
  refine wpAnyH_take (i := 18) (oi := ({ dst := some 90, op := Op.load 25 (Operand.tmp 7), type := 25, pos := "law.go:78", after := #[{ on := 16, ground := Ground.guard }], guard := some (16, false) } : Oper)) (v := ?_) rfl (by kernel_rfl) (by kernel_rfl) (by kernel_rfl) (fun _ _ _ h => h) (Or.inl ⟨by rfl, ?_⟩) (by assumption) ?_
  rotate_left
  · intro w hSw; (try dsimp only at hSw); go_simp <;> with_reducible rfl
  (try simp only [Act.put, List.setIfInBounds_toArray, List.set_cons_zero, List.set_cons_succ])
  refine wpAnyH_take (i := 20) (oi := ({ dst := some 92, op := Op.load 25 (Operand.tmp 6), type := 25, pos := "law.go:78", after := #[{ on := 16, ground := Ground.guard }], guard := some (16, false) } : Oper)) (v := ?_) rfl (by kernel_rfl) (by kernel_rfl) (by kernel_rfl) (fun _ _ _ h => h) (Or.inl ⟨by rfl, ?_⟩) (by assumption) ?_
  rotate_left
  · intro w hSw; (try dsimp only at hSw); go_simp <;> with_reducible rfl
  (try simp only [Act.put, List.setIfInBounds_toArray, List.set_cons_zero, List.set_cons_succ])
  refine wpAnyH_take (i := 21) (oi := ({ dst := some 93, op := Op.load 25 (Operand.tmp 7), type := 25, pos := "law.go:78", after := #[{ on := 16, ground := Ground.guard }], guard := some (16, false) } : Oper)) (v := ?_) rfl (by kernel_rfl) (by kernel_rfl) (by kernel_rfl) (fun _ _ _ h => h) (Or.inl ⟨by rfl, ?_⟩) (by assumption) ?_
  rotate_left
  · intro w hSw; (try dsimp only at hSw); go_simp <;> with_reducible rfl
  (try simp only [Act.put, List.setIfInBounds_toArray, List.set_cons_zero, List.set_cons_succ])
  refine wpAnyH_ready (rs := [19]) (by kernel_rfl) (by simp) ?_
  refine AllReadyH.cons (o := ({ dst := some 91, op := Op.call { callee := Callee.value (Operand.func 14), args := #[Operand.tmp 89, Operand.tmp 90], argTypes := #[25, 25] }, type := 28, pos := "law.go:78", after := #[{ on := 17, ground := Ground.data }, { on := 18, ground := Ground.data }, { on := 16, ground := Ground.chain }, { on := 16, ground := Ground.guard }], guard := some (16, false) } : Oper)) rfl (fun K hK => ?_) ?_
  rotate_left
  · exact AllReadyH.nil
  go_simp
  go_at_call 14
  with_reducible refine (M1.out _).mono ?_
  rintro e y4 ⟨rfl, hq4⟩
  have hB4 := below_step hB3 hq4
  clear hHeld
  first | (with_reducible refine hK.out _ _ ?_ (fun hHeld => ?_)) | (go_wp2_with fail; with_reducible refine hK.out _ _ ?_ (fun hHeld => ?_))
  · exact ⟨cell_below hB4 a0, cell_below hB4 a1, cell_below hB4 b0, cell_below hB4 b1⟩
  clear hK K
  (try simp only [Act.put, List.setIfInBounds_toArray, List.set_cons_zero, List.set_cons_succ])
  refine wpAnyH_ready (rs := [22]) (by kernel_rfl) (by simp) ?_
  refine AllReadyH.cons (o := ({ dst := some 94, op := Op.call { callee := Callee.value (Operand.func 15), args := #[Operand.tmp 92, Operand.tmp 93], argTypes := #[25, 25] }, type := 28, pos := "law.go:78", after := #[{ on := 20, ground := Ground.data }, { on := 21, ground := Ground.data }, { on := 19, ground := Ground.chain }, { on := 16, ground := Ground.guard }], guard := some (16, false) } : Oper)) rfl (fun K hK => ?_) ?_
  rotate_left
  · exact AllReadyH.nil
  go_simp
  go_at_call 15
  with_reducible refine (M2.out _).mono ?_
  rintro e y5 ⟨rfl, hq5⟩
  have hB5 := below_step hB4 hq5
  clear hHeld
  first | (with_reducible refine hK.out _ _ ?_ (fun hHeld => ?_)) | (go_wp2_with fail; with_reducible refine hK.out _ _ ?_ (fun hHeld => ?_))
  · exact ⟨cell_below hB5 a0, cell_below hB5 a1, cell_below hB5 b0, cell_below hB5 b1⟩
  clear hK K
  (try simp only [Act.put, List.setIfInBounds_toArray, List.set_cons_zero, List.set_cons_succ])
  refine wpAnyH_take (i := 23) (oi := ({ dst := some 95, op := Op.binOp BinOp.neq 28 (Operand.tmp 91) (Operand.tmp 94) 28, type := 4, pos := "law.go:78", after := #[{ on := 19, ground := Ground.data }, { on := 22, ground := Ground.data }, { on := 16, ground := Ground.guard }], guard := some (16, false) } : Oper)) (v := ?_) rfl (by kernel_rfl) (by kernel_rfl) (by kernel_rfl) (fun _ _ _ h => h) (Or.inl ⟨by rfl, ?_⟩) (by assumption) ?_
  rotate_left
  · intro w hSw; (try dsimp only at hSw); go_simp <;> with_reducible rfl
  (try simp only [Act.put, List.setIfInBounds_toArray, List.set_cons_zero, List.set_cons_succ])
  refine wpAnyH_take (i := 24) (oi := ({ dst := some 96, op := Op.pick (Operand.tmp 88) (Operand.const (Value.bool true)) (Operand.tmp 95), type := 4, pos := "law.go:78", after := #[{ on := 16, ground := Ground.data }, { on := 23, ground := Ground.data }], guard := none } : Oper)) (v := ?_) rfl (by kernel_rfl) (by kernel_rfl) (by kernel_rfl) (fun _ _ _ h => h) (Or.inl ⟨by rfl, ?_⟩) (by assumption) ?_
  rotate_left
  · intro w hSw; (try dsimp only at hSw); go_simp <;> with_reducible rfl
  (try simp only [Act.put, List.setIfInBounds_toArray, List.set_cons_zero, List.set_cons_succ])
  refine wpAnyH_take (i := 25) (oi := ({ dst := some 97, op := Op.move (Operand.tmp 96), type := 4, pos := "law.go:78", after := #[{ on := 24, ground := Ground.data }, { on := 22, ground := Ground.chain }], guard := none } : Oper)) (v := ?_) rfl (by kernel_rfl) (by kernel_rfl) (by kernel_rfl) (fun _ _ _ h => h) (Or.inl ⟨by rfl, ?_⟩) (by assumption) ?_
  rotate_left
  · intro w hSw; (try dsimp only at hSw); go_simp <;> with_reducible rfl
  (try simp only [Act.put, List.setIfInBounds_toArray, List.set_cons_zero, List.set_cons_succ])
  refine wpAnyH_take (i := 26) (oi := ({ dst := some 98, op := Op.load 25 (Operand.tmp 6), type := 25, pos := "law.go:78", after := #[{ on := 25, ground := Ground.guard }], guard := some (25, false) } : Oper)) (v := ?_) rfl (by kernel_rfl) (by kernel_rfl) (by kernel_rfl) (fun _ _ _ h => h) (Or.inl ⟨by rfl, ?_⟩) (by assumption) ?_
  rotate_left
  · intro w hSw; (try dsimp only at hSw); go_simp <;> with_reducible rfl
  (try simp only [Act.put, List.setIfInBounds_toArray, List.set_cons_zero, List.set_cons_succ])
  refine wpAnyH_take (i := 27) (oi := ({ dst := some 99, op := Op.load 25 (Operand.tmp 7), type := 25, pos := "law.go:78", after := #[{ on := 25, ground := Ground.guard }], guard := some (25, false) } : Oper)) (v := ?_) rfl (by kernel_rfl) (by kernel_rfl) (by kernel_rfl) (fun _ _ _ h => h) (Or.inl ⟨by rfl, ?_⟩) (by assumption) ?_
  rotate_left
  · intro w hSw; (try dsimp only at hSw); go_simp <;> with_reducible rfl
  (try simp only [Act.put, List.setIfInBounds_toArray, List.set_cons_zero, List.set_cons_succ])
  refine wpAnyH_take (i := 29) (oi := ({ dst := some 101, op := Op.load 25 (Operand.tmp 6), type := 25, pos := "law.go:78", after := #[{ on := 25, ground := Ground.guard }], guard := some (25, false) } : Oper)) (v := ?_) rfl (by kernel_rfl) (by kernel_rfl) (by kernel_rfl) (fun _ _ _ h => h) (Or.inl ⟨by rfl, ?_⟩) (by assumption) ?_
  rotate_left
  · intro w hSw; (try dsimp only at hSw); go_simp <;> with_reducible rfl
  (try simp only [Act.put, List.setIfInBounds_toArray, List.set_cons_zero, List.set_cons_succ])
  refine wpAnyH_take (i := 30) (oi := ({ dst := some 102, op := Op.load 25 (Operand.tmp 7), type := 25, pos := "law.go:78", after := #[{ on := 25, ground := Ground.guard }], guard := some (25, false) } : Oper)) (v := ?_) rfl (by kernel_rfl) (by kernel_rfl) (by kernel_rfl) (fun _ _ _ h => h) (Or.inl ⟨by rfl, ?_⟩) (by assumption) ?_
  rotate_left
  · intro w hSw; (try dsimp only at hSw); go_simp <;> with_reducible rfl
  (try simp only [Act.put, List.setIfInBounds_toArray, List.set_cons_zero, List.set_cons_succ])
  refine wpAnyH_ready (rs := [28]) (by kernel_rfl) (by simp) ?_
  refine AllReadyH.cons (o := ({ dst := some 100, op := Op.call { callee := Callee.value (Operand.func 16), args := #[Operand.tmp 98, Operand.tmp 99], argTypes := #[25, 25] }, type := 28, pos := "law.go:78", after := #[{ on := 26, ground := Ground.data }, { on := 27, ground := Ground.data }, { on := 25, ground := Ground.chain }, { on := 25, ground := Ground.guard }], guard := some (25, false) } : Oper)) rfl (fun K hK => ?_) ?_
  rotate_left
  · exact AllReadyH.nil
  go_simp
  go_at_call 16
  with_reducible refine (D1.out _).mono ?_
  rintro e y6 ⟨rfl, hq6⟩
  have hB6 := below_step hB5 hq6
  clear hHeld
  first | (with_reducible refine hK.out _ _ ?_ (fun hHeld => ?_)) | (go_wp2_with fail; with_reducible refine hK.out _ _ ?_ (fun hHeld => ?_))
  · exact ⟨cell_below hB6 a0, cell_below hB6 a1, cell_below hB6 b0, cell_below hB6 b1⟩
  clear hK K
  (try simp only [Act.put, List.setIfInBounds_toArray, List.set_cons_zero, List.set_cons_succ])
  refine wpAnyH_ready (rs := [31]) (by kernel_rfl) (by simp) ?_
  refine AllReadyH.cons (o := ({ dst := some 103, op := Op.call { callee := Callee.value (Operand.func 17), args := #[Operand.tmp 101, Operand.tmp 102], argTypes := #[25, 25] }, type := 28, pos := "law.go:78", after := #[{ on := 29, ground := Ground.data }, { on := 30, ground := Ground.data }, { on := 28, ground := Ground.chain }, { on := 25, ground := Ground.guard }], guard := some (25, false) } : Oper)) rfl (fun K hK => ?_) ?_
  rotate_left
  · exact AllReadyH.nil
  go_simp
  go_at_call 17
  with_reducible refine (D2.out _).mono ?_
  rintro e y7 ⟨rfl, hq7⟩
  have hB7 := below_step hB6 hq7
  clear hHeld
  first | (with_reducible refine hK.out _ _ ?_ (fun hHeld => ?_)) | (go_wp2_with fail; with_reducible refine hK.out _ _ ?_ (fun hHeld => ?_))
  · exact ⟨cell_below hB7 a0, cell_below hB7 a1, cell_below hB7 b0, cell_below hB7 b1⟩
  clear hK K
  (try simp only [Act.put, List.setIfInBounds_toArray, List.set_cons_zero, List.set_cons_succ])
  refine wpAnyH_take (i := 32) (oi := ({ dst := some 104, op := Op.binOp BinOp.neq 28 (Operand.tmp 100) (Operand.tmp 103) 28, type := 4, pos := "law.go:78", after := #[{ on := 28, ground := Ground.data }, { on := 31, ground := Ground.data }, { on := 25, ground := Ground.guard }], guard := some (25, false) } : Oper)) (v := ?_) rfl (by kernel_rfl) (by kernel_rfl) (by kernel_rfl) (fun _ _ _ h => h) (Or.inl ⟨by rfl, ?_⟩) (by assumption) ?_
  rotate_left
  · intro w hSw; (try dsimp only at hSw); go_simp <;> with_reducible rfl
  (try simp only [Act.put, List.setIfInBounds_toArray, List.set_cons_zero, List.set_cons_succ])
  refine wpAnyH_take (i := 33) (oi := ({ dst := some 105, op := Op.pick (Operand.tmp 97) (Operand.const (Value.bool true)) (Operand.tmp 104), type := 4, pos := "law.go:78", after := #[{ on := 25, ground := Ground.data }, { on := 32, ground := Ground.data }], guard := none } : Oper)) (v := ?_) rfl (by kernel_rfl) (by kernel_rfl) (by kernel_rfl) (fun _ _ _ h => h) (Or.inl ⟨by rfl, ?_⟩) (by assumption) ?_
  rotate_left
  · intro w hSw; (try dsimp only at hSw); go_simp <;> with_reducible rfl
  (try simp only [Act.put, List.setIfInBounds_toArray, List.set_cons_zero, List.set_cons_succ])
  refine wpAnyH_take (i := 34) (oi := ({ dst := some 106, op := Op.move (Operand.tmp 105), type := 4, pos := "law.go:78", after := #[{ on := 33, ground := Ground.data }, { on := 31, ground := Ground.chain }], guard := none } : Oper)) (v := ?_) rfl (by kernel_rfl) (by kernel_rfl) (by kernel_rfl) (fun _ _ _ h => h) (Or.inl ⟨by rfl, ?_⟩) (by assumption) ?_
  rotate_left
  · intro w hSw; (try dsimp only at hSw); go_simp <;> with_reducible rfl
  (try simp only [Act.put, List.setIfInBounds_toArray, List.set_cons_zero, List.set_cons_succ])
  refine wpAnyH_take (i := 35) (oi := ({ dst := some 107, op := Op.load 25 (Operand.tmp 6), type := 25, pos := "law.go:78", after := #[{ on := 34, ground := Ground.guard }], guard := some (34, false) } : Oper)) (v := ?_) rfl (by kernel_rfl) (by kernel_rfl) (by kernel_rfl) (fun _ _ _ h => h) (Or.inl ⟨by rfl, ?_⟩) (by assumption) ?_
  rotate_left
  · intro w hSw; (try dsimp only at hSw); go_simp <;> with_reducible rfl
  (try simp only [Act.put, List.setIfInBounds_toArray, List.set_cons_zero, List.set_cons_succ])
  refine wpAnyH_take (i := 36) (oi := ({ dst := some 108, op := Op.load 25 (Operand.tmp 7), type := 25, pos := "law.go:78", after := #[{ on := 34, ground := Ground.guard }], guard := some (34, false) } : Oper)) (v := ?_) rfl (by kernel_rfl) (by kernel_rfl) (by kernel_rfl) (fun _ _ _ h => h) (Or.inl ⟨by rfl, ?_⟩) (by assumption) ?_
  rotate_left
  · intro w hSw; (try dsimp only at hSw); go_simp <;> with_reducible rfl
  (try simp only [Act.put, List.setIfInBounds_toArray, List.set_cons_zero, List.set_cons_succ])
  refine wpAnyH_take (i := 38) (oi := ({ dst := some 110, op := Op.load 25 (Operand.tmp 6), type := 25, pos := "law.go:78", after := #[{ on := 34, ground := Ground.guard }], guard := some (34, false) } : Oper)) (v := ?_) rfl (by kernel_rfl) (by kernel_rfl) (by kernel_rfl) (fun _ _ _ h => h) (Or.inl ⟨by rfl, ?_⟩) (by assumption) ?_
  rotate_left
  · intro w hSw; (try dsimp only at hSw); go_simp <;> with_reducible rfl
  (try simp only [Act.put, List.setIfInBounds_toArray, List.set_cons_zero, List.set_cons_succ])
  refine wpAnyH_take (i := 39) (oi := ({ dst := some 111, op := Op.load 25 (Operand.tmp 7), type := 25, pos := "law.go:78", after := #[{ on := 34, ground := Ground.guard }], guard := some (34, false) } : Oper)) (v := ?_) rfl (by kernel_rfl) (by kernel_rfl) (by kernel_rfl) (fun _ _ _ h => h) (Or.inl ⟨by rfl, ?_⟩) (by assumption) ?_
  rotate_left
  · intro w hSw; (try dsimp only at hSw); go_simp <;> with_reducible rfl
  (try simp only [Act.put, List.setIfInBounds_toArray, List.set_cons_zero, List.set_cons_succ])
  refine wpAnyH_ready (rs := [37]) (by kernel_rfl) (by simp) ?_
  refine AllReadyH.cons (o := ({ dst := some 109, op := Op.call { callee := Callee.value (Operand.func 18), args := #[Operand.tmp 107, Operand.tmp 108], argTypes := #[25, 25] }, type := 3, pos := "law.go:78", after := #[{ on := 35, ground := Ground.data }, { on := 36, ground := Ground.data }, { on := 34, ground := Ground.chain }, { on := 34, ground := Ground.guard }], guard := some (34, false) } : Oper)) rfl (fun K hK => ?_) ?_
  rotate_left
  · exact AllReadyH.nil
  go_simp
  go_at_call 18
  with_reducible refine (C1.out _).mono ?_
  rintro e y8 ⟨rfl, hq8⟩
  have hB8 := below_step hB7 hq8
  clear hHeld
  first | (with_reducible refine hK.out _ _ ?_ (fun hHeld => ?_)) | (go_wp2_with fail; with_reducible refine hK.out _ _ ?_ (fun hHeld => ?_))
  · exact ⟨cell_below hB8 a0, cell_below hB8 a1, cell_below hB8 b0, cell_below hB8 b1⟩
  clear hK K
  (try simp only [Act.put, List.setIfInBounds_toArray, List.set_cons_zero, List.set_cons_succ])
  refine wpAnyH_ready (rs := [40]) (by kernel_rfl) (by simp) ?_
  refine AllReadyH.cons (o := ({ dst := some 112, op := Op.call { callee := Callee.value (Operand.func 19), args := #[Operand.tmp 110, Operand.tmp 111], argTypes := #[25, 25] }, type := 3, pos := "law.go:78", after := #[{ on := 38, ground := Ground.data }, { on := 39, ground := Ground.data }, { on := 37, ground := Ground.chain }, { on := 34, ground := Ground.guard }], guard := some (34, false) } : Oper)) rfl (fun K hK => ?_) ?_
  rotate_left
  · exact AllReadyH.nil
  go_simp
  go_at_call 19
  with_reducible refine (C2.out _).mono ?_
  rintro e y9 ⟨rfl, hq9⟩
  have hB9 := below_step hB8 hq9
  clear hHeld
  first | (with_reducible refine hK.out _ _ ?_ (fun hHeld => ?_)) | (go_wp2_with fail; with_reducible refine hK.out _ _ ?_ (fun hHeld => ?_))
  · exact ⟨cell_below hB9 a0, cell_below hB9 a1, cell_below hB9 b0, cell_below hB9 b1⟩
  clear hK K
  (try simp only [Act.put, List.setIfInBounds_toArray, List.set_cons_zero, List.set_cons_succ])
  refine wpAnyH_take (i := 41) (oi := ({ dst := some 113, op := Op.binOp BinOp.neq 3 (Operand.tmp 109) (Operand.tmp 112) 3, type := 4, pos := "law.go:78", after := #[{ on := 37, ground := Ground.data }, { on := 40, ground := Ground.data }, { on := 34, ground := Ground.guard }], guard := some (34, false) } : Oper)) (v := ?_) rfl (by kernel_rfl) (by kernel_rfl) (by kernel_rfl) (fun _ _ _ h => h) (Or.inl ⟨by rfl, ?_⟩) (by assumption) ?_
  rotate_left
  · intro w hSw; (try dsimp only at hSw); go_simp <;> with_reducible rfl
  (try simp only [Act.put, List.setIfInBounds_toArray, List.set_cons_zero, List.set_cons_succ])
  refine wpAnyH_take (i := 42) (oi := ({ dst := some 114, op := Op.pick (Operand.tmp 106) (Operand.const (Value.bool true)) (Operand.tmp 113), type := 4, pos := "law.go:78", after := #[{ on := 34, ground := Ground.data }, { on := 41, ground := Ground.data }], guard := none } : Oper)) (v := ?_) rfl (by kernel_rfl) (by kernel_rfl) (by kernel_rfl) (fun _ _ _ h => h) (Or.inl ⟨by rfl, ?_⟩) (by assumption) ?_
  rotate_left
  · intro w hSw; (try dsimp only at hSw); go_simp <;> with_reducible rfl
  (try simp only [Act.put, List.setIfInBounds_toArray, List.set_cons_zero, List.set_cons_succ])
  refine wpAnyH_take (i := 43) (oi := ({ dst := some 115, op := Op.move (Operand.tmp 114), type := 4, pos := "law.go:78", after := #[{ on := 42, ground := Ground.data }, { on := 40, ground := Ground.chain }], guard := none } : Oper)) (v := ?_) rfl (by kernel_rfl) (by kernel_rfl) (by kernel_rfl) (fun _ _ _ h => h) (Or.inl ⟨by rfl, ?_⟩) (by assumption) ?_
  rotate_left
  · intro w hSw; (try dsimp only at hSw); go_simp <;> with_reducible rfl
  (try simp only [Act.put, List.setIfInBounds_toArray, List.set_cons_zero, List.set_cons_succ])
  refine wpAnyH_take (i := 44) (oi := ({ dst := some 116, op := Op.move (Operand.tmp 8), type := 32, pos := "law.go:78", after := #[{ on := 43, ground := Ground.guard }], guard := some (43, false) } : Oper)) (v := ?_) rfl (by kernel_rfl) (by kernel_rfl) (by kernel_rfl) (fun _ _ _ h => h) (Or.inl ⟨by rfl, ?_⟩) (by assumption) ?_
  rotate_left
  · intro w hSw; (try dsimp only at hSw); go_simp <;> with_reducible rfl
  (try simp only [Act.put, List.setIfInBounds_toArray, List.set_cons_zero, List.set_cons_succ])
  refine wpAnyH_take (i := 46) (oi := ({ dst := some 118, op := Op.move (Operand.tmp 8), type := 32, pos := "law.go:78", after := #[{ on := 43, ground := Ground.guard }], guard := some (43, false) } : Oper)) (v := ?_) rfl (by kernel_rfl) (by kernel_rfl) (by kernel_rfl) (fun _ _ _ h => h) (Or.inl ⟨by rfl, ?_⟩) (by assumption) ?_
  rotate_left
  · intro w hSw; (try dsimp only at hSw); go_simp <;> with_reducible rfl
  (try simp only [Act.put, List.setIfInBounds_toArray, List.set_cons_zero, List.set_cons_succ])
  refine wpAnyH_ready (rs := [45]) (by kernel_rfl) (by simp) ?_
  refine AllReadyH.cons (o := ({ dst := some 117, op := Op.call { callee := Callee.value (Operand.func 20), args := #[Operand.tmp 116], argTypes := #[32] }, type := 28, pos := "law.go:78", after := #[{ on := 44, ground := Ground.data }, { on := 43, ground := Ground.chain }, { on := 43, ground := Ground.guard }], guard := some (43, false) } : Oper)) rfl (fun K hK => ?_) ?_
  rotate_left
  · exact AllReadyH.nil
  go_simp
  go_at_call 20
  with_reducible refine (TL.out _ (FR.out.below hB9)).mono ?_
  rintro e y10 ⟨rfl, hq10⟩
  have hB10 := below_step hB9 hq10
  clear hHeld
  first | (with_reducible refine hK.out _ _ ?_ (fun hHeld => ?_)) | (go_wp2_with fail; with_reducible refine hK.out _ _ ?_ (fun hHeld => ?_))
  · exact ⟨cell_below hB10 a0, cell_below hB10 a1, cell_below hB10 b0, cell_below hB10 b1⟩
  clear hK K
  (try simp only [Act.put, List.setIfInBounds_toArray, List.set_cons_zero, List.set_cons_succ])
  refine wpAnyH_ready (rs := [47]) (by kernel_rfl) (by simp) ?_
  refine AllReadyH.cons (o := ({ dst := some 119, op := Op.call { callee := Callee.value (Operand.func 21), args := #[Operand.tmp 118], argTypes := #[32] }, type := 28, pos := "law.go:78", after := #[{ on := 46, ground := Ground.data }, { on := 45, ground := Ground.chain }, { on := 43, ground := Ground.guard }], guard := some (43, false) } : Oper)) rfl (fun K hK => ?_) ?_
  rotate_left
  · exact AllReadyH.nil
  go_simp
  go_at_call 21
  with_reducible refine (SL.out _ (FR.out.below hB10)).mono ?_
  rintro e y11 ⟨rfl, hq11⟩
  have hB11 := below_step hB10 hq11
  clear hHeld
  first | (with_reducible refine hK.out _ _ ?_ (fun hHeld => ?_)) | (go_wp2_with fail; with_reducible refine hK.out _ _ ?_ (fun hHeld => ?_))
  · exact ⟨cell_below hB11 a0, cell_below hB11 a1, cell_below hB11 b0, cell_below hB11 b1⟩
  clear hK K
  (try simp only [Act.put, List.setIfInBounds_toArray, List.set_cons_zero, List.set_cons_succ])
  refine wpAnyH_take (i := 48) (oi := ({ dst := some 120, op := Op.binOp BinOp.neq 28 (Operand.tmp 117) (Operand.tmp 119) 28, type := 4, pos := "law.go:78", after := #[{ on := 45, ground := Ground.data }, { on := 47, ground := Ground.data }, { on := 43, ground := Ground.guard }], guard := some (43, false) } : Oper)) (v := ?_) rfl (by kernel_rfl) (by kernel_rfl) (by kernel_rfl) (fun _ _ _ h => h) (Or.inl ⟨by rfl, ?_⟩) (by assumption) ?_
  rotate_left
  · intro w hSw; (try dsimp only at hSw); go_simp <;> with_reducible rfl
  (try simp only [Act.put, List.setIfInBounds_toArray, List.set_cons_zero, List.set_cons_succ])
  refine wpAnyH_take (i := 49) (oi := ({ dst := some 121, op := Op.pick (Operand.tmp 115) (Operand.const (Value.bool true)) (Operand.tmp 120), type := 4, pos := "law.go:78", after := #[{ on := 43, ground := Ground.data }, { on := 48, ground := Ground.data }], guard := none } : Oper)) (v := ?_) rfl (by kernel_rfl) (by kernel_rfl) (by kernel_rfl) (fun _ _ _ h => h) (Or.inl ⟨by rfl, ?_⟩) (by assumption) ?_
  rotate_left
  · intro w hSw; (try dsimp only at hSw); go_simp <;> with_reducible rfl
  (try simp only [Act.put, List.setIfInBounds_toArray, List.set_cons_zero, List.set_cons_succ])
  refine wpAnyH_done (by kernel_rfl) ?_ _
  have B6 := hid (below_step B5.out hB11)
  have XA6 := hid (XA5.out.below hB11)
  have XB6 := hid (XB5.out.below hB11)
  clear a0 a1 b0 b1 hHeld
  have C3 := hid (fun w => rcmp_any HB.out HA.out w)
  have HMC := hid (min_case HA.out HB.out)
  obtain ⟨zb, hzb⟩ : ∃ z, cmpV (Rat.divInt bN bD) (Rat.divInt aN aD) = z := ⟨_, rfl⟩
  rw [hzb] at C3 HMC
  clear hzb
  obtain ⟨tx, htx1, htx2⟩ := both_texts HA.out
  have TX := hid htx1
  have TR := hid htx2
  clear htx1 htx2
  rcases HMC.out with ⟨-, q1, q2, q3⟩ | ⟨q1, q2, ⟨qa, qb⟩, q3⟩ | ⟨q1, q2, qe, q3⟩
  · have z1 : zb < 0 := by simpa using q1
    obtain ⟨n9, hn9⟩ : ∃ n, y11.heap.size = n := ⟨_, rfl⟩
    have hb7 := below_a0 y11 (.cells #[.int .i64 aN, .int .i64 aD] 25)
    have XA7 := hid (XA6.out.below hb7)
    have XB7 := hid (XB6.out.below hb7)
    have X97 := hid (show Box2 (y11.alloc (.cells #[.int .i64 aN, .int .i64 aD] 25)) n9 (.int .i64 aN) (.int .i64 aD) by rw [← hn9]; exact box2_new _ _ _ _)
    have B7 := hid (below_step B6.out hb7)
    have hne := hid (show na6 ≠ n9 ∧ nb7 ≠ n9 by have := XA6.out.2.2.2.2; have := XB6.out.2.2.2.2; omega)
    obtain ⟨a0, a1, -, -, -⟩ := XA6.out
    obtain ⟨b0, b1, -, -, -⟩ := XB6.out
    obtain ⟨a2, a3, -, -, -⟩ := XA7.out
    obtain ⟨b2, b3, -, -, -⟩ := XB7.out
    clear hb7
    go_wp2_with fail
    refine (C3.out _).mono ?_
    rintro e w8 ⟨rfl, hb⟩
    have XA8 := hid (XA7.out.below hb)
    have XB8 := hid (XB7.out.below hb)
    have X98 := hid (X97.out.below hb)
    have B8 := hid (below_step B7.out hb)
    clear hb a0 a1 b0 b1 a2 a3 b2 b3
    obtain ⟨a0, a1, -, -, -⟩ := XA8.out
    obtain ⟨b0, b1, -, -, -⟩ := XB8.out
    obtain ⟨l0, l1, g0, g1, -⟩ := X98.out
    go_upto_region 14 with fail
    (try rw [hn9])
    obtain ⟨w9, hw9⟩ : ∃ w9, (w8.setCell ⟨n9, 0, none⟩ (.int .i64 bN)).setCell ⟨n9, 1, none⟩ (.int .i64 bD) = w9 := ⟨_, rfl⟩
    have X99 := hid (show Box2 w9 n9 (.int .i64 bN) (.int .i64 bD) by rw [← hw9]; exact box2_set X98.out _ _)
    have XA9 := hid (show Box2 w9 na6 (.int .i64 aN) (.int .i64 aD) by rw [← hw9]; exact box2_far XA8.out (fun e => hne.out.1 e.symm) _ _)
    have XB9 := hid (show Box2 w9 nb7 (.int .i64 bN) (.int .i64 bD) by rw [← hw9]; exact box2_far XB8.out (fun e => hne.out.2 e.symm) _ _)
    have B9 := hid (show Below w0.heap.size w0 w9 by rw [← hw9]; exact (B8.out.setCell (p := ⟨n9, 0, none⟩) (by show w0.heap.size ≤ n9; rw [← hn9]; exact B6.out.size) _).setCell (p := ⟨n9, 1, none⟩) (by show w0.heap.size ≤ n9; rw [← hn9]; exact B6.out.size) _)
    rw [hw9]
    clear hw9 a0 a1 b0 b1 l0 l1 g0 g1
    obtain ⟨m9, hm9⟩ : ∃ n, w9.heap.size = n := ⟨_, rfl⟩
    obtain ⟨a0, a1, -, -, -⟩ := XA9.out
    obtain ⟨b0, b1, -, -, -⟩ := XB9.out
    obtain ⟨l0, l1, -, -, -⟩ := X99.out
    have hbA := below_a0 w9 (.cells #[.int .i64 bN, .int .i64 bD] 25)
    obtain ⟨a2, a3, -, -, -⟩ := XA9.out.below hbA
    obtain ⟨b2, b3, -, -, -⟩ := XB9.out.below hbA
    obtain ⟨l2, l3, -, -, -⟩ := X99.out.below hbA
    go_upto_region 17 with fail
    (try rw [hm9])
    obtain ⟨w10, hw10⟩ : ∃ w10, w9.alloc (.cells #[.int .i64 aN, .int .i64 aD] 25) = w10 := ⟨_, rfl⟩
    have hbB : Below w9.heap.size w9 w10 := by rw [← hw10]; exact below_a0 _ _
    have XM := hid (show Box2 w10 m9 (.int .i64 aN) (.int .i64 aD) by rw [← hw10, ← hm9]; exact box2_new _ _ _ _)
    have B10 := hid (below_step B9.out hbB)
    rw [hw10]
    clear a0 a1 b0 b1 l0 l1 a2 a3 b2 b3 l2 l3 hbA hw10
    obtain ⟨a0, a1, -, -, -⟩ := XA9.out.below hbB
    obtain ⟨b0, b1, -, -, -⟩ := XB9.out.below hbB
    obtain ⟨l0, l1, -, -, -⟩ := X99.out.below hbB
    obtain ⟨m0, m1, -, -, -⟩ := XM.out
    have hsg := (Below.refl w10.heap.size w10).drew
    have Q2 := hid q2
    have Q3 := hid q3
    clear hbB q1 q2 q3 z1 hm9
    refine wp_region_held_drew (S := fun W' => (W'.cell? ⟨na6, 0, none⟩ = some (.int .i64 aN) ∧ W'.cell? ⟨na6, 1, none⟩ = some (.int .i64 aD) ∧ W'.cell? ⟨nb7, 0, none⟩ = some (.int .i64 bN) ∧ W'.cell? ⟨nb7, 1, none⟩ = some (.int .i64 bD) ∧ W'.cell? ⟨n9, 0, none⟩ = some (.int .i64 bN) ∧ W'.cell? ⟨n9, 1, none⟩ = some (.int .i64 bD) ∧ W'.cell? ⟨m9, 0, none⟩ = some (.int .i64 aN) ∧ W'.cell? ⟨m9, 1, none⟩ = some (.int .i64 aD))) (by kernel_rfl) ?_ (fun hHeld => ?_)
    · exact ⟨a0, a1, b0, b1, l0, l1, m0, m1⟩
    refine wpAnyH_take (i := 0) (oi := ({ dst := some 133, op := Op.move (Operand.tmp 5), type := 4, pos := "law.go:89", after := #[], guard := none } : Oper)) (v := ?_) rfl (by kernel_rfl) (by kernel_rfl) (by kernel_rfl) (fun _ _ _ h => h) (Or.inl ⟨by rfl, ?_⟩) (by assumption) ?_
    rotate_left
    · intro w hSw; (try dsimp only at hSw); go_simp <;> with_reducible rfl
    (try simp only [Act.put, List.setIfInBounds_toArray, List.set_cons_zero, List.set_cons_succ])
    refine wpAnyH_take (i := 1) (oi := ({ dst := some 134, op := Op.move (Operand.tmp 133), type := 4, pos := "law.go:89", after := #[{ on := 0, ground := Ground.data }], guard := none } : Oper)) (v := ?_) rfl (by kernel_rfl) (by kernel_rfl) (by kernel_rfl) (fun _ _ _ h => h) (Or.inl ⟨by rfl, ?_⟩) (by assumption) ?_
    rotate_left
    · intro w hSw; (try dsimp only at hSw); go_simp <;> with_reducible rfl
    (try simp only [Act.put, List.setIfInBounds_toArray, List.set_cons_zero, List.set_cons_succ])
    refine wpAnyH_take (i := 2) (oi := ({ dst := some 135, op := Op.load 25 (Operand.tmp 6), type := 25, pos := "law.go:89", after := #[{ on := 1, ground := Ground.guard }], guard := some (1, true) } : Oper)) (v := ?_) rfl (by kernel_rfl) (by kernel_rfl) (by kernel_rfl) (fun _ _ _ h => h) (Or.inl ⟨by rfl, ?_⟩) (by assumption) ?_
    rotate_left
    · intro w hSw; (try dsimp only at hSw); go_simp <;> with_reducible rfl
    (try simp only [Act.put, List.setIfInBounds_toArray, List.set_cons_zero, List.set_cons_succ])
    refine wpAnyH_ready (rs := [3]) (by kernel_rfl) (by simp) ?_
    refine AllReadyH.cons (o := ({ dst := some 136, op := Op.call { callee := Callee.value (Operand.func 7), args := #[Operand.tmp 135], argTypes := #[25] }, type := 4, pos := "law.go:89", after := #[{ on := 2, ground := Ground.data }, { on := 1, ground := Ground.chain }, { on := 1, ground := Ground.guard }], guard := some (1, true) } : Oper)) rfl (fun K hK => ?_) ?_
    rotate_left
    · exact AllReadyH.nil
    go_simp
    go_at_call 7
    with_reducible refine (valid_fr HA.out _).mono ?_
    rintro e y0 ⟨rfl, hq0⟩
    have hB0 := below_step hsg hq0
    clear hHeld
    first | (with_reducible refine hK.out _ _ ?_ (fun hHeld => ?_)) | (go_wp2_with fail; with_reducible refine hK.out _ _ ?_ (fun hHeld => ?_))
    · exact ⟨cell_below hB0 a0, cell_below hB0 a1, cell_below hB0 b0, cell_below hB0 b1, cell_below hB0 l0, cell_below hB0 l1, cell_below hB0 m0, cell_below hB0 m1⟩
    clear hK K
    (try simp only [Act.put, List.setIfInBounds_toArray, List.set_cons_zero, List.set_cons_succ])
    refine wpAnyH_take (i := 4) (oi := ({ dst := some 137, op := Op.pick (Operand.tmp 134) (Operand.tmp 136) (Operand.const (Value.bool false)), type := 4, pos := "law.go:89", after := #[{ on := 1, ground := Ground.data }, { on := 3, ground := Ground.data }], guard := none } : Oper)) (v := ?_) rfl (by kernel_rfl) (by kernel_rfl) (by kernel_rfl) (fun _ _ _ h => h) (Or.inl ⟨by rfl, ?_⟩) (by assumption) ?_
    rotate_left
    · intro w hSw; (try dsimp only at hSw); go_simp <;> with_reducible rfl
    (try simp only [Act.put, List.setIfInBounds_toArray, List.set_cons_zero, List.set_cons_succ])
    refine wpAnyH_take (i := 5) (oi := ({ dst := some 138, op := Op.move (Operand.tmp 137), type := 4, pos := "law.go:89", after := #[{ on := 4, ground := Ground.data }, { on := 3, ground := Ground.chain }], guard := none } : Oper)) (v := ?_) rfl (by kernel_rfl) (by kernel_rfl) (by kernel_rfl) (fun _ _ _ h => h) (Or.inl ⟨by rfl, ?_⟩) (by assumption) ?_
    rotate_left
    · intro w hSw; (try dsimp only at hSw); go_simp <;> with_reducible rfl
    (try simp only [Act.put, List.setIfInBounds_toArray, List.set_cons_zero, List.set_cons_succ])
    refine wpAnyH_take (i := 6) (oi := ({ dst := some 139, op := Op.load 25 (Operand.tmp 6), type := 25, pos := "law.go:89", after := #[{ on := 5, ground := Ground.guard }], guard := some (5, true) } : Oper)) (v := ?_) rfl (by kernel_rfl) (by kernel_rfl) (by kernel_rfl) (fun _ _ _ h => h) (Or.inl ⟨by rfl, ?_⟩) (by assumption) ?_
    rotate_left
    · intro w hSw; (try dsimp only at hSw); go_simp <;> with_reducible rfl
    (try simp only [Act.put, List.setIfInBounds_toArray, List.set_cons_zero, List.set_cons_succ])
    refine wpAnyH_take (i := 7) (oi := ({ dst := some 140, op := Op.load 25 (Operand.tmp 7), type := 25, pos := "law.go:89", after := #[{ on := 5, ground := Ground.guard }], guard := some (5, true) } : Oper)) (v := ?_) rfl (by kernel_rfl) (by kernel_rfl) (by kernel_rfl) (fun _ _ _ h => h) (Or.inl ⟨by rfl, ?_⟩) (by assumption) ?_
    rotate_left
    · intro w hSw; (try dsimp only at hSw); go_simp <;> with_reducible rfl
    (try simp only [Act.put, List.setIfInBounds_toArray, List.set_cons_zero, List.set_cons_succ])
    refine wpAnyH_take (i := 9) (oi := ({ dst := some 142, op := Op.load 25 (Operand.tmp 9), type := 25, pos := "law.go:89", after := #[{ on := 5, ground := Ground.guard }], guard := some (5, true) } : Oper)) (v := ?_) rfl (by kernel_rfl) (by kernel_rfl) (by kernel_rfl) (fun _ _ _ h => h) (Or.inl ⟨by rfl, ?_⟩) (by assumption) ?_
    rotate_left
    · intro w hSw; (try dsimp only at hSw); go_simp <;> with_reducible rfl
    (try simp only [Act.put, List.setIfInBounds_toArray, List.set_cons_zero, List.set_cons_succ])
    refine wpAnyH_ready (rs := [8]) (by kernel_rfl) (by simp) ?_
    refine AllReadyH.cons (o := ({ dst := some 141, op := Op.call { callee := Callee.value (Operand.func 22), args := #[Operand.tmp 139, Operand.tmp 140], argTypes := #[25, 25] }, type := 25, pos := "law.go:89", after := #[{ on := 6, ground := Ground.data }, { on := 7, ground := Ground.data }, { on := 5, ground := Ground.chain }, { on := 5, ground := Ground.guard }], guard := some (5, true) } : Oper)) rfl (fun K hK => ?_) ?_
    rotate_left
    · exact AllReadyH.nil
    go_simp
    go_at_call 22
    with_reducible refine (min_b HA.out HB.out Q2.out _).mono ?_
    rintro e y1 ⟨rfl, hq1⟩
    have hB1 := below_step hB0 hq1
    clear hHeld
    first | (with_reducible refine hK.out _ _ ?_ (fun hHeld => ?_)) | (go_wp2_with fail; with_reducible refine hK.out _ _ ?_ (fun hHeld => ?_))
    · exact ⟨cell_below hB1 a0, cell_below hB1 a1, cell_below hB1 b0, cell_below hB1 b1, cell_below hB1 l0, cell_below hB1 l1, cell_below hB1 m0, cell_below hB1 m1⟩
    clear hK K
    (try simp only [Act.put, List.setIfInBounds_toArray, List.set_cons_zero, List.set_cons_succ])
    refine wpAnyH_take (i := 10) (oi := ({ dst := some 143, op := Op.binOp BinOp.eql 25 (Operand.tmp 141) (Operand.tmp 142) 25, type := 4, pos := "law.go:89", after := #[{ on := 8, ground := Ground.data }, { on := 9, ground := Ground.data }, { on := 5, ground := Ground.guard }], guard := some (5, true) } : Oper)) (v := ?_) rfl (by kernel_rfl) (by kernel_rfl) (by kernel_rfl) (fun _ _ _ h => h) (Or.inl ⟨by rfl, ?_⟩) (by assumption) ?_
    rotate_left
    · intro w hSw; (try dsimp only at hSw); go_simp <;> with_reducible rfl
    (try simp only [Act.put, List.setIfInBounds_toArray, List.set_cons_zero, List.set_cons_succ])
    refine wpAnyH_take (i := 11) (oi := ({ dst := some 144, op := Op.pick (Operand.tmp 138) (Operand.tmp 143) (Operand.const (Value.bool false)), type := 4, pos := "law.go:89", after := #[{ on := 5, ground := Ground.data }, { on := 10, ground := Ground.data }], guard := none } : Oper)) (v := ?_) rfl (by kernel_rfl) (by kernel_rfl) (by kernel_rfl) (fun _ _ _ h => h) (Or.inl ⟨by rfl, ?_⟩) (by assumption) ?_
    rotate_left
    · intro w hSw; (try dsimp only at hSw); go_simp <;> with_reducible rfl
    (try simp only [Act.put, List.setIfInBounds_toArray, List.set_cons_zero, List.set_cons_succ])
    refine wpAnyH_take (i := 12) (oi := ({ dst := some 145, op := Op.move (Operand.tmp 144), type := 4, pos := "law.go:89", after := #[{ on := 11, ground := Ground.data }, { on := 8, ground := Ground.chain }], guard := none } : Oper)) (v := ?_) rfl (by kernel_rfl) (by kernel_rfl) (by kernel_rfl) (fun _ _ _ h => h) (Or.inl ⟨by rfl, ?_⟩) (by assumption) ?_
    rotate_left
    · intro w hSw; (try dsimp only at hSw); go_simp <;> with_reducible rfl
    (try simp only [Act.put, List.setIfInBounds_toArray, List.set_cons_zero, List.set_cons_succ])
    refine wpAnyH_take (i := 13) (oi := ({ dst := some 146, op := Op.load 25 (Operand.tmp 6), type := 25, pos := "law.go:89", after := #[{ on := 12, ground := Ground.guard }], guard := some (12, true) } : Oper)) (v := ?_) rfl (by kernel_rfl) (by kernel_rfl) (by kernel_rfl) (fun _ _ _ h => h) (Or.inl ⟨by rfl, ?_⟩) (by assumption) ?_
    rotate_left
    · intro w hSw; (try dsimp only at hSw); go_simp <;> with_reducible rfl
    (try simp only [Act.put, List.setIfInBounds_toArray, List.set_cons_zero, List.set_cons_succ])
    refine wpAnyH_take (i := 14) (oi := ({ dst := some 147, op := Op.load 25 (Operand.tmp 7), type := 25, pos := "law.go:89", after := #[{ on := 12, ground := Ground.guard }], guard := some (12, true) } : Oper)) (v := ?_) rfl (by kernel_rfl) (by kernel_rfl) (by kernel_rfl) (fun _ _ _ h => h) (Or.inl ⟨by rfl, ?_⟩) (by assumption) ?_
    rotate_left
    · intro w hSw; (try dsimp only at hSw); go_simp <;> with_reducible rfl
    (try simp only [Act.put, List.setIfInBounds_toArray, List.set_cons_zero, List.set_cons_succ])
    refine wpAnyH_take (i := 16) (oi := ({ dst := some 149, op := Op.load 25 (Operand.tmp 10), type := 25, pos := "law.go:89", after := #[{ on := 12, ground := Ground.guard }], guard := some (12, true) } : Oper)) (v := ?_) rfl (by kernel_rfl) (by kernel_rfl) (by kernel_rfl) (fun _ _ _ h => h) (Or.inl ⟨by rfl, ?_⟩) (by assumption) ?_
    rotate_left
    · intro w hSw; (try dsimp only at hSw); go_simp <;> with_reducible rfl
    (try simp only [Act.put, List.setIfInBounds_toArray, List.set_cons_zero, List.set_cons_succ])
    refine wpAnyH_ready (rs := [15]) (by kernel_rfl) (by simp) ?_
    refine AllReadyH.cons (o := ({ dst := some 148, op := Op.call { callee := Callee.value (Operand.func 23), args := #[Operand.tmp 146, Operand.tmp 147], argTypes := #[25, 25] }, type := 25, pos := "law.go:89", after := #[{ on := 13, ground := Ground.data }, { on := 14, ground := Ground.data }, { on := 12, ground := Ground.chain }, { on := 12, ground := Ground.guard }], guard := some (12, true) } : Oper)) rfl (fun K hK => ?_) ?_
    rotate_left
    · exact AllReadyH.nil
    go_simp
    go_at_call 23
    with_reducible refine (max_a HA.out HB.out Q3.out _).mono ?_
    rintro e y2 ⟨rfl, hq2⟩
    have hB2 := below_step hB1 hq2
    clear hHeld
    first | (with_reducible refine hK.out _ _ ?_ (fun hHeld => ?_)) | (go_wp2_with fail; with_reducible refine hK.out _ _ ?_ (fun hHeld => ?_))
    · exact ⟨cell_below hB2 a0, cell_below hB2 a1, cell_below hB2 b0, cell_below hB2 b1, cell_below hB2 l0, cell_below hB2 l1, cell_below hB2 m0, cell_below hB2 m1⟩
    clear hK K
    (try simp only [Act.put, List.setIfInBounds_toArray, List.set_cons_zero, List.set_cons_succ])
    refine wpAnyH_take (i := 17) (oi := ({ dst := some 150, op := Op.binOp BinOp.eql 25 (Operand.tmp 148) (Operand.tmp 149) 25, type := 4, pos := "law.go:89", after := #[{ on := 15, ground := Ground.data }, { on := 16, ground := Ground.data }, { on := 12, ground := Ground.guard }], guard := some (12, true) } : Oper)) (v := ?_) rfl (by kernel_rfl) (by kernel_rfl) (by kernel_rfl) (fun _ _ _ h => h) (Or.inl ⟨by rfl, ?_⟩) (by assumption) ?_
    rotate_left
    · intro w hSw; (try dsimp only at hSw); go_simp <;> with_reducible rfl
    (try simp only [Act.put, List.setIfInBounds_toArray, List.set_cons_zero, List.set_cons_succ])
    refine wpAnyH_take (i := 18) (oi := ({ dst := some 151, op := Op.pick (Operand.tmp 145) (Operand.tmp 150) (Operand.const (Value.bool false)), type := 4, pos := "law.go:89", after := #[{ on := 12, ground := Ground.data }, { on := 17, ground := Ground.data }], guard := none } : Oper)) (v := ?_) rfl (by kernel_rfl) (by kernel_rfl) (by kernel_rfl) (fun _ _ _ h => h) (Or.inl ⟨by rfl, ?_⟩) (by assumption) ?_
    rotate_left
    · intro w hSw; (try dsimp only at hSw); go_simp <;> with_reducible rfl
    (try simp only [Act.put, List.setIfInBounds_toArray, List.set_cons_zero, List.set_cons_succ])
    refine wpAnyH_take (i := 19) (oi := ({ dst := some 152, op := Op.move (Operand.tmp 151), type := 4, pos := "law.go:89", after := #[{ on := 18, ground := Ground.data }, { on := 15, ground := Ground.chain }], guard := none } : Oper)) (v := ?_) rfl (by kernel_rfl) (by kernel_rfl) (by kernel_rfl) (fun _ _ _ h => h) (Or.inl ⟨by rfl, ?_⟩) (by assumption) ?_
    rotate_left
    · intro w hSw; (try dsimp only at hSw); go_simp <;> with_reducible rfl
    (try simp only [Act.put, List.setIfInBounds_toArray, List.set_cons_zero, List.set_cons_succ])
    refine wpAnyH_take (i := 20) (oi := ({ dst := some 153, op := Op.load 25 (Operand.tmp 6), type := 25, pos := "law.go:89", after := #[{ on := 19, ground := Ground.guard }], guard := some (19, true) } : Oper)) (v := ?_) rfl (by kernel_rfl) (by kernel_rfl) (by kernel_rfl) (fun _ _ _ h => h) (Or.inl ⟨by rfl, ?_⟩) (by assumption) ?_
    rotate_left
    · intro w hSw; (try dsimp only at hSw); go_simp <;> with_reducible rfl
    (try simp only [Act.put, List.setIfInBounds_toArray, List.set_cons_zero, List.set_cons_succ])
    refine wpAnyH_take (i := 22) (oi := ({ dst := some 155, op := Op.load 25 (Operand.tmp 6), type := 25, pos := "law.go:89", after := #[{ on := 19, ground := Ground.guard }], guard := some (19, true) } : Oper)) (v := ?_) rfl (by kernel_rfl) (by kernel_rfl) (by kernel_rfl) (fun _ _ _ h => h) (Or.inl ⟨by rfl, ?_⟩) (by assumption) ?_
    rotate_left
    · intro w hSw; (try dsimp only at hSw); go_simp <;> with_reducible rfl
    (try simp only [Act.put, List.setIfInBounds_toArray, List.set_cons_zero, List.set_cons_succ])
    refine wpAnyH_ready (rs := [21]) (by kernel_rfl) (by simp) ?_
    refine AllReadyH.cons (o := ({ dst := some 154, op := Op.call { callee := Callee.value (Operand.func 24), args := #[Operand.tmp 153], argTypes := #[25] }, type := 9, pos := "law.go:89", after := #[{ on := 20, ground := Ground.data }, { on := 19, ground := Ground.chain }, { on := 19, ground := Ground.guard }], guard := some (19, true) } : Oper)) rfl (fun K hK => ?_) ?_
    rotate_left
    · exact AllReadyH.nil
    go_simp
    go_at_call 24
    with_reducible refine (TX.out _ (glob_below (below_step B10.out hB2) G0.out)).mono ?_
    rintro e y3 ⟨rfl, hq3⟩
    have hB3 := below_step hB2 hq3
    clear hHeld
    first | (with_reducible refine hK.out _ _ ?_ (fun hHeld => ?_)) | (go_wp2_with fail; with_reducible refine hK.out _ _ ?_ (fun hHeld => ?_))
    · exact ⟨cell_below hB3 a0, cell_below hB3 a1, cell_below hB3 b0, cell_below hB3 b1, cell_below hB3 l0, cell_below hB3 l1, cell_below hB3 m0, cell_below hB3 m1⟩
    clear hK K
    (try simp only [Act.put, List.setIfInBounds_toArray, List.set_cons_zero, List.set_cons_succ])
    refine wpAnyH_ready (rs := [23]) (by kernel_rfl) (by simp) ?_
    refine AllReadyH.cons (o := ({ dst := some 156, op := Op.call { callee := Callee.value (Operand.func 25), args := #[Operand.tmp 155], argTypes := #[25] }, type := 9, pos := "law.go:89", after := #[{ on := 22, ground := Ground.data }, { on := 21, ground := Ground.chain }, { on := 19, ground := Ground.guard }], guard := some (19, true) } : Oper)) rfl (fun K hK => ?_) ?_
    rotate_left
    · exact AllReadyH.nil
    go_simp
    go_at_call 25
    with_reducible refine (TR.out _).mono ?_
    rintro e y4 ⟨rfl, hq4⟩
    have hB4 := below_step hB3 hq4
    clear hHeld
    first | (with_reducible refine hK.out _ _ ?_ (fun hHeld => ?_)) | (go_wp2_with fail; with_reducible refine hK.out _ _ ?_ (fun hHeld => ?_))
    · exact ⟨cell_below hB4 a0, cell_below hB4 a1, cell_below hB4 b0, cell_below hB4 b1, cell_below hB4 l0, cell_below hB4 l1, cell_below hB4 m0, cell_below hB4 m1⟩
    clear hK K
    (try simp only [Act.put, List.setIfInBounds_toArray, List.set_cons_zero, List.set_cons_succ])
    refine wpAnyH_take (i := 24) (oi := ({ dst := some 157, op := Op.binOp BinOp.eql 9 (Operand.tmp 154) (Operand.tmp 156) 9, type := 4, pos := "law.go:89", after := #[{ on := 21, ground := Ground.data }, { on := 23, ground := Ground.data }, { on := 19, ground := Ground.guard }], guard := some (19, true) } : Oper)) (v := ?_) rfl (by kernel_rfl) (by kernel_rfl) (by kernel_rfl) (fun _ _ _ h => h) (Or.inl ⟨by rfl, ?_⟩) (by assumption) ?_
    rotate_left
    · intro w hSw; (try dsimp only at hSw); go_simp <;> with_reducible rfl
    (try simp only [Act.put, List.setIfInBounds_toArray, List.set_cons_zero, List.set_cons_succ])
    refine wpAnyH_take (i := 25) (oi := ({ dst := some 158, op := Op.pick (Operand.tmp 152) (Operand.tmp 157) (Operand.const (Value.bool false)), type := 4, pos := "law.go:89", after := #[{ on := 19, ground := Ground.data }, { on := 24, ground := Ground.data }], guard := none } : Oper)) (v := ?_) rfl (by kernel_rfl) (by kernel_rfl) (by kernel_rfl) (fun _ _ _ h => h) (Or.inl ⟨by rfl, ?_⟩) (by assumption) ?_
    rotate_left
    · intro w hSw; (try dsimp only at hSw); go_simp <;> with_reducible rfl
    (try simp only [Act.put, List.setIfInBounds_toArray, List.set_cons_zero, List.set_cons_succ])
    refine wpAnyH_take (i := 26) (oi := ({ dst := some 4, op := Op.assign (Operand.tmp 158), type := 4, pos := "law.go:89", after := #[{ on := 25, ground := Ground.data }, { on := 23, ground := Ground.chain }, { on := 0, ground := Ground.phase }, { on := 1, ground := Ground.phase }, { on := 2, ground := Ground.phase }, { on := 3, ground := Ground.phase }, { on := 4, ground := Ground.phase }, { on := 5, ground := Ground.phase }, { on := 6, ground := Ground.phase }, { on := 7, ground := Ground.phase }, { on := 8, ground := Ground.phase }, { on := 9, ground := Ground.phase }, { on := 10, ground := Ground.phase }, { on := 11, ground := Ground.phase }, { on := 12, ground := Ground.phase }, { on := 13, ground := Ground.phase }, { on := 14, ground := Ground.phase }, { on := 15, ground := Ground.phase }, { on := 16, ground := Ground.phase }, { on := 17, ground := Ground.phase }, { on := 18, ground := Ground.phase }, { on := 19, ground := Ground.phase }, { on := 20, ground := Ground.phase }, { on := 21, ground := Ground.phase }, { on := 22, ground := Ground.phase }, { on := 23, ground := Ground.phase }, { on := 24, ground := Ground.phase }, { on := 25, ground := Ground.phase }], guard := none } : Oper)) (v := ?_) rfl (by kernel_rfl) (by kernel_rfl) (by kernel_rfl) (fun _ _ _ h => h) (Or.inl ⟨by rfl, ?_⟩) (by assumption) ?_
    rotate_left
    · intro w hSw; (try dsimp only at hSw); go_simp <;> with_reducible rfl
    (try simp only [Act.put, List.setIfInBounds_toArray, List.set_cons_zero, List.set_cons_succ])
    refine wpAnyH_done (by kernel_rfl) ?_ _
    have HEND := hid (below_step B0.out (below_step B10.out hB4))
    clear hHeld
    go_wp2_with fail
    go_ret
    exact ⟨rfl, HEND.out⟩
  · have z1 : ¬ zb < 0 := by simpa using q1
    have qe1 : (aN == bN) = true := by rw [qa]; simp
    have qe2 : (aD == bD) = true := by rw [qb]; simp
    clear qa qb
    obtain ⟨n9, hn9⟩ : ∃ n, y11.heap.size = n := ⟨_, rfl⟩
    have hb7 := below_a0 y11 (.cells #[.int .i64 aN, .int .i64 aD] 25)
    have XA7 := hid (XA6.out.below hb7)
    have XB7 := hid (XB6.out.below hb7)
    have X97 := hid (show Box2 (y11.alloc (.cells #[.int .i64 aN, .int .i64 aD] 25)) n9 (.int .i64 aN) (.int .i64 aD) by rw [← hn9]; exact box2_new _ _ _ _)
    have B7 := hid (below_step B6.out hb7)
    have hne := hid (show na6 ≠ n9 ∧ nb7 ≠ n9 by have := XA6.out.2.2.2.2; have := XB6.out.2.2.2.2; omega)
    obtain ⟨a0, a1, -, -, -⟩ := XA6.out
    obtain ⟨b0, b1, -, -, -⟩ := XB6.out
    obtain ⟨a2, a3, -, -, -⟩ := XA7.out
    obtain ⟨b2, b3, -, -, -⟩ := XB7.out
    clear hb7
    go_wp2_with fail
    refine (C3.out _).mono ?_
    rintro e w8 ⟨rfl, hb⟩
    have XA8 := hid (XA7.out.below hb)
    have XB8 := hid (XB7.out.below hb)
    have X98 := hid (X97.out.below hb)
    have B8 := hid (below_step B7.out hb)
    clear hb a0 a1 b0 b1 a2 a3 b2 b3
    have X99 := X98
    have XA9 := XA8
    have XB9 := XB8
    have B9 := B8
    obtain ⟨m9, hm9⟩ : ∃ n, w8.heap.size = n := ⟨_, rfl⟩
    obtain ⟨a0, a1, -, -, -⟩ := XA9.out
    obtain ⟨b0, b1, -, -, -⟩ := XB9.out
    obtain ⟨l0, l1, -, -, -⟩ := X99.out
    have hbA := below_a0 w8 (.cells #[.int .i64 bN, .int .i64 bD] 25)
    obtain ⟨a2, a3, -, -, -⟩ := XA9.out.below hbA
    obtain ⟨b2, b3, -, -, -⟩ := XB9.out.below hbA
    obtain ⟨l2, l3, -, -, -⟩ := X99.out.below hbA
    go_upto_region 17 with fail
    (try rw [hm9])
    obtain ⟨w10, hw10⟩ : ∃ w10, w8.alloc (.cells #[.int .i64 aN, .int .i64 aD] 25) = w10 := ⟨_, rfl⟩
    have hbB : Below w8.heap.size w8 w10 := by rw [← hw10]; exact below_a0 _ _
    have XM := hid (show Box2 w10 m9 (.int .i64 aN) (.int .i64 aD) by rw [← hw10, ← hm9]; exact box2_new _ _ _ _)
    have B10 := hid (below_step B9.out hbB)
    rw [hw10]
    clear a0 a1 b0 b1 l0 l1 a2 a3 b2 b3 l2 l3 hbA hw10
    obtain ⟨a0, a1, -, -, -⟩ := XA9.out.below hbB
    obtain ⟨b0, b1, -, -, -⟩ := XB9.out.below hbB
    obtain ⟨l0, l1, -, -, -⟩ := X99.out.below hbB
    obtain ⟨m0, m1, -, -, -⟩ := XM.out
    have hsg := (Below.refl w10.heap.size w10).drew
    have Q2 := hid q2
    have Q3 := hid q3
    clear hbB q1 q2 q3 z1 hm9
    refine wp_region_held_drew (S := fun W' => (W'.cell? ⟨na6, 0, none⟩ = some (.int .i64 aN) ∧ W'.cell? ⟨na6, 1, none⟩ = some (.int .i64 aD) ∧ W'.cell? ⟨nb7, 0, none⟩ = some (.int .i64 bN) ∧ W'.cell? ⟨nb7, 1, none⟩ = some (.int .i64 bD) ∧ W'.cell? ⟨n9, 0, none⟩ = some (.int .i64 aN) ∧ W'.cell? ⟨n9, 1, none⟩ = some (.int .i64 aD) ∧ W'.cell? ⟨m9, 0, none⟩ = some (.int .i64 aN) ∧ W'.cell? ⟨m9, 1, none⟩ = some (.int .i64 aD))) (by kernel_rfl) ?_ (fun hHeld => ?_)
    · exact ⟨a0, a1, b0, b1, l0, l1, m0, m1⟩
    refine wpAnyH_take (i := 0) (oi := ({ dst := some 133, op := Op.move (Operand.tmp 5), type := 4, pos := "law.go:89", after := #[], guard := none } : Oper)) (v := ?_) rfl (by kernel_rfl) (by kernel_rfl) (by kernel_rfl) (fun _ _ _ h => h) (Or.inl ⟨by rfl, ?_⟩) (by assumption) ?_
    rotate_left
    · intro w hSw; (try dsimp only at hSw); go_simp <;> with_reducible rfl
    (try simp only [Act.put, List.setIfInBounds_toArray, List.set_cons_zero, List.set_cons_succ])
    refine wpAnyH_take (i := 1) (oi := ({ dst := some 134, op := Op.move (Operand.tmp 133), type := 4, pos := "law.go:89", after := #[{ on := 0, ground := Ground.data }], guard := none } : Oper)) (v := ?_) rfl (by kernel_rfl) (by kernel_rfl) (by kernel_rfl) (fun _ _ _ h => h) (Or.inl ⟨by rfl, ?_⟩) (by assumption) ?_
    rotate_left
    · intro w hSw; (try dsimp only at hSw); go_simp <;> with_reducible rfl
    (try simp only [Act.put, List.setIfInBounds_toArray, List.set_cons_zero, List.set_cons_succ])
    refine wpAnyH_take (i := 2) (oi := ({ dst := some 135, op := Op.load 25 (Operand.tmp 6), type := 25, pos := "law.go:89", after := #[{ on := 1, ground := Ground.guard }], guard := some (1, true) } : Oper)) (v := ?_) rfl (by kernel_rfl) (by kernel_rfl) (by kernel_rfl) (fun _ _ _ h => h) (Or.inl ⟨by rfl, ?_⟩) (by assumption) ?_
    rotate_left
    · intro w hSw; (try dsimp only at hSw); go_simp <;> with_reducible rfl
    (try simp only [Act.put, List.setIfInBounds_toArray, List.set_cons_zero, List.set_cons_succ])
    refine wpAnyH_ready (rs := [3]) (by kernel_rfl) (by simp) ?_
    refine AllReadyH.cons (o := ({ dst := some 136, op := Op.call { callee := Callee.value (Operand.func 7), args := #[Operand.tmp 135], argTypes := #[25] }, type := 4, pos := "law.go:89", after := #[{ on := 2, ground := Ground.data }, { on := 1, ground := Ground.chain }, { on := 1, ground := Ground.guard }], guard := some (1, true) } : Oper)) rfl (fun K hK => ?_) ?_
    rotate_left
    · exact AllReadyH.nil
    go_simp
    go_at_call 7
    with_reducible refine (valid_fr HA.out _).mono ?_
    rintro e y0 ⟨rfl, hq0⟩
    have hB0 := below_step hsg hq0
    clear hHeld
    first | (with_reducible refine hK.out _ _ ?_ (fun hHeld => ?_)) | (go_wp2_with fail; with_reducible refine hK.out _ _ ?_ (fun hHeld => ?_))
    · exact ⟨cell_below hB0 a0, cell_below hB0 a1, cell_below hB0 b0, cell_below hB0 b1, cell_below hB0 l0, cell_below hB0 l1, cell_below hB0 m0, cell_below hB0 m1⟩
    clear hK K
    (try simp only [Act.put, List.setIfInBounds_toArray, List.set_cons_zero, List.set_cons_succ])
    refine wpAnyH_take (i := 4) (oi := ({ dst := some 137, op := Op.pick (Operand.tmp 134) (Operand.tmp 136) (Operand.const (Value.bool false)), type := 4, pos := "law.go:89", after := #[{ on := 1, ground := Ground.data }, { on := 3, ground := Ground.data }], guard := none } : Oper)) (v := ?_) rfl (by kernel_rfl) (by kernel_rfl) (by kernel_rfl) (fun _ _ _ h => h) (Or.inl ⟨by rfl, ?_⟩) (by assumption) ?_
    rotate_left
    · intro w hSw; (try dsimp only at hSw); go_simp <;> with_reducible rfl
    (try simp only [Act.put, List.setIfInBounds_toArray, List.set_cons_zero, List.set_cons_succ])
    refine wpAnyH_take (i := 5) (oi := ({ dst := some 138, op := Op.move (Operand.tmp 137), type := 4, pos := "law.go:89", after := #[{ on := 4, ground := Ground.data }, { on := 3, ground := Ground.chain }], guard := none } : Oper)) (v := ?_) rfl (by kernel_rfl) (by kernel_rfl) (by kernel_rfl) (fun _ _ _ h => h) (Or.inl ⟨by rfl, ?_⟩) (by assumption) ?_
    rotate_left
    · intro w hSw; (try dsimp only at hSw); go_simp <;> with_reducible rfl
    (try simp only [Act.put, List.setIfInBounds_toArray, List.set_cons_zero, List.set_cons_succ])
    refine wpAnyH_take (i := 6) (oi := ({ dst := some 139, op := Op.load 25 (Operand.tmp 6), type := 25, pos := "law.go:89", after := #[{ on := 5, ground := Ground.guard }], guard := some (5, true) } : Oper)) (v := ?_) rfl (by kernel_rfl) (by kernel_rfl) (by kernel_rfl) (fun _ _ _ h => h) (Or.inl ⟨by rfl, ?_⟩) (by assumption) ?_
    rotate_left
    · intro w hSw; (try dsimp only at hSw); go_simp <;> with_reducible rfl
    (try simp only [Act.put, List.setIfInBounds_toArray, List.set_cons_zero, List.set_cons_succ])
    refine wpAnyH_take (i := 7) (oi := ({ dst := some 140, op := Op.load 25 (Operand.tmp 7), type := 25, pos := "law.go:89", after := #[{ on := 5, ground := Ground.guard }], guard := some (5, true) } : Oper)) (v := ?_) rfl (by kernel_rfl) (by kernel_rfl) (by kernel_rfl) (fun _ _ _ h => h) (Or.inl ⟨by rfl, ?_⟩) (by assumption) ?_
    rotate_left
    · intro w hSw; (try dsimp only at hSw); go_simp <;> with_reducible rfl
    (try simp only [Act.put, List.setIfInBounds_toArray, List.set_cons_zero, List.set_cons_succ])
    refine wpAnyH_take (i := 9) (oi := ({ dst := some 142, op := Op.load 25 (Operand.tmp 9), type := 25, pos := "law.go:89", after := #[{ on := 5, ground := Ground.guard }], guard := some (5, true) } : Oper)) (v := ?_) rfl (by kernel_rfl) (by kernel_rfl) (by kernel_rfl) (fun _ _ _ h => h) (Or.inl ⟨by rfl, ?_⟩) (by assumption) ?_
    rotate_left
    · intro w hSw; (try dsimp only at hSw); go_simp <;> with_reducible rfl
    (try simp only [Act.put, List.setIfInBounds_toArray, List.set_cons_zero, List.set_cons_succ])
    refine wpAnyH_ready (rs := [8]) (by kernel_rfl) (by simp) ?_
    refine AllReadyH.cons (o := ({ dst := some 141, op := Op.call { callee := Callee.value (Operand.func 22), args := #[Operand.tmp 139, Operand.tmp 140], argTypes := #[25, 25] }, type := 25, pos := "law.go:89", after := #[{ on := 6, ground := Ground.data }, { on := 7, ground := Ground.data }, { on := 5, ground := Ground.chain }, { on := 5, ground := Ground.guard }], guard := some (5, true) } : Oper)) rfl (fun K hK => ?_) ?_
    rotate_left
    · exact AllReadyH.nil
    go_simp
    go_at_call 22
    with_reducible refine (min_a HA.out HB.out Q2.out _).mono ?_
    rintro e y1 ⟨rfl, hq1⟩
    have hB1 := below_step hB0 hq1
    clear hHeld
    first | (with_reducible refine hK.out _ _ ?_ (fun hHeld => ?_)) | (go_wp2_with fail; with_reducible refine hK.out _ _ ?_ (fun hHeld => ?_))
    · exact ⟨cell_below hB1 a0, cell_below hB1 a1, cell_below hB1 b0, cell_below hB1 b1, cell_below hB1 l0, cell_below hB1 l1, cell_below hB1 m0, cell_below hB1 m1⟩
    clear hK K
    (try simp only [Act.put, List.setIfInBounds_toArray, List.set_cons_zero, List.set_cons_succ])
    refine wpAnyH_take (i := 10) (oi := ({ dst := some 143, op := Op.binOp BinOp.eql 25 (Operand.tmp 141) (Operand.tmp 142) 25, type := 4, pos := "law.go:89", after := #[{ on := 8, ground := Ground.data }, { on := 9, ground := Ground.data }, { on := 5, ground := Ground.guard }], guard := some (5, true) } : Oper)) (v := ?_) rfl (by kernel_rfl) (by kernel_rfl) (by kernel_rfl) (fun _ _ _ h => h) (Or.inl ⟨by rfl, ?_⟩) (by assumption) ?_
    rotate_left
    · intro w hSw; (try dsimp only at hSw); go_simp <;> with_reducible rfl
    (try simp only [Act.put, List.setIfInBounds_toArray, List.set_cons_zero, List.set_cons_succ])
    refine wpAnyH_take (i := 11) (oi := ({ dst := some 144, op := Op.pick (Operand.tmp 138) (Operand.tmp 143) (Operand.const (Value.bool false)), type := 4, pos := "law.go:89", after := #[{ on := 5, ground := Ground.data }, { on := 10, ground := Ground.data }], guard := none } : Oper)) (v := ?_) rfl (by kernel_rfl) (by kernel_rfl) (by kernel_rfl) (fun _ _ _ h => h) (Or.inl ⟨by rfl, ?_⟩) (by assumption) ?_
    rotate_left
    · intro w hSw; (try dsimp only at hSw); go_simp <;> with_reducible rfl
    (try simp only [Act.put, List.setIfInBounds_toArray, List.set_cons_zero, List.set_cons_succ])
    refine wpAnyH_take (i := 12) (oi := ({ dst := some 145, op := Op.move (Operand.tmp 144), type := 4, pos := "law.go:89", after := #[{ on := 11, ground := Ground.data }, { on := 8, ground := Ground.chain }], guard := none } : Oper)) (v := ?_) rfl (by kernel_rfl) (by kernel_rfl) (by kernel_rfl) (fun _ _ _ h => h) (Or.inl ⟨by rfl, ?_⟩) (by assumption) ?_
    rotate_left
    · intro w hSw; (try dsimp only at hSw); go_simp <;> with_reducible rfl
    (try simp only [Act.put, List.setIfInBounds_toArray, List.set_cons_zero, List.set_cons_succ])
    refine wpAnyH_take (i := 13) (oi := ({ dst := some 146, op := Op.load 25 (Operand.tmp 6), type := 25, pos := "law.go:89", after := #[{ on := 12, ground := Ground.guard }], guard := some (12, true) } : Oper)) (v := ?_) rfl (by kernel_rfl) (by kernel_rfl) (by kernel_rfl) (fun _ _ _ h => h) (Or.inl ⟨by rfl, ?_⟩) (by assumption) ?_
    rotate_left
    · intro w hSw; (try dsimp only at hSw); go_simp <;> with_reducible rfl
    (try simp only [Act.put, List.setIfInBounds_toArray, List.set_cons_zero, List.set_cons_succ])
    refine wpAnyH_take (i := 14) (oi := ({ dst := some 147, op := Op.load 25 (Operand.tmp 7), type := 25, pos := "law.go:89", after := #[{ on := 12, ground := Ground.guard }], guard := some (12, true) } : Oper)) (v := ?_) rfl (by kernel_rfl) (by kernel_rfl) (by kernel_rfl) (fun _ _ _ h => h) (Or.inl ⟨by rfl, ?_⟩) (by assumption) ?_
    rotate_left
    · intro w hSw; (try dsimp only at hSw); go_simp <;> with_reducible rfl
    (try simp only [Act.put, List.setIfInBounds_toArray, List.set_cons_zero, List.set_cons_succ])
    refine wpAnyH_take (i := 16) (oi := ({ dst := some 149, op := Op.load 25 (Operand.tmp 10), type := 25, pos := "law.go:89", after := #[{ on := 12, ground := Ground.guard }], guard := some (12, true) } : Oper)) (v := ?_) rfl (by kernel_rfl) (by kernel_rfl) (by kernel_rfl) (fun _ _ _ h => h) (Or.inl ⟨by rfl, ?_⟩) (by assumption) ?_
    rotate_left
    · intro w hSw; (try dsimp only at hSw); go_simp <;> with_reducible rfl
    (try simp only [Act.put, List.setIfInBounds_toArray, List.set_cons_zero, List.set_cons_succ])
    refine wpAnyH_ready (rs := [15]) (by kernel_rfl) (by simp) ?_
    refine AllReadyH.cons (o := ({ dst := some 148, op := Op.call { callee := Callee.value (Operand.func 23), args := #[Operand.tmp 146, Operand.tmp 147], argTypes := #[25, 25] }, type := 25, pos := "law.go:89", after := #[{ on := 13, ground := Ground.data }, { on := 14, ground := Ground.data }, { on := 12, ground := Ground.chain }, { on := 12, ground := Ground.guard }], guard := some (12, true) } : Oper)) rfl (fun K hK => ?_) ?_
    rotate_left
    · exact AllReadyH.nil
    go_simp
    go_at_call 23
    with_reducible refine (max_a HA.out HB.out Q3.out _).mono ?_
    rintro e y2 ⟨rfl, hq2⟩
    have hB2 := below_step hB1 hq2
    clear hHeld
    first | (with_reducible refine hK.out _ _ ?_ (fun hHeld => ?_)) | (go_wp2_with fail; with_reducible refine hK.out _ _ ?_ (fun hHeld => ?_))
    · exact ⟨cell_below hB2 a0, cell_below hB2 a1, cell_below hB2 b0, cell_below hB2 b1, cell_below hB2 l0, cell_below hB2 l1, cell_below hB2 m0, cell_below hB2 m1⟩
    clear hK K
    (try simp only [Act.put, List.setIfInBounds_toArray, List.set_cons_zero, List.set_cons_succ])
    refine wpAnyH_take (i := 17) (oi := ({ dst := some 150, op := Op.binOp BinOp.eql 25 (Operand.tmp 148) (Operand.tmp 149) 25, type := 4, pos := "law.go:89", after := #[{ on := 15, ground := Ground.data }, { on := 16, ground := Ground.data }, { on := 12, ground := Ground.guard }], guard := some (12, true) } : Oper)) (v := ?_) rfl (by kernel_rfl) (by kernel_rfl) (by kernel_rfl) (fun _ _ _ h => h) (Or.inl ⟨by rfl, ?_⟩) (by assumption) ?_
    rotate_left
    · intro w hSw; (try dsimp only at hSw); go_simp <;> with_reducible rfl
    (try simp only [Act.put, List.setIfInBounds_toArray, List.set_cons_zero, List.set_cons_succ])
    refine wpAnyH_take (i := 18) (oi := ({ dst := some 151, op := Op.pick (Operand.tmp 145) (Operand.tmp 150) (Operand.const (Value.bool false)), type := 4, pos := "law.go:89", after := #[{ on := 12, ground := Ground.data }, { on := 17, ground := Ground.data }], guard := none } : Oper)) (v := ?_) rfl (by kernel_rfl) (by kernel_rfl) (by kernel_rfl) (fun _ _ _ h => h) (Or.inl ⟨by rfl, ?_⟩) (by assumption) ?_
    rotate_left
    · intro w hSw; (try dsimp only at hSw); go_simp <;> with_reducible rfl
    (try simp only [Act.put, List.setIfInBounds_toArray, List.set_cons_zero, List.set_cons_succ])
    refine wpAnyH_take (i := 19) (oi := ({ dst := some 152, op := Op.move (Operand.tmp 151), type := 4, pos := "law.go:89", after := #[{ on := 18, ground := Ground.data }, { on := 15, ground := Ground.chain }], guard := none } : Oper)) (v := ?_) rfl (by kernel_rfl) (by kernel_rfl) (by kernel_rfl) (fun _ _ _ h => h) (Or.inl ⟨by rfl, ?_⟩) (by assumption) ?_
    rotate_left
    · intro w hSw; (try dsimp only at hSw); go_simp <;> with_reducible rfl
    (try simp only [Act.put, List.setIfInBounds_toArray, List.set_cons_zero, List.set_cons_succ])
    refine wpAnyH_take (i := 20) (oi := ({ dst := some 153, op := Op.load 25 (Operand.tmp 6), type := 25, pos := "law.go:89", after := #[{ on := 19, ground := Ground.guard }], guard := some (19, true) } : Oper)) (v := ?_) rfl (by kernel_rfl) (by kernel_rfl) (by kernel_rfl) (fun _ _ _ h => h) (Or.inl ⟨by rfl, ?_⟩) (by assumption) ?_
    rotate_left
    · intro w hSw; (try dsimp only at hSw); go_simp <;> with_reducible rfl
    (try simp only [Act.put, List.setIfInBounds_toArray, List.set_cons_zero, List.set_cons_succ])
    refine wpAnyH_take (i := 22) (oi := ({ dst := some 155, op := Op.load 25 (Operand.tmp 6), type := 25, pos := "law.go:89", after := #[{ on := 19, ground := Ground.guard }], guard := some (19, true) } : Oper)) (v := ?_) rfl (by kernel_rfl) (by kernel_rfl) (by kernel_rfl) (fun _ _ _ h => h) (Or.inl ⟨by rfl, ?_⟩) (by assumption) ?_
    rotate_left
    · intro w hSw; (try dsimp only at hSw); go_simp <;> with_reducible rfl
    (try simp only [Act.put, List.setIfInBounds_toArray, List.set_cons_zero, List.set_cons_succ])
    refine wpAnyH_ready (rs := [21]) (by kernel_rfl) (by simp) ?_
    refine AllReadyH.cons (o := ({ dst := some 154, op := Op.call { callee := Callee.value (Operand.func 24), args := #[Operand.tmp 153], argTypes := #[25] }, type := 9, pos := "law.go:89", after := #[{ on := 20, ground := Ground.data }, { on := 19, ground := Ground.chain }, { on := 19, ground := Ground.guard }], guard := some (19, true) } : Oper)) rfl (fun K hK => ?_) ?_
    rotate_left
    · exact AllReadyH.nil
    go_simp
    go_at_call 24
    with_reducible refine (TX.out _ (glob_below (below_step B10.out hB2) G0.out)).mono ?_
    rintro e y3 ⟨rfl, hq3⟩
    have hB3 := below_step hB2 hq3
    clear hHeld
    first | (with_reducible refine hK.out _ _ ?_ (fun hHeld => ?_)) | (go_wp2_with fail; with_reducible refine hK.out _ _ ?_ (fun hHeld => ?_))
    · exact ⟨cell_below hB3 a0, cell_below hB3 a1, cell_below hB3 b0, cell_below hB3 b1, cell_below hB3 l0, cell_below hB3 l1, cell_below hB3 m0, cell_below hB3 m1⟩
    clear hK K
    (try simp only [Act.put, List.setIfInBounds_toArray, List.set_cons_zero, List.set_cons_succ])
    refine wpAnyH_ready (rs := [23]) (by kernel_rfl) (by simp) ?_
    refine AllReadyH.cons (o := ({ dst := some 156, op := Op.call { callee := Callee.value (Operand.func 25), args := #[Operand.tmp 155], argTypes := #[25] }, type := 9, pos := "law.go:89", after := #[{ on := 22, ground := Ground.data }, { on := 21, ground := Ground.chain }, { on := 19, ground := Ground.guard }], guard := some (19, true) } : Oper)) rfl (fun K hK => ?_) ?_
    rotate_left
    · exact AllReadyH.nil
    go_simp
    go_at_call 25
    with_reducible refine (TR.out _).mono ?_
    rintro e y4 ⟨rfl, hq4⟩
    have hB4 := below_step hB3 hq4
    clear hHeld
    first | (with_reducible refine hK.out _ _ ?_ (fun hHeld => ?_)) | (go_wp2_with fail; with_reducible refine hK.out _ _ ?_ (fun hHeld => ?_))
    · exact ⟨cell_below hB4 a0, cell_below hB4 a1, cell_below hB4 b0, cell_below hB4 b1, cell_below hB4 l0, cell_below hB4 l1, cell_below hB4 m0, cell_below hB4 m1⟩
    clear hK K
    (try simp only [Act.put, List.setIfInBounds_toArray, List.set_cons_zero, List.set_cons_succ])
    refine wpAnyH_take (i := 24) (oi := ({ dst := some 157, op := Op.binOp BinOp.eql 9 (Operand.tmp 154) (Operand.tmp 156) 9, type := 4, pos := "law.go:89", after := #[{ on := 21, ground := Ground.data }, { on := 23, ground := Ground.data }, { on := 19, ground := Ground.guard }], guard := some (19, true) } : Oper)) (v := ?_) rfl (by kernel_rfl) (by kernel_rfl) (by kernel_rfl) (fun _ _ _ h => h) (Or.inl ⟨by rfl, ?_⟩) (by assumption) ?_
    rotate_left
    · intro w hSw; (try dsimp only at hSw); go_simp <;> with_reducible rfl
    (try simp only [Act.put, List.setIfInBounds_toArray, List.set_cons_zero, List.set_cons_succ])
    refine wpAnyH_take (i := 25) (oi := ({ dst := some 158, op := Op.pick (Operand.tmp 152) (Operand.tmp 157) (Operand.const (Value.bool false)), type := 4, pos := "law.go:89", after := #[{ on := 19, ground := Ground.data }, { on := 24, ground := Ground.data }], guard := none } : Oper)) (v := ?_) rfl (by kernel_rfl) (by kernel_rfl) (by kernel_rfl) (fun _ _ _ h => h) (Or.inl ⟨by rfl, ?_⟩) (by assumption) ?_
    rotate_left
    · intro w hSw; (try dsimp only at hSw); go_simp <;> with_reducible rfl
    (try simp only [Act.put, List.setIfInBounds_toArray, List.set_cons_zero, List.set_cons_succ])
    refine wpAnyH_take (i := 26) (oi := ({ dst := some 4, op := Op.assign (Operand.tmp 158), type := 4, pos := "law.go:89", after := #[{ on := 25, ground := Ground.data }, { on := 23, ground := Ground.chain }, { on := 0, ground := Ground.phase }, { on := 1, ground := Ground.phase }, { on := 2, ground := Ground.phase }, { on := 3, ground := Ground.phase }, { on := 4, ground := Ground.phase }, { on := 5, ground := Ground.phase }, { on := 6, ground := Ground.phase }, { on := 7, ground := Ground.phase }, { on := 8, ground := Ground.phase }, { on := 9, ground := Ground.phase }, { on := 10, ground := Ground.phase }, { on := 11, ground := Ground.phase }, { on := 12, ground := Ground.phase }, { on := 13, ground := Ground.phase }, { on := 14, ground := Ground.phase }, { on := 15, ground := Ground.phase }, { on := 16, ground := Ground.phase }, { on := 17, ground := Ground.phase }, { on := 18, ground := Ground.phase }, { on := 19, ground := Ground.phase }, { on := 20, ground := Ground.phase }, { on := 21, ground := Ground.phase }, { on := 22, ground := Ground.phase }, { on := 23, ground := Ground.phase }, { on := 24, ground := Ground.phase }, { on := 25, ground := Ground.phase }], guard := none } : Oper)) (v := ?_) rfl (by kernel_rfl) (by kernel_rfl) (by kernel_rfl) (fun _ _ _ h => h) (Or.inl ⟨by rfl, ?_⟩) (by assumption) ?_
    rotate_left
    · intro w hSw; (try dsimp only at hSw); go_simp <;> with_reducible rfl
    (try simp only [Act.put, List.setIfInBounds_toArray, List.set_cons_zero, List.set_cons_succ])
    refine wpAnyH_done (by kernel_rfl) ?_ _
    have HEND := hid (below_step B0.out (below_step B10.out hB4))
    clear hHeld
    go_wp2_with fail
    go_ret
    exact ⟨rfl, HEND.out⟩
  · have z1 : ¬ zb < 0 := by simpa using q1
    cases qe1 : (aN == bN)
    · clear qe
      obtain ⟨n9, hn9⟩ : ∃ n, y11.heap.size = n := ⟨_, rfl⟩
      have hb7 := below_a0 y11 (.cells #[.int .i64 aN, .int .i64 aD] 25)
      have XA7 := hid (XA6.out.below hb7)
      have XB7 := hid (XB6.out.below hb7)
      have X97 := hid (show Box2 (y11.alloc (.cells #[.int .i64 aN, .int .i64 aD] 25)) n9 (.int .i64 aN) (.int .i64 aD) by rw [← hn9]; exact box2_new _ _ _ _)
      have B7 := hid (below_step B6.out hb7)
      have hne := hid (show na6 ≠ n9 ∧ nb7 ≠ n9 by have := XA6.out.2.2.2.2; have := XB6.out.2.2.2.2; omega)
      obtain ⟨a0, a1, -, -, -⟩ := XA6.out
      obtain ⟨b0, b1, -, -, -⟩ := XB6.out
      obtain ⟨a2, a3, -, -, -⟩ := XA7.out
      obtain ⟨b2, b3, -, -, -⟩ := XB7.out
      clear hb7
      go_wp2_with fail
      refine (C3.out _).mono ?_
      rintro e w8 ⟨rfl, hb⟩
      have XA8 := hid (XA7.out.below hb)
      have XB8 := hid (XB7.out.below hb)
      have X98 := hid (X97.out.below hb)
      have B8 := hid (below_step B7.out hb)
      clear hb a0 a1 b0 b1 a2 a3 b2 b3
      have X99 := X98
      have XA9 := XA8
      have XB9 := XB8
      have B9 := B8
      obtain ⟨m9, hm9⟩ : ∃ n, w8.heap.size = n := ⟨_, rfl⟩
      obtain ⟨a0, a1, -, -, -⟩ := XA9.out
      obtain ⟨b0, b1, -, -, -⟩ := XB9.out
      obtain ⟨l0, l1, -, -, -⟩ := X99.out
      have hbA := below_a0 w8 (.cells #[.int .i64 bN, .int .i64 bD] 25)
      obtain ⟨a2, a3, -, -, -⟩ := XA9.out.below hbA
      obtain ⟨b2, b3, -, -, -⟩ := XB9.out.below hbA
      obtain ⟨l2, l3, -, -, -⟩ := X99.out.below hbA
      go_upto_region 17 with fail
      (try rw [hm9])
      obtain ⟨w10, hw10⟩ : ∃ w10, w8.alloc (.cells #[.int .i64 bN, .int .i64 bD] 25) = w10 := ⟨_, rfl⟩
      have hbB : Below w8.heap.size w8 w10 := by rw [← hw10]; exact below_a0 _ _
      have XM := hid (show Box2 w10 m9 (.int .i64 bN) (.int .i64 bD) by rw [← hw10, ← hm9]; exact box2_new _ _ _ _)
      have B10 := hid (below_step B9.out hbB)
      rw [hw10]
      clear a0 a1 b0 b1 l0 l1 a2 a3 b2 b3 l2 l3 hbA hw10
      obtain ⟨a0, a1, -, -, -⟩ := XA9.out.below hbB
      obtain ⟨b0, b1, -, -, -⟩ := XB9.out.below hbB
      obtain ⟨l0, l1, -, -, -⟩ := X99.out.below hbB
      obtain ⟨m0, m1, -, -, -⟩ := XM.out
      have hsg := (Below.refl w10.heap.size w10).drew
      have Q2 := hid q2
      have Q3 := hid q3
      clear hbB q1 q2 q3 z1 hm9
      refine wp_region_held_drew (S := fun W' => (W'.cell? ⟨na6, 0, none⟩ = some (.int .i64 aN) ∧ W'.cell? ⟨na6, 1, none⟩ = some (.int .i64 aD) ∧ W'.cell? ⟨nb7, 0, none⟩ = some (.int .i64 bN) ∧ W'.cell? ⟨nb7, 1, none⟩ = some (.int .i64 bD) ∧ W'.cell? ⟨n9, 0, none⟩ = some (.int .i64 aN) ∧ W'.cell? ⟨n9, 1, none⟩ = some (.int .i64 aD) ∧ W'.cell? ⟨m9, 0, none⟩ = some (.int .i64 bN) ∧ W'.cell? ⟨m9, 1, none⟩ = some (.int .i64 bD))) (by kernel_rfl) ?_ (fun hHeld => ?_)
      · exact ⟨a0, a1, b0, b1, l0, l1, m0, m1⟩
      refine wpAnyH_take (i := 0) (oi := ({ dst := some 133, op := Op.move (Operand.tmp 5), type := 4, pos := "law.go:89", after := #[], guard := none } : Oper)) (v := ?_) rfl (by kernel_rfl) (by kernel_rfl) (by kernel_rfl) (fun _ _ _ h => h) (Or.inl ⟨by rfl, ?_⟩) (by assumption) ?_
      rotate_left
      · intro w hSw; (try dsimp only at hSw); go_simp <;> with_reducible rfl
      (try simp only [Act.put, List.setIfInBounds_toArray, List.set_cons_zero, List.set_cons_succ])
      refine wpAnyH_take (i := 1) (oi := ({ dst := some 134, op := Op.move (Operand.tmp 133), type := 4, pos := "law.go:89", after := #[{ on := 0, ground := Ground.data }], guard := none } : Oper)) (v := ?_) rfl (by kernel_rfl) (by kernel_rfl) (by kernel_rfl) (fun _ _ _ h => h) (Or.inl ⟨by rfl, ?_⟩) (by assumption) ?_
      rotate_left
      · intro w hSw; (try dsimp only at hSw); go_simp <;> with_reducible rfl
      (try simp only [Act.put, List.setIfInBounds_toArray, List.set_cons_zero, List.set_cons_succ])
      refine wpAnyH_take (i := 2) (oi := ({ dst := some 135, op := Op.load 25 (Operand.tmp 6), type := 25, pos := "law.go:89", after := #[{ on := 1, ground := Ground.guard }], guard := some (1, true) } : Oper)) (v := ?_) rfl (by kernel_rfl) (by kernel_rfl) (by kernel_rfl) (fun _ _ _ h => h) (Or.inl ⟨by rfl, ?_⟩) (by assumption) ?_
      rotate_left
      · intro w hSw; (try dsimp only at hSw); go_simp <;> with_reducible rfl
      (try simp only [Act.put, List.setIfInBounds_toArray, List.set_cons_zero, List.set_cons_succ])
      refine wpAnyH_ready (rs := [3]) (by kernel_rfl) (by simp) ?_
      refine AllReadyH.cons (o := ({ dst := some 136, op := Op.call { callee := Callee.value (Operand.func 7), args := #[Operand.tmp 135], argTypes := #[25] }, type := 4, pos := "law.go:89", after := #[{ on := 2, ground := Ground.data }, { on := 1, ground := Ground.chain }, { on := 1, ground := Ground.guard }], guard := some (1, true) } : Oper)) rfl (fun K hK => ?_) ?_
      rotate_left
      · exact AllReadyH.nil
      go_simp
      go_at_call 7
      with_reducible refine (valid_fr HA.out _).mono ?_
      rintro e y0 ⟨rfl, hq0⟩
      have hB0 := below_step hsg hq0
      clear hHeld
      first | (with_reducible refine hK.out _ _ ?_ (fun hHeld => ?_)) | (go_wp2_with fail; with_reducible refine hK.out _ _ ?_ (fun hHeld => ?_))
      · exact ⟨cell_below hB0 a0, cell_below hB0 a1, cell_below hB0 b0, cell_below hB0 b1, cell_below hB0 l0, cell_below hB0 l1, cell_below hB0 m0, cell_below hB0 m1⟩
      clear hK K
      (try simp only [Act.put, List.setIfInBounds_toArray, List.set_cons_zero, List.set_cons_succ])
      refine wpAnyH_take (i := 4) (oi := ({ dst := some 137, op := Op.pick (Operand.tmp 134) (Operand.tmp 136) (Operand.const (Value.bool false)), type := 4, pos := "law.go:89", after := #[{ on := 1, ground := Ground.data }, { on := 3, ground := Ground.data }], guard := none } : Oper)) (v := ?_) rfl (by kernel_rfl) (by kernel_rfl) (by kernel_rfl) (fun _ _ _ h => h) (Or.inl ⟨by rfl, ?_⟩) (by assumption) ?_
      rotate_left
      · intro w hSw; (try dsimp only at hSw); go_simp <;> with_reducible rfl
      (try simp only [Act.put, List.setIfInBounds_toArray, List.set_cons_zero, List.set_cons_succ])
      refine wpAnyH_take (i := 5) (oi := ({ dst := some 138, op := Op.move (Operand.tmp 137), type := 4, pos := "law.go:89", after := #[{ on := 4, ground := Ground.data }, { on := 3, ground := Ground.chain }], guard := none } : Oper)) (v := ?_) rfl (by kernel_rfl) (by kernel_rfl) (by kernel_rfl) (fun _ _ _ h => h) (Or.inl ⟨by rfl, ?_⟩) (by assumption) ?_
      rotate_left
      · intro w hSw; (try dsimp only at hSw); go_simp <;> with_reducible rfl
      (try simp only [Act.put, List.setIfInBounds_toArray, List.set_cons_zero, List.set_cons_succ])
      refine wpAnyH_take (i := 6) (oi := ({ dst := some 139, op := Op.load 25 (Operand.tmp 6), type := 25, pos := "law.go:89", after := #[{ on := 5, ground := Ground.guard }], guard := some (5, true) } : Oper)) (v := ?_) rfl (by kernel_rfl) (by kernel_rfl) (by kernel_rfl) (fun _ _ _ h => h) (Or.inl ⟨by rfl, ?_⟩) (by assumption) ?_
      rotate_left
      · intro w hSw; (try dsimp only at hSw); go_simp <;> with_reducible rfl
      (try simp only [Act.put, List.setIfInBounds_toArray, List.set_cons_zero, List.set_cons_succ])
      refine wpAnyH_take (i := 7) (oi := ({ dst := some 140, op := Op.load 25 (Operand.tmp 7), type := 25, pos := "law.go:89", after := #[{ on := 5, ground := Ground.guard }], guard := some (5, true) } : Oper)) (v := ?_) rfl (by kernel_rfl) (by kernel_rfl) (by kernel_rfl) (fun _ _ _ h => h) (Or.inl ⟨by rfl, ?_⟩) (by assumption) ?_
      rotate_left
      · intro w hSw; (try dsimp only at hSw); go_simp <;> with_reducible rfl
      (try simp only [Act.put, List.setIfInBounds_toArray, List.set_cons_zero, List.set_cons_succ])
      refine wpAnyH_take (i := 9) (oi := ({ dst := some 142, op := Op.load 25 (Operand.tmp 9), type := 25, pos := "law.go:89", after := #[{ on := 5, ground := Ground.guard }], guard := some (5, true) } : Oper)) (v := ?_) rfl (by kernel_rfl) (by kernel_rfl) (by kernel_rfl) (fun _ _ _ h => h) (Or.inl ⟨by rfl, ?_⟩) (by assumption) ?_
      rotate_left
      · intro w hSw; (try dsimp only at hSw); go_simp <;> with_reducible rfl
      (try simp only [Act.put, List.setIfInBounds_toArray, List.set_cons_zero, List.set_cons_succ])
      refine wpAnyH_ready (rs := [8]) (by kernel_rfl) (by simp) ?_
      refine AllReadyH.cons (o := ({ dst := some 141, op := Op.call { callee := Callee.value (Operand.func 22), args := #[Operand.tmp 139, Operand.tmp 140], argTypes := #[25, 25] }, type := 25, pos := "law.go:89", after := #[{ on := 6, ground := Ground.data }, { on := 7, ground := Ground.data }, { on := 5, ground := Ground.chain }, { on := 5, ground := Ground.guard }], guard := some (5, true) } : Oper)) rfl (fun K hK => ?_) ?_
      rotate_left
      · exact AllReadyH.nil
      go_simp
      go_at_call 22
      with_reducible refine (min_a HA.out HB.out Q2.out _).mono ?_
      rintro e y1 ⟨rfl, hq1⟩
      have hB1 := below_step hB0 hq1
      clear hHeld
      first | (with_reducible refine hK.out _ _ ?_ (fun hHeld => ?_)) | (go_wp2_with fail; with_reducible refine hK.out _ _ ?_ (fun hHeld => ?_))
      · exact ⟨cell_below hB1 a0, cell_below hB1 a1, cell_below hB1 b0, cell_below hB1 b1, cell_below hB1 l0, cell_below hB1 l1, cell_below hB1 m0, cell_below hB1 m1⟩
      clear hK K
      (try simp only [Act.put, List.setIfInBounds_toArray, List.set_cons_zero, List.set_cons_succ])
      refine wpAnyH_take (i := 10) (oi := ({ dst := some 143, op := Op.binOp BinOp.eql 25 (Operand.tmp 141) (Operand.tmp 142) 25, type := 4, pos := "law.go:89", after := #[{ on := 8, ground := Ground.data }, { on := 9, ground := Ground.data }, { on := 5, ground := Ground.guard }], guard := some (5, true) } : Oper)) (v := ?_) rfl (by kernel_rfl) (by kernel_rfl) (by kernel_rfl) (fun _ _ _ h => h) (Or.inl ⟨by rfl, ?_⟩) (by assumption) ?_
      rotate_left
      · intro w hSw; (try dsimp only at hSw); go_simp <;> with_reducible rfl
      (try simp only [Act.put, List.setIfInBounds_toArray, List.set_cons_zero, List.set_cons_succ])
      refine wpAnyH_take (i := 11) (oi := ({ dst := some 144, op := Op.pick (Operand.tmp 138) (Operand.tmp 143) (Operand.const (Value.bool false)), type := 4, pos := "law.go:89", after := #[{ on := 5, ground := Ground.data }, { on := 10, ground := Ground.data }], guard := none } : Oper)) (v := ?_) rfl (by kernel_rfl) (by kernel_rfl) (by kernel_rfl) (fun _ _ _ h => h) (Or.inl ⟨by rfl, ?_⟩) (by assumption) ?_
      rotate_left
      · intro w hSw; (try dsimp only at hSw); go_simp <;> with_reducible rfl
      (try simp only [Act.put, List.setIfInBounds_toArray, List.set_cons_zero, List.set_cons_succ])
      refine wpAnyH_take (i := 12) (oi := ({ dst := some 145, op := Op.move (Operand.tmp 144), type := 4, pos := "law.go:89", after := #[{ on := 11, ground := Ground.data }, { on := 8, ground := Ground.chain }], guard := none } : Oper)) (v := ?_) rfl (by kernel_rfl) (by kernel_rfl) (by kernel_rfl) (fun _ _ _ h => h) (Or.inl ⟨by rfl, ?_⟩) (by assumption) ?_
      rotate_left
      · intro w hSw; (try dsimp only at hSw); go_simp <;> with_reducible rfl
      (try simp only [Act.put, List.setIfInBounds_toArray, List.set_cons_zero, List.set_cons_succ])
      refine wpAnyH_take (i := 13) (oi := ({ dst := some 146, op := Op.load 25 (Operand.tmp 6), type := 25, pos := "law.go:89", after := #[{ on := 12, ground := Ground.guard }], guard := some (12, true) } : Oper)) (v := ?_) rfl (by kernel_rfl) (by kernel_rfl) (by kernel_rfl) (fun _ _ _ h => h) (Or.inl ⟨by rfl, ?_⟩) (by assumption) ?_
      rotate_left
      · intro w hSw; (try dsimp only at hSw); go_simp <;> with_reducible rfl
      (try simp only [Act.put, List.setIfInBounds_toArray, List.set_cons_zero, List.set_cons_succ])
      refine wpAnyH_take (i := 14) (oi := ({ dst := some 147, op := Op.load 25 (Operand.tmp 7), type := 25, pos := "law.go:89", after := #[{ on := 12, ground := Ground.guard }], guard := some (12, true) } : Oper)) (v := ?_) rfl (by kernel_rfl) (by kernel_rfl) (by kernel_rfl) (fun _ _ _ h => h) (Or.inl ⟨by rfl, ?_⟩) (by assumption) ?_
      rotate_left
      · intro w hSw; (try dsimp only at hSw); go_simp <;> with_reducible rfl
      (try simp only [Act.put, List.setIfInBounds_toArray, List.set_cons_zero, List.set_cons_succ])
      refine wpAnyH_take (i := 16) (oi := ({ dst := some 149, op := Op.load 25 (Operand.tmp 10), type := 25, pos := "law.go:89", after := #[{ on := 12, ground := Ground.guard }], guard := some (12, true) } : Oper)) (v := ?_) rfl (by kernel_rfl) (by kernel_rfl) (by kernel_rfl) (fun _ _ _ h => h) (Or.inl ⟨by rfl, ?_⟩) (by assumption) ?_
      rotate_left
      · intro w hSw; (try dsimp only at hSw); go_simp <;> with_reducible rfl
      (try simp only [Act.put, List.setIfInBounds_toArray, List.set_cons_zero, List.set_cons_succ])
      refine wpAnyH_ready (rs := [15]) (by kernel_rfl) (by simp) ?_
      refine AllReadyH.cons (o := ({ dst := some 148, op := Op.call { callee := Callee.value (Operand.func 23), args := #[Operand.tmp 146, Operand.tmp 147], argTypes := #[25, 25] }, type := 25, pos := "law.go:89", after := #[{ on := 13, ground := Ground.data }, { on := 14, ground := Ground.data }, { on := 12, ground := Ground.chain }, { on := 12, ground := Ground.guard }], guard := some (12, true) } : Oper)) rfl (fun K hK => ?_) ?_
      rotate_left
      · exact AllReadyH.nil
      go_simp
      go_at_call 23
      with_reducible refine (max_b HA.out HB.out Q3.out _).mono ?_
      rintro e y2 ⟨rfl, hq2⟩
      have hB2 := below_step hB1 hq2
      clear hHeld
      first | (with_reducible refine hK.out _ _ ?_ (fun hHeld => ?_)) | (go_wp2_with fail; with_reducible refine hK.out _ _ ?_ (fun hHeld => ?_))
      · exact ⟨cell_below hB2 a0, cell_below hB2 a1, cell_below hB2 b0, cell_below hB2 b1, cell_below hB2 l0, cell_below hB2 l1, cell_below hB2 m0, cell_below hB2 m1⟩
      clear hK K
      (try simp only [Act.put, List.setIfInBounds_toArray, List.set_cons_zero, List.set_cons_succ])
      refine wpAnyH_take (i := 17) (oi := ({ dst := some 150, op := Op.binOp BinOp.eql 25 (Operand.tmp 148) (Operand.tmp 149) 25, type := 4, pos := "law.go:89", after := #[{ on := 15, ground := Ground.data }, { on := 16, ground := Ground.data }, { on := 12, ground := Ground.guard }], guard := some (12, true) } : Oper)) (v := ?_) rfl (by kernel_rfl) (by kernel_rfl) (by kernel_rfl) (fun _ _ _ h => h) (Or.inl ⟨by rfl, ?_⟩) (by assumption) ?_
      rotate_left
      · intro w hSw; (try dsimp only at hSw); go_simp <;> with_reducible rfl
      (try simp only [Act.put, List.setIfInBounds_toArray, List.set_cons_zero, List.set_cons_succ])
      refine wpAnyH_take (i := 18) (oi := ({ dst := some 151, op := Op.pick (Operand.tmp 145) (Operand.tmp 150) (Operand.const (Value.bool false)), type := 4, pos := "law.go:89", after := #[{ on := 12, ground := Ground.data }, { on := 17, ground := Ground.data }], guard := none } : Oper)) (v := ?_) rfl (by kernel_rfl) (by kernel_rfl) (by kernel_rfl) (fun _ _ _ h => h) (Or.inl ⟨by rfl, ?_⟩) (by assumption) ?_
      rotate_left
      · intro w hSw; (try dsimp only at hSw); go_simp <;> with_reducible rfl
      (try simp only [Act.put, List.setIfInBounds_toArray, List.set_cons_zero, List.set_cons_succ])
      refine wpAnyH_take (i := 19) (oi := ({ dst := some 152, op := Op.move (Operand.tmp 151), type := 4, pos := "law.go:89", after := #[{ on := 18, ground := Ground.data }, { on := 15, ground := Ground.chain }], guard := none } : Oper)) (v := ?_) rfl (by kernel_rfl) (by kernel_rfl) (by kernel_rfl) (fun _ _ _ h => h) (Or.inl ⟨by rfl, ?_⟩) (by assumption) ?_
      rotate_left
      · intro w hSw; (try dsimp only at hSw); go_simp <;> with_reducible rfl
      (try simp only [Act.put, List.setIfInBounds_toArray, List.set_cons_zero, List.set_cons_succ])
      refine wpAnyH_take (i := 20) (oi := ({ dst := some 153, op := Op.load 25 (Operand.tmp 6), type := 25, pos := "law.go:89", after := #[{ on := 19, ground := Ground.guard }], guard := some (19, true) } : Oper)) (v := ?_) rfl (by kernel_rfl) (by kernel_rfl) (by kernel_rfl) (fun _ _ _ h => h) (Or.inl ⟨by rfl, ?_⟩) (by assumption) ?_
      rotate_left
      · intro w hSw; (try dsimp only at hSw); go_simp <;> with_reducible rfl
      (try simp only [Act.put, List.setIfInBounds_toArray, List.set_cons_zero, List.set_cons_succ])
      refine wpAnyH_take (i := 22) (oi := ({ dst := some 155, op := Op.load 25 (Operand.tmp 6), type := 25, pos := "law.go:89", after := #[{ on := 19, ground := Ground.guard }], guard := some (19, true) } : Oper)) (v := ?_) rfl (by kernel_rfl) (by kernel_rfl) (by kernel_rfl) (fun _ _ _ h => h) (Or.inl ⟨by rfl, ?_⟩) (by assumption) ?_
      rotate_left
      · intro w hSw; (try dsimp only at hSw); go_simp <;> with_reducible rfl
      (try simp only [Act.put, List.setIfInBounds_toArray, List.set_cons_zero, List.set_cons_succ])
      refine wpAnyH_ready (rs := [21]) (by kernel_rfl) (by simp) ?_
      refine AllReadyH.cons (o := ({ dst := some 154, op := Op.call { callee := Callee.value (Operand.func 24), args := #[Operand.tmp 153], argTypes := #[25] }, type := 9, pos := "law.go:89", after := #[{ on := 20, ground := Ground.data }, { on := 19, ground := Ground.chain }, { on := 19, ground := Ground.guard }], guard := some (19, true) } : Oper)) rfl (fun K hK => ?_) ?_
      rotate_left
      · exact AllReadyH.nil
      go_simp
      go_at_call 24
      with_reducible refine (TX.out _ (glob_below (below_step B10.out hB2) G0.out)).mono ?_
      rintro e y3 ⟨rfl, hq3⟩
      have hB3 := below_step hB2 hq3
      clear hHeld
      first | (with_reducible refine hK.out _ _ ?_ (fun hHeld => ?_)) | (go_wp2_with fail; with_reducible refine hK.out _ _ ?_ (fun hHeld => ?_))
      · exact ⟨cell_below hB3 a0, cell_below hB3 a1, cell_below hB3 b0, cell_below hB3 b1, cell_below hB3 l0, cell_below hB3 l1, cell_below hB3 m0, cell_below hB3 m1⟩
      clear hK K
      (try simp only [Act.put, List.setIfInBounds_toArray, List.set_cons_zero, List.set_cons_succ])
      refine wpAnyH_ready (rs := [23]) (by kernel_rfl) (by simp) ?_
      refine AllReadyH.cons (o := ({ dst := some 156, op := Op.call { callee := Callee.value (Operand.func 25), args := #[Operand.tmp 155], argTypes := #[25] }, type := 9, pos := "law.go:89", after := #[{ on := 22, ground := Ground.data }, { on := 21, ground := Ground.chain }, { on := 19, ground := Ground.guard }], guard := some (19, true) } : Oper)) rfl (fun K hK => ?_) ?_
      rotate_left
      · exact AllReadyH.nil
      go_simp
      go_at_call 25
      with_reducible refine (TR.out _).mono ?_
      rintro e y4 ⟨rfl, hq4⟩
      have hB4 := below_step hB3 hq4
      clear hHeld
      first | (with_reducible refine hK.out _ _ ?_ (fun hHeld => ?_)) | (go_wp2_with fail; with_reducible refine hK.out _ _ ?_ (fun hHeld => ?_))
      · exact ⟨cell_below hB4 a0, cell_below hB4 a1, cell_below hB4 b0, cell_below hB4 b1, cell_below hB4 l0, cell_below hB4 l1, cell_below hB4 m0, cell_below hB4 m1⟩
      clear hK K
      (try simp only [Act.put, List.setIfInBounds_toArray, List.set_cons_zero, List.set_cons_succ])
      refine wpAnyH_take (i := 24) (oi := ({ dst := some 157, op := Op.binOp BinOp.eql 9 (Operand.tmp 154) (Operand.tmp 156) 9, type := 4, pos := "law.go:89", after := #[{ on := 21, ground := Ground.data }, { on := 23, ground := Ground.data }, { on := 19, ground := Ground.guard }], guard := some (19, true) } : Oper)) (v := ?_) rfl (by kernel_rfl) (by kernel_rfl) (by kernel_rfl) (fun _ _ _ h => h) (Or.inl ⟨by rfl, ?_⟩) (by assumption) ?_
      rotate_left
      · intro w hSw; (try dsimp only at hSw); go_simp <;> with_reducible rfl
      (try simp only [Act.put, List.setIfInBounds_toArray, List.set_cons_zero, List.set_cons_succ])
      refine wpAnyH_take (i := 25) (oi := ({ dst := some 158, op := Op.pick (Operand.tmp 152) (Operand.tmp 157) (Operand.const (Value.bool false)), type := 4, pos := "law.go:89", after := #[{ on := 19, ground := Ground.data }, { on := 24, ground := Ground.data }], guard := none } : Oper)) (v := ?_) rfl (by kernel_rfl) (by kernel_rfl) (by kernel_rfl) (fun _ _ _ h => h) (Or.inl ⟨by rfl, ?_⟩) (by assumption) ?_
      rotate_left
      · intro w hSw; (try dsimp only at hSw); go_simp <;> with_reducible rfl
      (try simp only [Act.put, List.setIfInBounds_toArray, List.set_cons_zero, List.set_cons_succ])
      refine wpAnyH_take (i := 26) (oi := ({ dst := some 4, op := Op.assign (Operand.tmp 158), type := 4, pos := "law.go:89", after := #[{ on := 25, ground := Ground.data }, { on := 23, ground := Ground.chain }, { on := 0, ground := Ground.phase }, { on := 1, ground := Ground.phase }, { on := 2, ground := Ground.phase }, { on := 3, ground := Ground.phase }, { on := 4, ground := Ground.phase }, { on := 5, ground := Ground.phase }, { on := 6, ground := Ground.phase }, { on := 7, ground := Ground.phase }, { on := 8, ground := Ground.phase }, { on := 9, ground := Ground.phase }, { on := 10, ground := Ground.phase }, { on := 11, ground := Ground.phase }, { on := 12, ground := Ground.phase }, { on := 13, ground := Ground.phase }, { on := 14, ground := Ground.phase }, { on := 15, ground := Ground.phase }, { on := 16, ground := Ground.phase }, { on := 17, ground := Ground.phase }, { on := 18, ground := Ground.phase }, { on := 19, ground := Ground.phase }, { on := 20, ground := Ground.phase }, { on := 21, ground := Ground.phase }, { on := 22, ground := Ground.phase }, { on := 23, ground := Ground.phase }, { on := 24, ground := Ground.phase }, { on := 25, ground := Ground.phase }], guard := none } : Oper)) (v := ?_) rfl (by kernel_rfl) (by kernel_rfl) (by kernel_rfl) (fun _ _ _ h => h) (Or.inl ⟨by rfl, ?_⟩) (by assumption) ?_
      rotate_left
      · intro w hSw; (try dsimp only at hSw); go_simp <;> with_reducible rfl
      (try simp only [Act.put, List.setIfInBounds_toArray, List.set_cons_zero, List.set_cons_succ])
      refine wpAnyH_done (by kernel_rfl) ?_ _
      have HEND := hid (below_step B0.out (below_step B10.out hB4))
      clear hHeld
      go_wp2_with fail
      go_ret
      exact ⟨rfl, HEND.out⟩
    · have qe2 : (aD == bD) = false := by rw [qe1, Bool.true_and] at qe; exact qe
      clear qe
      obtain ⟨n9, hn9⟩ : ∃ n, y11.heap.size = n := ⟨_, rfl⟩
      have hb7 := below_a0 y11 (.cells #[.int .i64 aN, .int .i64 aD] 25)
      have XA7 := hid (XA6.out.below hb7)
      have XB7 := hid (XB6.out.below hb7)
      have X97 := hid (show Box2 (y11.alloc (.cells #[.int .i64 aN, .int .i64 aD] 25)) n9 (.int .i64 aN) (.int .i64 aD) by rw [← hn9]; exact box2_new _ _ _ _)
      have B7 := hid (below_step B6.out hb7)
      have hne := hid (show na6 ≠ n9 ∧ nb7 ≠ n9 by have := XA6.out.2.2.2.2; have := XB6.out.2.2.2.2; omega)
      obtain ⟨a0, a1, -, -, -⟩ := XA6.out
      obtain ⟨b0, b1, -, -, -⟩ := XB6.out
      obtain ⟨a2, a3, -, -, -⟩ := XA7.out
      obtain ⟨b2, b3, -, -, -⟩ := XB7.out
      clear hb7
      go_wp2_with fail
      refine (C3.out _).mono ?_
      rintro e w8 ⟨rfl, hb⟩
      have XA8 := hid (XA7.out.below hb)
      have XB8 := hid (XB7.out.below hb)
      have X98 := hid (X97.out.below hb)
      have B8 := hid (below_step B7.out hb)
      clear hb a0 a1 b0 b1 a2 a3 b2 b3
      have X99 := X98
      have XA9 := XA8
      have XB9 := XB8
      have B9 := B8
      obtain ⟨m9, hm9⟩ : ∃ n, w8.heap.size = n := ⟨_, rfl⟩
      obtain ⟨a0, a1, -, -, -⟩ := XA9.out
      obtain ⟨b0, b1, -, -, -⟩ := XB9.out
      obtain ⟨l0, l1, -, -, -⟩ := X99.out
      have hbA := below_a0 w8 (.cells #[.int .i64 bN, .int .i64 bD] 25)
      obtain ⟨a2, a3, -, -, -⟩ := XA9.out.below hbA
      obtain ⟨b2, b3, -, -, -⟩ := XB9.out.below hbA
      obtain ⟨l2, l3, -, -, -⟩ := X99.out.below hbA
      go_upto_region 17 with fail
      (try rw [hm9])
      obtain ⟨w10, hw10⟩ : ∃ w10, w8.alloc (.cells #[.int .i64 bN, .int .i64 bD] 25) = w10 := ⟨_, rfl⟩
      have hbB : Below w8.heap.size w8 w10 := by rw [← hw10]; exact below_a0 _ _
      have XM := hid (show Box2 w10 m9 (.int .i64 bN) (.int .i64 bD) by rw [← hw10, ← hm9]; exact box2_new _ _ _ _)
      have B10 := hid (below_step B9.out hbB)
      rw [hw10]
      clear a0 a1 b0 b1 l0 l1 a2 a3 b2 b3 l2 l3 hbA hw10
      obtain ⟨a0, a1, -, -, -⟩ := XA9.out.below hbB
      obtain ⟨b0, b1, -, -, -⟩ := XB9.out.below hbB
      obtain ⟨l0, l1, -, -, -⟩ := X99.out.below hbB
      obtain ⟨m0, m1, -, -, -⟩ := XM.out
      have hsg := (Below.refl w10.heap.size w10).drew
      have Q2 := hid q2
      have Q3 := hid q3
      clear hbB q1 q2 q3 z1 hm9
      refine wp_region_held_drew (S := fun W' => (W'.cell? ⟨na6, 0, none⟩ = some (.int .i64 aN) ∧ W'.cell? ⟨na6, 1, none⟩ = some (.int .i64 aD) ∧ W'.cell? ⟨nb7, 0, none⟩ = some (.int .i64 bN) ∧ W'.cell? ⟨nb7, 1, none⟩ = some (.int .i64 bD) ∧ W'.cell? ⟨n9, 0, none⟩ = some (.int .i64 aN) ∧ W'.cell? ⟨n9, 1, none⟩ = some (.int .i64 aD) ∧ W'.cell? ⟨m9, 0, none⟩ = some (.int .i64 bN) ∧ W'.cell? ⟨m9, 1, none⟩ = some (.int .i64 bD))) (by kernel_rfl) ?_ (fun hHeld => ?_)
      · exact ⟨a0, a1, b0, b1, l0, l1, m0, m1⟩
      refine wpAnyH_take (i := 0) (oi := ({ dst := some 133, op := Op.move (Operand.tmp 5), type := 4, pos := "law.go:89", after := #[], guard := none } : Oper)) (v := ?_) rfl (by kernel_rfl) (by kernel_rfl) (by kernel_rfl) (fun _ _ _ h => h) (Or.inl ⟨by rfl, ?_⟩) (by assumption) ?_
      rotate_left
      · intro w hSw; (try dsimp only at hSw); go_simp <;> with_reducible rfl
      (try simp only [Act.put, List.setIfInBounds_toArray, List.set_cons_zero, List.set_cons_succ])
      refine wpAnyH_take (i := 1) (oi := ({ dst := some 134, op := Op.move (Operand.tmp 133), type := 4, pos := "law.go:89", after := #[{ on := 0, ground := Ground.data }], guard := none } : Oper)) (v := ?_) rfl (by kernel_rfl) (by kernel_rfl) (by kernel_rfl) (fun _ _ _ h => h) (Or.inl ⟨by rfl, ?_⟩) (by assumption) ?_
      rotate_left
      · intro w hSw; (try dsimp only at hSw); go_simp <;> with_reducible rfl
      (try simp only [Act.put, List.setIfInBounds_toArray, List.set_cons_zero, List.set_cons_succ])
      refine wpAnyH_take (i := 2) (oi := ({ dst := some 135, op := Op.load 25 (Operand.tmp 6), type := 25, pos := "law.go:89", after := #[{ on := 1, ground := Ground.guard }], guard := some (1, true) } : Oper)) (v := ?_) rfl (by kernel_rfl) (by kernel_rfl) (by kernel_rfl) (fun _ _ _ h => h) (Or.inl ⟨by rfl, ?_⟩) (by assumption) ?_
      rotate_left
      · intro w hSw; (try dsimp only at hSw); go_simp <;> with_reducible rfl
      (try simp only [Act.put, List.setIfInBounds_toArray, List.set_cons_zero, List.set_cons_succ])
      refine wpAnyH_ready (rs := [3]) (by kernel_rfl) (by simp) ?_
      refine AllReadyH.cons (o := ({ dst := some 136, op := Op.call { callee := Callee.value (Operand.func 7), args := #[Operand.tmp 135], argTypes := #[25] }, type := 4, pos := "law.go:89", after := #[{ on := 2, ground := Ground.data }, { on := 1, ground := Ground.chain }, { on := 1, ground := Ground.guard }], guard := some (1, true) } : Oper)) rfl (fun K hK => ?_) ?_
      rotate_left
      · exact AllReadyH.nil
      go_simp
      go_at_call 7
      with_reducible refine (valid_fr HA.out _).mono ?_
      rintro e y0 ⟨rfl, hq0⟩
      have hB0 := below_step hsg hq0
      clear hHeld
      first | (with_reducible refine hK.out _ _ ?_ (fun hHeld => ?_)) | (go_wp2_with fail; with_reducible refine hK.out _ _ ?_ (fun hHeld => ?_))
      · exact ⟨cell_below hB0 a0, cell_below hB0 a1, cell_below hB0 b0, cell_below hB0 b1, cell_below hB0 l0, cell_below hB0 l1, cell_below hB0 m0, cell_below hB0 m1⟩
      clear hK K
      (try simp only [Act.put, List.setIfInBounds_toArray, List.set_cons_zero, List.set_cons_succ])
      refine wpAnyH_take (i := 4) (oi := ({ dst := some 137, op := Op.pick (Operand.tmp 134) (Operand.tmp 136) (Operand.const (Value.bool false)), type := 4, pos := "law.go:89", after := #[{ on := 1, ground := Ground.data }, { on := 3, ground := Ground.data }], guard := none } : Oper)) (v := ?_) rfl (by kernel_rfl) (by kernel_rfl) (by kernel_rfl) (fun _ _ _ h => h) (Or.inl ⟨by rfl, ?_⟩) (by assumption) ?_
      rotate_left
      · intro w hSw; (try dsimp only at hSw); go_simp <;> with_reducible rfl
      (try simp only [Act.put, List.setIfInBounds_toArray, List.set_cons_zero, List.set_cons_succ])
      refine wpAnyH_take (i := 5) (oi := ({ dst := some 138, op := Op.move (Operand.tmp 137), type := 4, pos := "law.go:89", after := #[{ on := 4, ground := Ground.data }, { on := 3, ground := Ground.chain }], guard := none } : Oper)) (v := ?_) rfl (by kernel_rfl) (by kernel_rfl) (by kernel_rfl) (fun _ _ _ h => h) (Or.inl ⟨by rfl, ?_⟩) (by assumption) ?_
      rotate_left
      · intro w hSw; (try dsimp only at hSw); go_simp <;> with_reducible rfl
      (try simp only [Act.put, List.setIfInBounds_toArray, List.set_cons_zero, List.set_cons_succ])
      refine wpAnyH_take (i := 6) (oi := ({ dst := some 139, op := Op.load 25 (Operand.tmp 6), type := 25, pos := "law.go:89", after := #[{ on := 5, ground := Ground.guard }], guard := some (5, true) } : Oper)) (v := ?_) rfl (by kernel_rfl) (by kernel_rfl) (by kernel_rfl) (fun _ _ _ h => h) (Or.inl ⟨by rfl, ?_⟩) (by assumption) ?_
      rotate_left
      · intro w hSw; (try dsimp only at hSw); go_simp <;> with_reducible rfl
      (try simp only [Act.put, List.setIfInBounds_toArray, List.set_cons_zero, List.set_cons_succ])
      refine wpAnyH_take (i := 7) (oi := ({ dst := some 140, op := Op.load 25 (Operand.tmp 7), type := 25, pos := "law.go:89", after := #[{ on := 5, ground := Ground.guard }], guard := some (5, true) } : Oper)) (v := ?_) rfl (by kernel_rfl) (by kernel_rfl) (by kernel_rfl) (fun _ _ _ h => h) (Or.inl ⟨by rfl, ?_⟩) (by assumption) ?_
      rotate_left
      · intro w hSw; (try dsimp only at hSw); go_simp <;> with_reducible rfl
      (try simp only [Act.put, List.setIfInBounds_toArray, List.set_cons_zero, List.set_cons_succ])
      refine wpAnyH_take (i := 9) (oi := ({ dst := some 142, op := Op.load 25 (Operand.tmp 9), type := 25, pos := "law.go:89", after := #[{ on := 5, ground := Ground.guard }], guard := some (5, true) } : Oper)) (v := ?_) rfl (by kernel_rfl) (by kernel_rfl) (by kernel_rfl) (fun _ _ _ h => h) (Or.inl ⟨by rfl, ?_⟩) (by assumption) ?_
      rotate_left
      · intro w hSw; (try dsimp only at hSw); go_simp <;> with_reducible rfl
      (try simp only [Act.put, List.setIfInBounds_toArray, List.set_cons_zero, List.set_cons_succ])
      refine wpAnyH_ready (rs := [8]) (by kernel_rfl) (by simp) ?_
      refine AllReadyH.cons (o := ({ dst := some 141, op := Op.call { callee := Callee.value (Operand.func 22), args := #[Operand.tmp 139, Operand.tmp 140], argTypes := #[25, 25] }, type := 25, pos := "law.go:89", after := #[{ on := 6, ground := Ground.data }, { on := 7, ground := Ground.data }, { on := 5, ground := Ground.chain }, { on := 5, ground := Ground.guard }], guard := some (5, true) } : Oper)) rfl (fun K hK => ?_) ?_
      rotate_left
      · exact AllReadyH.nil
      go_simp
      go_at_call 22
      with_reducible refine (min_a HA.out HB.out Q2.out _).mono ?_
      rintro e y1 ⟨rfl, hq1⟩
      have hB1 := below_step hB0 hq1
      clear hHeld
      first | (with_reducible refine hK.out _ _ ?_ (fun hHeld => ?_)) | (go_wp2_with fail; with_reducible refine hK.out _ _ ?_ (fun hHeld => ?_))
      · exact ⟨cell_below hB1 a0, cell_below hB1 a1, cell_below hB1 b0, cell_below hB1 b1, cell_below hB1 l0, cell_below hB1 l1, cell_below hB1 m0, cell_below hB1 m1⟩
      clear hK K
      (try simp only [Act.put, List.setIfInBounds_toArray, List.set_cons_zero, List.set_cons_succ])
      refine wpAnyH_take (i := 10) (oi := ({ dst := some 143, op := Op.binOp BinOp.eql 25 (Operand.tmp 141) (Operand.tmp 142) 25, type := 4, pos := "law.go:89", after := #[{ on := 8, ground := Ground.data }, { on := 9, ground := Ground.data }, { on := 5, ground := Ground.guard }], guard := some (5, true) } : Oper)) (v := ?_) rfl (by kernel_rfl) (by kernel_rfl) (by kernel_rfl) (fun _ _ _ h => h) (Or.inl ⟨by rfl, ?_⟩) (by assumption) ?_
      rotate_left
      · intro w hSw; (try dsimp only at hSw); go_simp <;> with_reducible rfl
      (try simp only [Act.put, List.setIfInBounds_toArray, List.set_cons_zero, List.set_cons_succ])
      refine wpAnyH_take (i := 11) (oi := ({ dst := some 144, op := Op.pick (Operand.tmp 138) (Operand.tmp 143) (Operand.const (Value.bool false)), type := 4, pos := "law.go:89", after := #[{ on := 5, ground := Ground.data }, { on := 10, ground := Ground.data }], guard := none } : Oper)) (v := ?_) rfl (by kernel_rfl) (by kernel_rfl) (by kernel_rfl) (fun _ _ _ h => h) (Or.inl ⟨by rfl, ?_⟩) (by assumption) ?_
      rotate_left
      · intro w hSw; (try dsimp only at hSw); go_simp <;> with_reducible rfl
      (try simp only [Act.put, List.setIfInBounds_toArray, List.set_cons_zero, List.set_cons_succ])
      refine wpAnyH_take (i := 12) (oi := ({ dst := some 145, op := Op.move (Operand.tmp 144), type := 4, pos := "law.go:89", after := #[{ on := 11, ground := Ground.data }, { on := 8, ground := Ground.chain }], guard := none } : Oper)) (v := ?_) rfl (by kernel_rfl) (by kernel_rfl) (by kernel_rfl) (fun _ _ _ h => h) (Or.inl ⟨by rfl, ?_⟩) (by assumption) ?_
      rotate_left
      · intro w hSw; (try dsimp only at hSw); go_simp <;> with_reducible rfl
      (try simp only [Act.put, List.setIfInBounds_toArray, List.set_cons_zero, List.set_cons_succ])
      refine wpAnyH_take (i := 13) (oi := ({ dst := some 146, op := Op.load 25 (Operand.tmp 6), type := 25, pos := "law.go:89", after := #[{ on := 12, ground := Ground.guard }], guard := some (12, true) } : Oper)) (v := ?_) rfl (by kernel_rfl) (by kernel_rfl) (by kernel_rfl) (fun _ _ _ h => h) (Or.inl ⟨by rfl, ?_⟩) (by assumption) ?_
      rotate_left
      · intro w hSw; (try dsimp only at hSw); go_simp <;> with_reducible rfl
      (try simp only [Act.put, List.setIfInBounds_toArray, List.set_cons_zero, List.set_cons_succ])
      refine wpAnyH_take (i := 14) (oi := ({ dst := some 147, op := Op.load 25 (Operand.tmp 7), type := 25, pos := "law.go:89", after := #[{ on := 12, ground := Ground.guard }], guard := some (12, true) } : Oper)) (v := ?_) rfl (by kernel_rfl) (by kernel_rfl) (by kernel_rfl) (fun _ _ _ h => h) (Or.inl ⟨by rfl, ?_⟩) (by assumption) ?_
      rotate_left
      · intro w hSw; (try dsimp only at hSw); go_simp <;> with_reducible rfl
      (try simp only [Act.put, List.setIfInBounds_toArray, List.set_cons_zero, List.set_cons_succ])
      refine wpAnyH_take (i := 16) (oi := ({ dst := some 149, op := Op.load 25 (Operand.tmp 10), type := 25, pos := "law.go:89", after := #[{ on := 12, ground := Ground.guard }], guard := some (12, true) } : Oper)) (v := ?_) rfl (by kernel_rfl) (by kernel_rfl) (by kernel_rfl) (fun _ _ _ h => h) (Or.inl ⟨by rfl, ?_⟩) (by assumption) ?_
      rotate_left
      · intro w hSw; (try dsimp only at hSw); go_simp <;> with_reducible rfl
      (try simp only [Act.put, List.setIfInBounds_toArray, List.set_cons_zero, List.set_cons_succ])
      refine wpAnyH_ready (rs := [15]) (by kernel_rfl) (by simp) ?_
      refine AllReadyH.cons (o := ({ dst := some 148, op := Op.call { callee := Callee.value (Operand.func 23), args := #[Operand.tmp 146, Operand.tmp 147], argTypes := #[25, 25] }, type := 25, pos := "law.go:89", after := #[{ on := 13, ground := Ground.data }, { on := 14, ground := Ground.data }, { on := 12, ground := Ground.chain }, { on := 12, ground := Ground.guard }], guard := some (12, true) } : Oper)) rfl (fun K hK => ?_) ?_
      rotate_left
      · exact AllReadyH.nil
      go_simp
      go_at_call 23
      with_reducible refine (max_b HA.out HB.out Q3.out _).mono ?_
      rintro e y2 ⟨rfl, hq2⟩
      have hB2 := below_step hB1 hq2
      clear hHeld
      first | (with_reducible refine hK.out _ _ ?_ (fun hHeld => ?_)) | (go_wp2_with fail; with_reducible refine hK.out _ _ ?_ (fun hHeld => ?_))
      · exact ⟨cell_below hB2 a0, cell_below hB2 a1, cell_below hB2 b0, cell_below hB2 b1, cell_below hB2 l0, cell_below hB2 l1, cell_below hB2 m0, cell_below hB2 m1⟩
      clear hK K
      (try simp only [Act.put, List.setIfInBounds_toArray, List.set_cons_zero, List.set_cons_succ])
      refine wpAnyH_take (i := 17) (oi := ({ dst := some 150, op := Op.binOp BinOp.eql 25 (Operand.tmp 148) (Operand.tmp 149) 25, type := 4, pos := "law.go:89", after := #[{ on := 15, ground := Ground.data }, { on := 16, ground := Ground.data }, { on := 12, ground := Ground.guard }], guard := some (12, true) } : Oper)) (v := ?_) rfl (by kernel_rfl) (by kernel_rfl) (by kernel_rfl) (fun _ _ _ h => h) (Or.inl ⟨by rfl, ?_⟩) (by assumption) ?_
      rotate_left
      · intro w hSw; (try dsimp only at hSw); go_simp <;> with_reducible rfl
      (try simp only [Act.put, List.setIfInBounds_toArray, List.set_cons_zero, List.set_cons_succ])
      refine wpAnyH_take (i := 18) (oi := ({ dst := some 151, op := Op.pick (Operand.tmp 145) (Operand.tmp 150) (Operand.const (Value.bool false)), type := 4, pos := "law.go:89", after := #[{ on := 12, ground := Ground.data }, { on := 17, ground := Ground.data }], guard := none } : Oper)) (v := ?_) rfl (by kernel_rfl) (by kernel_rfl) (by kernel_rfl) (fun _ _ _ h => h) (Or.inl ⟨by rfl, ?_⟩) (by assumption) ?_
      rotate_left
      · intro w hSw; (try dsimp only at hSw); go_simp <;> with_reducible rfl
      (try simp only [Act.put, List.setIfInBounds_toArray, List.set_cons_zero, List.set_cons_succ])
      refine wpAnyH_take (i := 19) (oi := ({ dst := some 152, op := Op.move (Operand.tmp 151), type := 4, pos := "law.go:89", after := #[{ on := 18, ground := Ground.data }, { on := 15, ground := Ground.chain }], guard := none } : Oper)) (v := ?_) rfl (by kernel_rfl) (by kernel_rfl) (by kernel_rfl) (fun _ _ _ h => h) (Or.inl ⟨by rfl, ?_⟩) (by assumption) ?_
      rotate_left
      · intro w hSw; (try dsimp only at hSw); go_simp <;> with_reducible rfl
      (try simp only [Act.put, List.setIfInBounds_toArray, List.set_cons_zero, List.set_cons_succ])
      refine wpAnyH_take (i := 20) (oi := ({ dst := some 153, op := Op.load 25 (Operand.tmp 6), type := 25, pos := "law.go:89", after := #[{ on := 19, ground := Ground.guard }], guard := some (19, true) } : Oper)) (v := ?_) rfl (by kernel_rfl) (by kernel_rfl) (by kernel_rfl) (fun _ _ _ h => h) (Or.inl ⟨by rfl, ?_⟩) (by assumption) ?_
      rotate_left
      · intro w hSw; (try dsimp only at hSw); go_simp <;> with_reducible rfl
      (try simp only [Act.put, List.setIfInBounds_toArray, List.set_cons_zero, List.set_cons_succ])
      refine wpAnyH_take (i := 22) (oi := ({ dst := some 155, op := Op.load 25 (Operand.tmp 6), type := 25, pos := "law.go:89", after := #[{ on := 19, ground := Ground.guard }], guard := some (19, true) } : Oper)) (v := ?_) rfl (by kernel_rfl) (by kernel_rfl) (by kernel_rfl) (fun _ _ _ h => h) (Or.inl ⟨by rfl, ?_⟩) (by assumption) ?_
      rotate_left
      · intro w hSw; (try dsimp only at hSw); go_simp <;> with_reducible rfl
      (try simp only [Act.put, List.setIfInBounds_toArray, List.set_cons_zero, List.set_cons_succ])
      refine wpAnyH_ready (rs := [21]) (by kernel_rfl) (by simp) ?_
      refine AllReadyH.cons (o := ({ dst := some 154, op := Op.call { callee := Callee.value (Operand.func 24), args := #[Operand.tmp 153], argTypes := #[25] }, type := 9, pos := "law.go:89", after := #[{ on := 20, ground := Ground.data }, { on := 19, ground := Ground.chain }, { on := 19, ground := Ground.guard }], guard := some (19, true) } : Oper)) rfl (fun K hK => ?_) ?_
      rotate_left
      · exact AllReadyH.nil
      go_simp
      go_at_call 24
      with_reducible refine (TX.out _ (glob_below (below_step B10.out hB2) G0.out)).mono ?_
      rintro e y3 ⟨rfl, hq3⟩
      have hB3 := below_step hB2 hq3
      clear hHeld
      first | (with_reducible refine hK.out _ _ ?_ (fun hHeld => ?_)) | (go_wp2_with fail; with_reducible refine hK.out _ _ ?_ (fun hHeld => ?_))
      · exact ⟨cell_below hB3 a0, cell_below hB3 a1, cell_below hB3 b0, cell_below hB3 b1, cell_below hB3 l0, cell_below hB3 l1, cell_below hB3 m0, cell_below hB3 m1⟩
      clear hK K
      (try simp only [Act.put, List.setIfInBounds_toArray, List.set_cons_zero, List.set_cons_succ])
      refine wpAnyH_ready (rs := [23]) (by kernel_rfl) (by simp) ?_
      refine AllReadyH.cons (o := ({ dst := some 156, op := Op.call { callee := Callee.value (Operand.func 25), args := #[Operand.tmp 155], argTypes := #[25] }, type := 9, pos := "law.go:89", after := #[{ on := 22, ground := Ground.data }, { on := 21, ground := Ground.chain }, { on := 19, ground := Ground.guard }], guard := some (19, true) } : Oper)) rfl (fun K hK => ?_) ?_
      rotate_left
      · exact AllReadyH.nil
      go_simp
      go_at_call 25
      with_reducible refine (TR.out _).mono ?_
      rintro e y4 ⟨rfl, hq4⟩
      have hB4 := below_step hB3 hq4
      clear hHeld
      first | (with_reducible refine hK.out _ _ ?_ (fun hHeld => ?_)) | (go_wp2_with fail; with_reducible refine hK.out _ _ ?_ (fun hHeld => ?_))
      · exact ⟨cell_below hB4 a0, cell_below hB4 a1, cell_below hB4 b0, cell_below hB4 b1, cell_below hB4 l0, cell_below hB4 l1, cell_below hB4 m0, cell_below hB4 m1⟩
      clear hK K
      (try simp only [Act.put, List.setIfInBounds_toArray, List.set_cons_zero, List.set_cons_succ])
      refine wpAnyH_take (i := 24) (oi := ({ dst := some 157, op := Op.binOp BinOp.eql 9 (Operand.tmp 154) (Operand.tmp 156) 9, type := 4, pos := "law.go:89", after := #[{ on := 21, ground := Ground.data }, { on := 23, ground := Ground.data }, { on := 19, ground := Ground.guard }], guard := some (19, true) } : Oper)) (v := ?_) rfl (by kernel_rfl) (by kernel_rfl) (by kernel_rfl) (fun _ _ _ h => h) (Or.inl ⟨by rfl, ?_⟩) (by assumption) ?_
      rotate_left
      · intro w hSw; (try dsimp only at hSw); go_simp <;> with_reducible rfl
      (try simp only [Act.put, List.setIfInBounds_toArray, List.set_cons_zero, List.set_cons_succ])
      refine wpAnyH_take (i := 25) (oi := ({ dst := some 158, op := Op.pick (Operand.tmp 152) (Operand.tmp 157) (Operand.const (Value.bool false)), type := 4, pos := "law.go:89", after := #[{ on := 19, ground := Ground.data }, { on := 24, ground := Ground.data }], guard := none } : Oper)) (v := ?_) rfl (by kernel_rfl) (by kernel_rfl) (by kernel_rfl) (fun _ _ _ h => h) (Or.inl ⟨by rfl, ?_⟩) (by assumption) ?_
      rotate_left
      · intro w hSw; (try dsimp only at hSw); go_simp <;> with_reducible rfl
      (try simp only [Act.put, List.setIfInBounds_toArray, List.set_cons_zero, List.set_cons_succ])
      refine wpAnyH_take (i := 26) (oi := ({ dst := some 4, op := Op.assign (Operand.tmp 158), type := 4, pos := "law.go:89", after := #[{ on := 25, ground := Ground.data }, { on := 23, ground := Ground.chain }, { on := 0, ground := Ground.phase }, { on := 1, ground := Ground.phase }, { on := 2, ground := Ground.phase }, { on := 3, ground := Ground.phase }, { on := 4, ground := Ground.phase }, { on := 5, ground := Ground.phase }, { on := 6, ground := Ground.phase }, { on := 7, ground := Ground.phase }, { on := 8, ground := Ground.phase }, { on := 9, ground := Ground.phase }, { on := 10, ground := Ground.phase }, { on := 11, ground := Ground.phase }, { on := 12, ground := Ground.phase }, { on := 13, ground := Ground.phase }, { on := 14, ground := Ground.phase }, { on := 15, ground := Ground.phase }, { on := 16, ground := Ground.phase }, { on := 17, ground := Ground.phase }, { on := 18, ground := Ground.phase }, { on := 19, ground := Ground.phase }, { on := 20, ground := Ground.phase }, { on := 21, ground := Ground.phase }, { on := 22, ground := Ground.phase }, { on := 23, ground := Ground.phase }, { on := 24, ground := Ground.phase }, { on := 25, ground := Ground.phase }], guard := none } : Oper)) (v := ?_) rfl (by kernel_rfl) (by kernel_rfl) (by kernel_rfl) (fun _ _ _ h => h) (Or.inl ⟨by rfl, ?_⟩) (by assumption) ?_
      rotate_left
      · intro w hSw; (try dsimp only at hSw); go_simp <;> with_reducible rfl
      (try simp only [Act.put, List.setIfInBounds_toArray, List.set_cons_zero, List.set_cons_succ])
      refine wpAnyH_done (by kernel_rfl) ?_ _
      have HEND := hid (below_step B0.out (below_step B10.out hB4))
      clear hHeld
      go_wp2_with fail
      go_ret
      exact ⟨rfl, HEND.out⟩

end Go.Proofs.YtffcnkkgbhhfnaaGreatDoor

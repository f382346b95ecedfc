import Derived.Test.YtffcnkkgbhhfnaaGreatDoorRbd
namespace Go.Proofs.YtffcnkkgbhhfnaaGreatDoor
open Go.RowKit Go.Instr
set_option linter.unusedVariables false

/-! The reference's 'product', 'sum', 'made'. -/
/-- A number with a sign. -/
def sv (b : Bool) (n : Nat) : Int := if b = true then -(n : Int) else (n : Int)
theorem sv_mul (a b : Int) : sv (decide (a < 0) != decide (b < 0)) (a.natAbs * b.natAbs) = a * b := by
  have e : ((a.natAbs * b.natAbs : Nat) : Int) = (a.natAbs : Int) * (b.natAbs : Int) := by simp
  unfold sv
  rw [e]
  by_cases h1 : a < 0 <;> by_cases h2 : b < 0
  · rw [show (a.natAbs : Int) = -a by omega, show (b.natAbs : Int) = -b by omega]; simp [h1, h2, Int.neg_mul, Int.mul_neg, Int.neg_neg]
  · rw [show (a.natAbs : Int) = -a by omega, show (b.natAbs : Int) = b by omega]; simp [h1, h2, Int.neg_mul, Int.mul_neg, Int.neg_neg]
  · rw [show (a.natAbs : Int) = a by omega, show (b.natAbs : Int) = -b by omega]; simp [h1, h2, Int.neg_mul, Int.mul_neg, Int.neg_neg]
  · rw [show (a.natAbs : Int) = a by omega, show (b.natAbs : Int) = b by omega]; simp [h1, h2, Int.neg_mul, Int.mul_neg, Int.neg_neg]
/-- A box of two cells that stays writable. -/
def Box2 (w : World) (b : Nat) (x y : Value) : Prop := w.cell? ⟨b, 0, none⟩ = some x ∧ w.cell? ⟨b, 1, none⟩ = some y ∧ w.frozen? ⟨b, 0, none⟩ = false ∧ w.frozen? ⟨b, 1, none⟩ = false ∧ b < w.heap.size
theorem Box2.below {w w' : World} {b : Nat} {x y : Value} (h : Box2 w b x y) (hb : Below w.heap.size w w') : Box2 w' b x y :=
  ⟨cell_below hb h.1, cell_below hb h.2.1, (hb.frozen (p := ⟨b, 0, none⟩) h.2.2.2.2).trans h.2.2.1, (hb.frozen (p := ⟨b, 1, none⟩) h.2.2.2.2).trans h.2.2.2.1, Nat.lt_of_lt_of_le h.2.2.2.2 hb.size⟩
theorem box2_new (w : World) (x y : Value) (t : TypeId) : Box2 (w.alloc (.cells #[x, y] t)) w.heap.size x y := ⟨by simp [go_sem], by simp [go_sem], by simp [go_sem], by simp [go_sem], by simp⟩
theorem bits_len {n : Nat} (h : n < 2 ^ 250) : (bitsN n).length ≤ 250 := bitsN_len 250 n h
set_option maxRecDepth 100000 in
set_option maxHeartbeats 4000000 in
theorem product_bits (a b : Int) (h1 : -9223372036854775807 ≤ a) (h2 : a ≤ 9223372036854775807) (h3 : -9223372036854775807 ≤ b) (h4 : b ≤ 9223372036854775807) (w : World) :
    Calls Tryz.prog 35 #[.int .i64 a, .int .i64 b] w fun e w' => ∃ x, e = .returned (.agg #[.bool (decide (a < 0) != decide (b < 0)), x]) ∧ BitsAt w' x (bitsN (a.natAbs * b.natAbs)) ∧ Below w.heap.size w w' ∧ Past w.heap.size x := by
  have SA := hid (fun w => size_any a h1 h2 w)
  have SB := hid (fun w => size_any b h3 h4 w)
  have BA := hid (fun w => bits_any a.natAbs (by omega) w)
  have BB := hid (fun w => bits_any b.natAbs (by omega) w)
  have TM := hid (fun (x y : Value) (W : World) (hx : BitsAt W x (bitsN a.natAbs)) (hy : BitsAt W y (bitsN b.natAbs)) => by
    have := rtimes_any x y _ _ (bit_bits _) (bit_bits _) (by have := bitsN_len 64 a.natAbs (by omega); omega) (by have := bitsN_len 64 b.natAbs (by omega); omega) W hx hy
    rwa [vl_bitsN, vl_bitsN] at this)
  obtain ⟨na, hna⟩ : ∃ na, decide (a < 0) = na := ⟨_, rfl⟩
  obtain ⟨nb, hnb⟩ : ∃ nb, decide (b < 0) = nb := ⟨_, rfl⟩
  rw [hna, hnb]
  have hne : (na != nb) = (!(na == nb)) := rfl
  generalize a.natAbs = ua at *
  generalize b.natAbs = ub at *
  go_enter Tryz.func35, Tryz.ntmps35
  have R0 := hid (box2_new w (.bool false) (.slice none 0 0) 48)
  go_wp2_with fail
  refine (SA.out _).mono ?_
  rintro e w1 ⟨rfl, rfl⟩
  go_wp2_with fail
  refine (BA.out _).mono ?_
  rintro e w2 ⟨x, rfl, hx, hb2, -⟩
  have HX := hid hx
  have B2 := hid (below_step (below_a0 w _) hb2)
  have R2 := hid (R0.out.below hb2)
  clear hx hb2
  go_wp2_with fail
  refine (SB.out _).mono ?_
  rintro e w3 ⟨rfl, rfl⟩
  go_wp2_with fail
  refine (BB.out _).mono ?_
  rintro e w4 ⟨y, rfl, hy, hb4, -⟩
  have HY := hid hy
  have HX4 := hid (HX.out.below hb4)
  have B4 := hid (below_step B2.out hb4)
  have R4 := hid (R2.out.below hb4)
  clear hy hb4
  go_wp2_with fail
  refine (TM.out x y _ HX4.out HY.out).mono ?_
  rintro e w5 ⟨z, rfl, hz, hb5, hpz⟩
  obtain ⟨r0, r1, f0, f1, -⟩ := R4.out.below hb5
  have B5 := hid (below_step B4.out hb5)
  have hpz2 : Past (w.heap.size + 1) z := hpz.mono (by have := R4.out.2.2.2.2; omega)
  have HZ := hid (fun u0 u1 => (hz.set hpz2 0 u0).set hpz2 1 u1)
  have HPZ := hid (hpz2.mono (show w.heap.size ≤ w.heap.size + 1 by omega))
  obtain ⟨pz, nz, cz, rfl⟩ := hz.slice
  clear hz hb5 hpz hpz2
  go_wp2_with fail
  exact bodyPost_ret (v := .agg #[.bool (na != nb), .slice pz nz cz]) (by simp [results, Tryz.results35, go_sem, r0, r1]; cases na <;> cases nb <;> rfl) rfl ⟨_, rfl, HZ.out _ _, (B5.out.setCell (Nat.le_refl _) _).setCell (Nat.le_refl _) _, HPZ.out⟩
theorem sl_form {e : Ending} {w w' : World} {z : Value} {l : List Nat} (h1 : e = .returned z) (h2 : BitsAt w' z l) (h3 : Below w.heap.size w w') (h4 : Past w.heap.size z) : ∃ pz nz cz, e = .returned (.slice pz nz cz) ∧ BitsAt w' (.slice pz nz cz) l ∧ Below w.heap.size w w' ∧ Past w.heap.size (.slice pz nz cz) := by
  obtain ⟨p, n, c, rfl⟩ := h2.slice
  exact ⟨p, n, c, h1, h2, h3, h4⟩
theorem far2 (w : World) (B b o : Nat) (u v : Value) (h : B ≠ b) {x : Value} (hc : w.cell? ⟨b, o, none⟩ = some x) : (((w.setCell ⟨B, 0, none⟩ u).setCell ⟨B, 1, none⟩ v).drew).cell? ⟨b, o, none⟩ = some x :=
  (World.cell?_setCell_far _ _ _ _ h).trans ((World.cell?_setCell_far _ _ _ _ h).trans hc)
theorem sv_add_same (b : Bool) (n m : Nat) : sv b (n + m) = sv b n + sv b m := by unfold sv; split <;> omega
theorem sv_sub_ge (a b : Bool) (n m : Nat) (h : a ≠ b) (hle : m ≤ n) : sv a (n - m) = sv a n + sv b m := by
  unfold sv; cases a <;> cases b <;> first | exact absurd rfl h | (simp; omega)
theorem sv_sub_lt (a b : Bool) (n m : Nat) (h : a ≠ b) (hle : n ≤ m) : sv b (m - n) = sv a n + sv b m := by
  unfold sv; cases a <;> cases b <;> first | exact absurd rfl h | (simp; omega)
set_option maxRecDepth 100000 in
set_option maxHeartbeats 8000000 in
theorem sum_tt (x y : Value) (n m : Nat) (hn : n < 2 ^ 250) (hm : m < 2 ^ 250) (w : World) (hx : BitsAt w x (bitsN n)) (hy : BitsAt w y (bitsN m)) :
    Calls Tryz.prog 34 #[.agg #[.bool true, x], .agg #[.bool true, y]] w fun e w' => ∃ (b : Bool) (z : Value) (k : Nat), e = .returned (.agg #[.bool b, z]) ∧ BitsAt w' z (bitsN k) ∧ sv b k = sv true n + sv true m ∧ k ≤ n + m ∧ Below w.heap.size w w' ∧ Past w.heap.size z := by
  have ln := bits_len hn
  have lm := bits_len hm
  have PL := hid (fun (W : World) (h1 : BitsAt W x (bitsN n)) (h2 : BitsAt W y (bitsN m)) => by
    have := rplus_any x y _ _ (bit_bits _) (bit_bits _) (by omega) (by omega) W h1 h2
    rw [vl_bitsN, vl_bitsN] at this
    exact this.mono fun e w' ⟨z, h1, h2, h3, h4⟩ => sl_form h1 h2 h3 h4)
  have MA := hid (fun (W : World) (hle : m ≤ n) (h1 : BitsAt W x (bitsN n)) (h2 : BitsAt W y (bitsN m)) => by
    have := rminus_any x y _ _ (bit_bits _) (bit_bits _) (by omega) (by omega) (by rw [vl_bitsN, vl_bitsN]; exact hle) W h1 h2
    rw [vl_bitsN, vl_bitsN] at this
    exact this.mono fun e w' ⟨z, h1, h2, h3, h4⟩ => sl_form h1 h2 h3 h4)
  have MB := hid (fun (W : World) (hle : n ≤ m) (h1 : BitsAt W x (bitsN n)) (h2 : BitsAt W y (bitsN m)) => by
    have := rminus_any y x _ _ (bit_bits _) (bit_bits _) (by omega) (by omega) (by rw [vl_bitsN, vl_bitsN]; exact hle) W h2 h1
    rw [vl_bitsN, vl_bitsN] at this
    exact this.mono fun e w' ⟨z, h1, h2, h3, h4⟩ => sl_form h1 h2 h3 h4)
  have CM := hid (fun (W : World) (h1 : BitsAt W x (bitsN n)) (h2 : BitsAt W y (bitsN m)) => by
    have := rcompare_any x y _ _ (bit_bits _) (bit_bits _) (by omega) (by omega) W h1 h2
    rwa [vl_bitsN, vl_bitsN] at this)
  obtain ⟨w0, hw0⟩ : ∃ w0, ((w.alloc (.cells #[.bool true, x] 48)).alloc (.cells #[.bool true, y] 48)).alloc (.cells #[.bool false, .slice none 0 0] 48) = w0 := ⟨_, rfl⟩
  obtain ⟨px, nx, cx, rfl⟩ := hx.slice
  obtain ⟨py, ny, cy, rfl⟩ := hy.slice
  have X0 := hid (box2_new w (.bool true) (.slice px nx cx) 48)
  have Y0 := hid (box2_new (w.alloc (.cells #[.bool true, .slice px nx cx] 48)) (.bool true) (.slice py ny cy) 48)
  have Z0 := hid (box2_new ((w.alloc (.cells #[.bool true, .slice px nx cx] 48)).alloc (.cells #[.bool true, .slice py ny cy] 48)) (.bool false) (.slice none 0 0) 48)
  have X1 := hid ((X0.out.below (below_a0 _ (.cells #[.bool true, .slice py ny cy] 48))).below (below_a0 _ (.cells #[.bool false, .slice none 0 0] 48)))
  have Y1 := hid (Y0.out.below (below_a0 _ (.cells #[.bool false, .slice none 0 0] 48)))
  rw [hw0] at X1 Y1 Z0
  rw [World.size_alloc] at Y1
  rw [World.size_alloc, World.size_alloc] at Z0
  have B0 := hid (show Below w.heap.size w w0 by rw [← hw0]; exact below_a (below_a (below_a0 _ _) _) _)
  have hz0 : w0.heap.size = w.heap.size + 3 := by rw [← hw0]; simp
  have HX := hid (hx.below B0.out)
  have HY := hid (hy.below B0.out)
  have Hw := hid hw0
  clear hx hy X0 Y0 hw0
  obtain ⟨a0, a1, -, -, -⟩ := X1.out
  obtain ⟨b0, b1, -, -, -⟩ := Y1.out
  have hsd := (Below.refl w0.heap.size w0).drew
  go_enter Tryz.func34, Tryz.ntmps34
  go_wp2_with fail
  rw [Hw.out]
  go_upto_region 2 with fail
  refine wp_region_held_drew (S := fun W' => (W'.cell? ⟨w.heap.size, 0, none⟩ = some (.bool true) ∧ W'.cell? ⟨w.heap.size, 1, none⟩ = some (.slice px nx cx) ∧ W'.cell? ⟨w.heap.size + 1, 0, none⟩ = some (.bool true) ∧ W'.cell? ⟨w.heap.size + 1, 1, none⟩ = some (.slice py ny cy))) (by kernel_rfl) ?_ (fun hHeld => ?_)
  · exact ⟨a0, a1, b0, b1⟩
  refine wpAnyH_take (i := 0) (oi := ({ dst := some 10, op := Op.fieldAddr 48 (Operand.tmp 2) 0, type := 0, pos := "ref.go:156", after := #[], guard := none } : Oper)) (v := ?_) rfl (by kernel_rfl) (by kernel_rfl) (by kernel_rfl) (fun _ _ _ h => h) (Or.inl ⟨by rfl, ?_⟩) (by assumption) ?_
  rotate_left
  · intro w hSw; (try dsimp only at hSw); go_simp <;> with_reducible rfl
  (try simp only [Act.put, List.setIfInBounds_toArray, List.set_cons_zero, List.set_cons_succ])
  refine wpAnyH_take (i := 1) (oi := ({ dst := some 11, op := Op.load 4 (Operand.tmp 10), type := 4, pos := "ref.go:156", after := #[{ on := 0, ground := Ground.data }], guard := none } : Oper)) (v := ?_) rfl (by kernel_rfl) (by kernel_rfl) (by kernel_rfl) (fun _ _ _ h => h) (Or.inl ⟨by rfl, ?_⟩) (by assumption) ?_
  rotate_left
  · intro w hSw; (try dsimp only at hSw); go_simp <;> with_reducible rfl
  (try simp only [Act.put, List.setIfInBounds_toArray, List.set_cons_zero, List.set_cons_succ])
  refine wpAnyH_take (i := 2) (oi := ({ dst := some 12, op := Op.fieldAddr 48 (Operand.tmp 2) 1, type := 0, pos := "ref.go:156", after := #[], guard := none } : Oper)) (v := ?_) rfl (by kernel_rfl) (by kernel_rfl) (by kernel_rfl) (fun _ _ _ h => h) (Or.inl ⟨by rfl, ?_⟩) (by assumption) ?_
  rotate_left
  · intro w hSw; (try dsimp only at hSw); go_simp <;> with_reducible rfl
  (try simp only [Act.put, List.setIfInBounds_toArray, List.set_cons_zero, List.set_cons_succ])
  refine wpAnyH_take (i := 3) (oi := ({ dst := some 13, op := Op.load 46 (Operand.tmp 12), type := 46, pos := "ref.go:156", after := #[{ on := 2, ground := Ground.data }], guard := none } : Oper)) (v := ?_) rfl (by kernel_rfl) (by kernel_rfl) (by kernel_rfl) (fun _ _ _ h => h) (Or.inl ⟨by rfl, ?_⟩) (by assumption) ?_
  rotate_left
  · intro w hSw; (try dsimp only at hSw); go_simp <;> with_reducible rfl
  (try simp only [Act.put, List.setIfInBounds_toArray, List.set_cons_zero, List.set_cons_succ])
  refine wpAnyH_take (i := 4) (oi := ({ dst := some 14, op := Op.fieldAddr 48 (Operand.tmp 3) 1, type := 0, pos := "ref.go:156", after := #[], guard := none } : Oper)) (v := ?_) rfl (by kernel_rfl) (by kernel_rfl) (by kernel_rfl) (fun _ _ _ h => h) (Or.inl ⟨by rfl, ?_⟩) (by assumption) ?_
  rotate_left
  · intro w hSw; (try dsimp only at hSw); go_simp <;> with_reducible rfl
  (try simp only [Act.put, List.setIfInBounds_toArray, List.set_cons_zero, List.set_cons_succ])
  refine wpAnyH_take (i := 5) (oi := ({ dst := some 15, op := Op.load 46 (Operand.tmp 14), type := 46, pos := "ref.go:156", after := #[{ on := 4, ground := Ground.data }], guard := none } : Oper)) (v := ?_) rfl (by kernel_rfl) (by kernel_rfl) (by kernel_rfl) (fun _ _ _ h => h) (Or.inl ⟨by rfl, ?_⟩) (by assumption) ?_
  rotate_left
  · intro w hSw; (try dsimp only at hSw); go_simp <;> with_reducible rfl
  (try simp only [Act.put, List.setIfInBounds_toArray, List.set_cons_zero, List.set_cons_succ])
  refine wpAnyH_ready (rs := [6]) (by kernel_rfl) (by simp) ?_
  refine AllReadyH.cons (o := ({ dst := some 16, op := Op.call { callee := Callee.value (Operand.func 54), args := #[Operand.tmp 13, Operand.tmp 15], argTypes := #[46, 46] }, type := 46, pos := "ref.go:156", after := #[{ on := 3, ground := Ground.data }, { on := 5, ground := Ground.data }], guard := none } : Oper)) rfl (fun K hK => ?_) ?_
  rotate_left
  · exact AllReadyH.nil
  go_simp
  go_at_call 54
  with_reducible refine (PL.out _ (HX.out.below hsd) (HY.out.below hsd)).mono ?_
  rintro e y0 ⟨pz, nz, cz, rfl, hz, hq0, hpz⟩
  have hB0 := below_step hsd hq0
  clear hHeld
  first | (with_reducible refine hK.out _ _ ?_ (fun hHeld => ?_)) | (go_wp2_with fail; with_reducible refine hK.out _ _ ?_ (fun hHeld => ?_))
  · exact ⟨cell_below hB0 a0, cell_below hB0 a1, cell_below hB0 b0, cell_below hB0 b1⟩
  clear hK K
  (try simp only [Act.put, List.setIfInBounds_toArray, List.set_cons_zero, List.set_cons_succ])
  refine wpAnyH_take (i := 7) (oi := ({ dst := some 17, op := Op.build 48 #[(0, Operand.tmp 11), (1, Operand.tmp 16)], type := 48, pos := "ref.go:156", after := #[{ on := 1, ground := Ground.data }, { on := 6, ground := Ground.data }], guard := none } : Oper)) (v := ?_) rfl (by kernel_rfl) (by kernel_rfl) (by kernel_rfl) (fun _ _ _ h => h) (Or.inl ⟨by rfl, ?_⟩) (by assumption) ?_
  rotate_left
  · intro w hSw; (try dsimp only at hSw); go_simp <;> with_reducible rfl
  (try simp only [Act.put, List.setIfInBounds_toArray, List.set_cons_zero, List.set_cons_succ])
  refine wpAnyH_ready (rs := [8]) (by kernel_rfl) (by simp) ?_
  refine AllReadyH.cons (o := ({ dst := none, op := Op.store 48 (Operand.tmp 4) (Operand.tmp 17), type := 0, pos := "ref.go:156", after := #[{ on := 7, ground := Ground.data }, { on := 6, ground := Ground.chain }, { on := 0, ground := Ground.phase }, { on := 1, ground := Ground.phase }, { on := 2, ground := Ground.phase }, { on := 3, ground := Ground.phase }, { on := 4, ground := Ground.phase }, { on := 5, ground := Ground.phase }, { on := 6, ground := Ground.phase }, { on := 7, ground := Ground.phase }], guard := none } : Oper)) rfl (fun K hK => ?_) ?_
  rotate_left
  · exact AllReadyH.nil
  obtain ⟨g0, g1, f0, f1, -⟩ := Z0.out.below hB0
  have c0 := cell_below hB0 a0
  have c1 := cell_below hB0 a1
  have d0 := cell_below hB0 b0
  have d1 := cell_below hB0 b1
  have ES := hid (fun (u v : Value) => And.intro (far2 y0 (w.heap.size + 1 + 1) _ _ u v (show w.heap.size + 1 + 1 ≠ w.heap.size by omega) c0) (And.intro (far2 y0 (w.heap.size + 1 + 1) _ _ u v (show w.heap.size + 1 + 1 ≠ w.heap.size by omega) c1) (And.intro (far2 y0 (w.heap.size + 1 + 1) _ _ u v (show w.heap.size + 1 + 1 ≠ w.heap.size + 1 by omega) d0) (far2 y0 (w.heap.size + 1 + 1) _ _ u v (show w.heap.size + 1 + 1 ≠ w.heap.size + 1 by omega) d1))))
  clear c0 c1 d0 d1
  go_simp
  clear hHeld
  first | (with_reducible refine hK.out _ _ ?_ (fun hHeld => ?_)) | (go_wp2_with fail; with_reducible refine hK.out _ _ ?_ (fun hHeld => ?_))
  · exact ES.out _ _
  clear hK K
  (try simp only [Act.put, List.setIfInBounds_toArray, List.set_cons_zero, List.set_cons_succ])
  refine wpAnyH_done (by kernel_rfl) ?_ _
  have HPZ := hid (hpz.mono (show w.heap.size ≤ _ from B0.out.size))
  have HZ := hid (fun u0 u1 => (hz.set (hpz.mono (show w.heap.size + 1 + 1 + 1 ≤ w0.drew.heap.size from Nat.le_of_eq hz0.symm)) 0 u0).set (hpz.mono (show w.heap.size + 1 + 1 + 1 ≤ w0.drew.heap.size from Nat.le_of_eq hz0.symm)) 1 u1)
  have HBB := hid (below_step B0.out hB0)
  clear hHeld hz hpz
  go_wp2_with fail
  exact bodyPost_ret (v := .agg #[.bool true, .slice pz nz cz]) (by simp [results, Tryz.results34, go_sem, g0, g1]) rfl ⟨_, _, n + m, rfl, HZ.out _ _, sv_add_same _ _ _, by omega, (HBB.out.setCell (p := ⟨w.heap.size + 1 + 1, 0, none⟩) (show w.heap.size ≤ w.heap.size + 1 + 1 by omega) _).setCell (p := ⟨w.heap.size + 1 + 1, 1, none⟩) (show w.heap.size ≤ w.heap.size + 1 + 1 by omega) _, HPZ.out⟩

set_option maxRecDepth 100000 in
set_option maxHeartbeats 8000000 in
theorem sum_ff (x y : Value) (n m : Nat) (hn : n < 2 ^ 250) (hm : m < 2 ^ 250) (w : World) (hx : BitsAt w x (bitsN n)) (hy : BitsAt w y (bitsN m)) :
    Calls Tryz.prog 34 #[.agg #[.bool false, x], .agg #[.bool false, y]] w fun e w' => ∃ (b : Bool) (z : Value) (k : Nat), e = .returned (.agg #[.bool b, z]) ∧ BitsAt w' z (bitsN k) ∧ sv b k = sv false n + sv false m ∧ k ≤ n + m ∧ Below w.heap.size w w' ∧ Past w.heap.size z := by
  have ln := bits_len hn
  have lm := bits_len hm
  have PL := hid (fun (W : World) (h1 : BitsAt W x (bitsN n)) (h2 : BitsAt W y (bitsN m)) => by
    have := rplus_any x y _ _ (bit_bits _) (bit_bits _) (by omega) (by omega) W h1 h2
    rw [vl_bitsN, vl_bitsN] at this
    exact this.mono fun e w' ⟨z, h1, h2, h3, h4⟩ => sl_form h1 h2 h3 h4)
  have MA := hid (fun (W : World) (hle : m ≤ n) (h1 : BitsAt W x (bitsN n)) (h2 : BitsAt W y (bitsN m)) => by
    have := rminus_any x y _ _ (bit_bits _) (bit_bits _) (by omega) (by omega) (by rw [vl_bitsN, vl_bitsN]; exact hle) W h1 h2
    rw [vl_bitsN, vl_bitsN] at this
    exact this.mono fun e w' ⟨z, h1, h2, h3, h4⟩ => sl_form h1 h2 h3 h4)
  have MB := hid (fun (W : World) (hle : n ≤ m) (h1 : BitsAt W x (bitsN n)) (h2 : BitsAt W y (bitsN m)) => by
    have := rminus_any y x _ _ (bit_bits _) (bit_bits _) (by omega) (by omega) (by rw [vl_bitsN, vl_bitsN]; exact hle) W h2 h1
    rw [vl_bitsN, vl_bitsN] at this
    exact this.mono fun e w' ⟨z, h1, h2, h3, h4⟩ => sl_form h1 h2 h3 h4)
  have CM := hid (fun (W : World) (h1 : BitsAt W x (bitsN n)) (h2 : BitsAt W y (bitsN m)) => by
    have := rcompare_any x y _ _ (bit_bits _) (bit_bits _) (by omega) (by omega) W h1 h2
    rwa [vl_bitsN, vl_bitsN] at this)
  obtain ⟨w0, hw0⟩ : ∃ w0, ((w.alloc (.cells #[.bool false, x] 48)).alloc (.cells #[.bool false, y] 48)).alloc (.cells #[.bool false, .slice none 0 0] 48) = w0 := ⟨_, rfl⟩
  obtain ⟨px, nx, cx, rfl⟩ := hx.slice
  obtain ⟨py, ny, cy, rfl⟩ := hy.slice
  have X0 := hid (box2_new w (.bool false) (.slice px nx cx) 48)
  have Y0 := hid (box2_new (w.alloc (.cells #[.bool false, .slice px nx cx] 48)) (.bool false) (.slice py ny cy) 48)
  have Z0 := hid (box2_new ((w.alloc (.cells #[.bool false, .slice px nx cx] 48)).alloc (.cells #[.bool false, .slice py ny cy] 48)) (.bool false) (.slice none 0 0) 48)
  have X1 := hid ((X0.out.below (below_a0 _ (.cells #[.bool false, .slice py ny cy] 48))).below (below_a0 _ (.cells #[.bool false, .slice none 0 0] 48)))
  have Y1 := hid (Y0.out.below (below_a0 _ (.cells #[.bool false, .slice none 0 0] 48)))
  rw [hw0] at X1 Y1 Z0
  rw [World.size_alloc] at Y1
  rw [World.size_alloc, World.size_alloc] at Z0
  have B0 := hid (show Below w.heap.size w w0 by rw [← hw0]; exact below_a (below_a (below_a0 _ _) _) _)
  have hz0 : w0.heap.size = w.heap.size + 3 := by rw [← hw0]; simp
  have HX := hid (hx.below B0.out)
  have HY := hid (hy.below B0.out)
  have Hw := hid hw0
  clear hx hy X0 Y0 hw0
  obtain ⟨a0, a1, -, -, -⟩ := X1.out
  obtain ⟨b0, b1, -, -, -⟩ := Y1.out
  have hsd := (Below.refl w0.heap.size w0).drew
  go_enter Tryz.func34, Tryz.ntmps34
  go_wp2_with fail
  rw [Hw.out]
  go_upto_region 2 with fail
  refine wp_region_held_drew (S := fun W' => (W'.cell? ⟨w.heap.size, 0, none⟩ = some (.bool false) ∧ W'.cell? ⟨w.heap.size, 1, none⟩ = some (.slice px nx cx) ∧ W'.cell? ⟨w.heap.size + 1, 0, none⟩ = some (.bool false) ∧ W'.cell? ⟨w.heap.size + 1, 1, none⟩ = some (.slice py ny cy))) (by kernel_rfl) ?_ (fun hHeld => ?_)
  · exact ⟨a0, a1, b0, b1⟩
  refine wpAnyH_take (i := 0) (oi := ({ dst := some 10, op := Op.fieldAddr 48 (Operand.tmp 2) 0, type := 0, pos := "ref.go:156", after := #[], guard := none } : Oper)) (v := ?_) rfl (by kernel_rfl) (by kernel_rfl) (by kernel_rfl) (fun _ _ _ h => h) (Or.inl ⟨by rfl, ?_⟩) (by assumption) ?_
  rotate_left
  · intro w hSw; (try dsimp only at hSw); go_simp <;> with_reducible rfl
  (try simp only [Act.put, List.setIfInBounds_toArray, List.set_cons_zero, List.set_cons_succ])
  refine wpAnyH_take (i := 1) (oi := ({ dst := some 11, op := Op.load 4 (Operand.tmp 10), type := 4, pos := "ref.go:156", after := #[{ on := 0, ground := Ground.data }], guard := none } : Oper)) (v := ?_) rfl (by kernel_rfl) (by kernel_rfl) (by kernel_rfl) (fun _ _ _ h => h) (Or.inl ⟨by rfl, ?_⟩) (by assumption) ?_
  rotate_left
  · intro w hSw; (try dsimp only at hSw); go_simp <;> with_reducible rfl
  (try simp only [Act.put, List.setIfInBounds_toArray, List.set_cons_zero, List.set_cons_succ])
  refine wpAnyH_take (i := 2) (oi := ({ dst := some 12, op := Op.fieldAddr 48 (Operand.tmp 2) 1, type := 0, pos := "ref.go:156", after := #[], guard := none } : Oper)) (v := ?_) rfl (by kernel_rfl) (by kernel_rfl) (by kernel_rfl) (fun _ _ _ h => h) (Or.inl ⟨by rfl, ?_⟩) (by assumption) ?_
  rotate_left
  · intro w hSw; (try dsimp only at hSw); go_simp <;> with_reducible rfl
  (try simp only [Act.put, List.setIfInBounds_toArray, List.set_cons_zero, List.set_cons_succ])
  refine wpAnyH_take (i := 3) (oi := ({ dst := some 13, op := Op.load 46 (Operand.tmp 12), type := 46, pos := "ref.go:156", after := #[{ on := 2, ground := Ground.data }], guard := none } : Oper)) (v := ?_) rfl (by kernel_rfl) (by kernel_rfl) (by kernel_rfl) (fun _ _ _ h => h) (Or.inl ⟨by rfl, ?_⟩) (by assumption) ?_
  rotate_left
  · intro w hSw; (try dsimp only at hSw); go_simp <;> with_reducible rfl
  (try simp only [Act.put, List.setIfInBounds_toArray, List.set_cons_zero, List.set_cons_succ])
  refine wpAnyH_take (i := 4) (oi := ({ dst := some 14, op := Op.fieldAddr 48 (Operand.tmp 3) 1, type := 0, pos := "ref.go:156", after := #[], guard := none } : Oper)) (v := ?_) rfl (by kernel_rfl) (by kernel_rfl) (by kernel_rfl) (fun _ _ _ h => h) (Or.inl ⟨by rfl, ?_⟩) (by assumption) ?_
  rotate_left
  · intro w hSw; (try dsimp only at hSw); go_simp <;> with_reducible rfl
  (try simp only [Act.put, List.setIfInBounds_toArray, List.set_cons_zero, List.set_cons_succ])
  refine wpAnyH_take (i := 5) (oi := ({ dst := some 15, op := Op.load 46 (Operand.tmp 14), type := 46, pos := "ref.go:156", after := #[{ on := 4, ground := Ground.data }], guard := none } : Oper)) (v := ?_) rfl (by kernel_rfl) (by kernel_rfl) (by kernel_rfl) (fun _ _ _ h => h) (Or.inl ⟨by rfl, ?_⟩) (by assumption) ?_
  rotate_left
  · intro w hSw; (try dsimp only at hSw); go_simp <;> with_reducible rfl
  (try simp only [Act.put, List.setIfInBounds_toArray, List.set_cons_zero, List.set_cons_succ])
  refine wpAnyH_ready (rs := [6]) (by kernel_rfl) (by simp) ?_
  refine AllReadyH.cons (o := ({ dst := some 16, op := Op.call { callee := Callee.value (Operand.func 54), args := #[Operand.tmp 13, Operand.tmp 15], argTypes := #[46, 46] }, type := 46, pos := "ref.go:156", after := #[{ on := 3, ground := Ground.data }, { on := 5, ground := Ground.data }], guard := none } : Oper)) rfl (fun K hK => ?_) ?_
  rotate_left
  · exact AllReadyH.nil
  go_simp
  go_at_call 54
  with_reducible refine (PL.out _ (HX.out.below hsd) (HY.out.below hsd)).mono ?_
  rintro e y0 ⟨pz, nz, cz, rfl, hz, hq0, hpz⟩
  have hB0 := below_step hsd hq0
  clear hHeld
  first | (with_reducible refine hK.out _ _ ?_ (fun hHeld => ?_)) | (go_wp2_with fail; with_reducible refine hK.out _ _ ?_ (fun hHeld => ?_))
  · exact ⟨cell_below hB0 a0, cell_below hB0 a1, cell_below hB0 b0, cell_below hB0 b1⟩
  clear hK K
  (try simp only [Act.put, List.setIfInBounds_toArray, List.set_cons_zero, List.set_cons_succ])
  refine wpAnyH_take (i := 7) (oi := ({ dst := some 17, op := Op.build 48 #[(0, Operand.tmp 11), (1, Operand.tmp 16)], type := 48, pos := "ref.go:156", after := #[{ on := 1, ground := Ground.data }, { on := 6, ground := Ground.data }], guard := none } : Oper)) (v := ?_) rfl (by kernel_rfl) (by kernel_rfl) (by kernel_rfl) (fun _ _ _ h => h) (Or.inl ⟨by rfl, ?_⟩) (by assumption) ?_
  rotate_left
  · intro w hSw; (try dsimp only at hSw); go_simp <;> with_reducible rfl
  (try simp only [Act.put, List.setIfInBounds_toArray, List.set_cons_zero, List.set_cons_succ])
  refine wpAnyH_ready (rs := [8]) (by kernel_rfl) (by simp) ?_
  refine AllReadyH.cons (o := ({ dst := none, op := Op.store 48 (Operand.tmp 4) (Operand.tmp 17), type := 0, pos := "ref.go:156", after := #[{ on := 7, ground := Ground.data }, { on := 6, ground := Ground.chain }, { on := 0, ground := Ground.phase }, { on := 1, ground := Ground.phase }, { on := 2, ground := Ground.phase }, { on := 3, ground := Ground.phase }, { on := 4, ground := Ground.phase }, { on := 5, ground := Ground.phase }, { on := 6, ground := Ground.phase }, { on := 7, ground := Ground.phase }], guard := none } : Oper)) rfl (fun K hK => ?_) ?_
  rotate_left
  · exact AllReadyH.nil
  obtain ⟨g0, g1, f0, f1, -⟩ := Z0.out.below hB0
  have c0 := cell_below hB0 a0
  have c1 := cell_below hB0 a1
  have d0 := cell_below hB0 b0
  have d1 := cell_below hB0 b1
  have ES := hid (fun (u v : Value) => And.intro (far2 y0 (w.heap.size + 1 + 1) _ _ u v (show w.heap.size + 1 + 1 ≠ w.heap.size by omega) c0) (And.intro (far2 y0 (w.heap.size + 1 + 1) _ _ u v (show w.heap.size + 1 + 1 ≠ w.heap.size by omega) c1) (And.intro (far2 y0 (w.heap.size + 1 + 1) _ _ u v (show w.heap.size + 1 + 1 ≠ w.heap.size + 1 by omega) d0) (far2 y0 (w.heap.size + 1 + 1) _ _ u v (show w.heap.size + 1 + 1 ≠ w.heap.size + 1 by omega) d1))))
  clear c0 c1 d0 d1
  go_simp
  clear hHeld
  first | (with_reducible refine hK.out _ _ ?_ (fun hHeld => ?_)) | (go_wp2_with fail; with_reducible refine hK.out _ _ ?_ (fun hHeld => ?_))
  · exact ES.out _ _
  clear hK K
  (try simp only [Act.put, List.setIfInBounds_toArray, List.set_cons_zero, List.set_cons_succ])
  refine wpAnyH_done (by kernel_rfl) ?_ _
  have HPZ := hid (hpz.mono (show w.heap.size ≤ _ from B0.out.size))
  have HZ := hid (fun u0 u1 => (hz.set (hpz.mono (show w.heap.size + 1 + 1 + 1 ≤ w0.drew.heap.size from Nat.le_of_eq hz0.symm)) 0 u0).set (hpz.mono (show w.heap.size + 1 + 1 + 1 ≤ w0.drew.heap.size from Nat.le_of_eq hz0.symm)) 1 u1)
  have HBB := hid (below_step B0.out hB0)
  clear hHeld hz hpz
  go_wp2_with fail
  exact bodyPost_ret (v := .agg #[.bool false, .slice pz nz cz]) (by simp [results, Tryz.results34, go_sem, g0, g1]) rfl ⟨_, _, n + m, rfl, HZ.out _ _, sv_add_same _ _ _, by omega, (HBB.out.setCell (p := ⟨w.heap.size + 1 + 1, 0, none⟩) (show w.heap.size ≤ w.heap.size + 1 + 1 by omega) _).setCell (p := ⟨w.heap.size + 1 + 1, 1, none⟩) (show w.heap.size ≤ w.heap.size + 1 + 1 by omega) _, HPZ.out⟩

set_option maxRecDepth 100000 in
set_option maxHeartbeats 8000000 in
theorem sum_tf (x y : Value) (n m : Nat) (hn : n < 2 ^ 250) (hm : m < 2 ^ 250) (w : World) (hx : BitsAt w x (bitsN n)) (hy : BitsAt w y (bitsN m)) :
    Calls Tryz.prog 34 #[.agg #[.bool true, x], .agg #[.bool false, y]] w fun e w' => ∃ (b : Bool) (z : Value) (k : Nat), e = .returned (.agg #[.bool b, z]) ∧ BitsAt w' z (bitsN k) ∧ sv b k = sv true n + sv false m ∧ k ≤ n + m ∧ Below w.heap.size w w' ∧ Past w.heap.size z := by
  have ln := bits_len hn
  have lm := bits_len hm
  have PL := hid (fun (W : World) (h1 : BitsAt W x (bitsN n)) (h2 : BitsAt W y (bitsN m)) => by
    have := rplus_any x y _ _ (bit_bits _) (bit_bits _) (by omega) (by omega) W h1 h2
    rw [vl_bitsN, vl_bitsN] at this
    exact this.mono fun e w' ⟨z, h1, h2, h3, h4⟩ => sl_form h1 h2 h3 h4)
  have MA := hid (fun (W : World) (hle : m ≤ n) (h1 : BitsAt W x (bitsN n)) (h2 : BitsAt W y (bitsN m)) => by
    have := rminus_any x y _ _ (bit_bits _) (bit_bits _) (by omega) (by omega) (by rw [vl_bitsN, vl_bitsN]; exact hle) W h1 h2
    rw [vl_bitsN, vl_bitsN] at this
    exact this.mono fun e w' ⟨z, h1, h2, h3, h4⟩ => sl_form h1 h2 h3 h4)
  have MB := hid (fun (W : World) (hle : n ≤ m) (h1 : BitsAt W x (bitsN n)) (h2 : BitsAt W y (bitsN m)) => by
    have := rminus_any y x _ _ (bit_bits _) (bit_bits _) (by omega) (by omega) (by rw [vl_bitsN, vl_bitsN]; exact hle) W h2 h1
    rw [vl_bitsN, vl_bitsN] at this
    exact this.mono fun e w' ⟨z, h1, h2, h3, h4⟩ => sl_form h1 h2 h3 h4)
  have CM := hid (fun (W : World) (h1 : BitsAt W x (bitsN n)) (h2 : BitsAt W y (bitsN m)) => by
    have := rcompare_any x y _ _ (bit_bits _) (bit_bits _) (by omega) (by omega) W h1 h2
    rwa [vl_bitsN, vl_bitsN] at this)
  obtain ⟨w0, hw0⟩ : ∃ w0, ((w.alloc (.cells #[.bool true, x] 48)).alloc (.cells #[.bool false, y] 48)).alloc (.cells #[.bool false, .slice none 0 0] 48) = w0 := ⟨_, rfl⟩
  obtain ⟨px, nx, cx, rfl⟩ := hx.slice
  obtain ⟨py, ny, cy, rfl⟩ := hy.slice
  have X0 := hid (box2_new w (.bool true) (.slice px nx cx) 48)
  have Y0 := hid (box2_new (w.alloc (.cells #[.bool true, .slice px nx cx] 48)) (.bool false) (.slice py ny cy) 48)
  have Z0 := hid (box2_new ((w.alloc (.cells #[.bool true, .slice px nx cx] 48)).alloc (.cells #[.bool false, .slice py ny cy] 48)) (.bool false) (.slice none 0 0) 48)
  have X1 := hid ((X0.out.below (below_a0 _ (.cells #[.bool false, .slice py ny cy] 48))).below (below_a0 _ (.cells #[.bool false, .slice none 0 0] 48)))
  have Y1 := hid (Y0.out.below (below_a0 _ (.cells #[.bool false, .slice none 0 0] 48)))
  rw [hw0] at X1 Y1 Z0
  rw [World.size_alloc] at Y1
  rw [World.size_alloc, World.size_alloc] at Z0
  have B0 := hid (show Below w.heap.size w w0 by rw [← hw0]; exact below_a (below_a (below_a0 _ _) _) _)
  have hz0 : w0.heap.size = w.heap.size + 3 := by rw [← hw0]; simp
  have HX := hid (hx.below B0.out)
  have HY := hid (hy.below B0.out)
  have Hw := hid hw0
  clear hx hy X0 Y0 hw0
  obtain ⟨a0, a1, -, -, -⟩ := X1.out
  obtain ⟨b0, b1, -, -, -⟩ := Y1.out
  have hsd := (Below.refl w0.heap.size w0).drew
  obtain ⟨z, hz⟩ : ∃ z, cmpN n m = z := ⟨_, rfl⟩
  rw [hz] at CM
  by_cases hle : m ≤ n
  · have t1 : decide ((0 : Int) ≤ z) = true := by
      rw [← hz]; unfold cmpN
      split
      · rfl
      · rw [if_neg (by omega)]; rfl
    have t1' : (0 : Int) ≤ z := by simpa using t1
    clear hz
    go_enter Tryz.func34, Tryz.ntmps34
    go_wp2_with fail
    rw [Hw.out]
    go_wp2_with fail
    refine (CM.out _ HX.out HY.out).mono ?_
    rintro e wq ⟨rfl, hwq⟩
    rw [hwq]
    clear hwq
    go_upto_region 4 with fail
    refine wp_region_held_drew (S := fun W' => (W'.cell? ⟨w.heap.size, 0, none⟩ = some (.bool true) ∧ W'.cell? ⟨w.heap.size, 1, none⟩ = some (.slice px nx cx) ∧ W'.cell? ⟨w.heap.size + 1, 0, none⟩ = some (.bool false) ∧ W'.cell? ⟨w.heap.size + 1, 1, none⟩ = some (.slice py ny cy))) (by kernel_rfl) ?_ (fun hHeld => ?_)
    · exact ⟨a0, a1, b0, b1⟩
    refine wpAnyH_take (i := 0) (oi := ({ dst := some 24, op := Op.fieldAddr 48 (Operand.tmp 2) 0, type := 0, pos := "ref.go:159", after := #[], guard := none } : Oper)) (v := ?_) rfl (by kernel_rfl) (by kernel_rfl) (by kernel_rfl) (fun _ _ _ h => h) (Or.inl ⟨by rfl, ?_⟩) (by assumption) ?_
    rotate_left
    · intro w hSw; (try dsimp only at hSw); go_simp <;> with_reducible rfl
    (try simp only [Act.put, List.setIfInBounds_toArray, List.set_cons_zero, List.set_cons_succ])
    refine wpAnyH_take (i := 1) (oi := ({ dst := some 25, op := Op.load 4 (Operand.tmp 24), type := 4, pos := "ref.go:159", after := #[{ on := 0, ground := Ground.data }], guard := none } : Oper)) (v := ?_) rfl (by kernel_rfl) (by kernel_rfl) (by kernel_rfl) (fun _ _ _ h => h) (Or.inl ⟨by rfl, ?_⟩) (by assumption) ?_
    rotate_left
    · intro w hSw; (try dsimp only at hSw); go_simp <;> with_reducible rfl
    (try simp only [Act.put, List.setIfInBounds_toArray, List.set_cons_zero, List.set_cons_succ])
    refine wpAnyH_take (i := 2) (oi := ({ dst := some 26, op := Op.fieldAddr 48 (Operand.tmp 2) 1, type := 0, pos := "ref.go:159", after := #[], guard := none } : Oper)) (v := ?_) rfl (by kernel_rfl) (by kernel_rfl) (by kernel_rfl) (fun _ _ _ h => h) (Or.inl ⟨by rfl, ?_⟩) (by assumption) ?_
    rotate_left
    · intro w hSw; (try dsimp only at hSw); go_simp <;> with_reducible rfl
    (try simp only [Act.put, List.setIfInBounds_toArray, List.set_cons_zero, List.set_cons_succ])
    refine wpAnyH_take (i := 3) (oi := ({ dst := some 27, op := Op.load 46 (Operand.tmp 26), type := 46, pos := "ref.go:159", after := #[{ on := 2, ground := Ground.data }], guard := none } : Oper)) (v := ?_) rfl (by kernel_rfl) (by kernel_rfl) (by kernel_rfl) (fun _ _ _ h => h) (Or.inl ⟨by rfl, ?_⟩) (by assumption) ?_
    rotate_left
    · intro w hSw; (try dsimp only at hSw); go_simp <;> with_reducible rfl
    (try simp only [Act.put, List.setIfInBounds_toArray, List.set_cons_zero, List.set_cons_succ])
    refine wpAnyH_take (i := 4) (oi := ({ dst := some 28, op := Op.fieldAddr 48 (Operand.tmp 3) 1, type := 0, pos := "ref.go:159", after := #[], guard := none } : Oper)) (v := ?_) rfl (by kernel_rfl) (by kernel_rfl) (by kernel_rfl) (fun _ _ _ h => h) (Or.inl ⟨by rfl, ?_⟩) (by assumption) ?_
    rotate_left
    · intro w hSw; (try dsimp only at hSw); go_simp <;> with_reducible rfl
    (try simp only [Act.put, List.setIfInBounds_toArray, List.set_cons_zero, List.set_cons_succ])
    refine wpAnyH_take (i := 5) (oi := ({ dst := some 29, op := Op.load 46 (Operand.tmp 28), type := 46, pos := "ref.go:159", after := #[{ on := 4, ground := Ground.data }], guard := none } : Oper)) (v := ?_) rfl (by kernel_rfl) (by kernel_rfl) (by kernel_rfl) (fun _ _ _ h => h) (Or.inl ⟨by rfl, ?_⟩) (by assumption) ?_
    rotate_left
    · intro w hSw; (try dsimp only at hSw); go_simp <;> with_reducible rfl
    (try simp only [Act.put, List.setIfInBounds_toArray, List.set_cons_zero, List.set_cons_succ])
    refine wpAnyH_ready (rs := [6]) (by kernel_rfl) (by simp) ?_
    refine AllReadyH.cons (o := ({ dst := some 30, op := Op.call { callee := Callee.value (Operand.func 56), args := #[Operand.tmp 27, Operand.tmp 29], argTypes := #[46, 46] }, type := 46, pos := "ref.go:159", after := #[{ on := 3, ground := Ground.data }, { on := 5, ground := Ground.data }], guard := none } : Oper)) rfl (fun K hK => ?_) ?_
    rotate_left
    · exact AllReadyH.nil
    go_simp
    go_at_call 56
    with_reducible refine (MA.out _ hle (HX.out.below hsd) (HY.out.below hsd)).mono ?_
    rintro e y0 ⟨pz, nz, cz, rfl, hz, hq0, hpz⟩
    have hB0 := below_step hsd hq0
    clear hHeld
    first | (with_reducible refine hK.out _ _ ?_ (fun hHeld => ?_)) | (go_wp2_with fail; with_reducible refine hK.out _ _ ?_ (fun hHeld => ?_))
    · exact ⟨cell_below hB0 a0, cell_below hB0 a1, cell_below hB0 b0, cell_below hB0 b1⟩
    clear hK K
    (try simp only [Act.put, List.setIfInBounds_toArray, List.set_cons_zero, List.set_cons_succ])
    refine wpAnyH_take (i := 7) (oi := ({ dst := some 31, op := Op.build 48 #[(0, Operand.tmp 25), (1, Operand.tmp 30)], type := 48, pos := "ref.go:159", after := #[{ on := 1, ground := Ground.data }, { on := 6, ground := Ground.data }], guard := none } : Oper)) (v := ?_) rfl (by kernel_rfl) (by kernel_rfl) (by kernel_rfl) (fun _ _ _ h => h) (Or.inl ⟨by rfl, ?_⟩) (by assumption) ?_
    rotate_left
    · intro w hSw; (try dsimp only at hSw); go_simp <;> with_reducible rfl
    (try simp only [Act.put, List.setIfInBounds_toArray, List.set_cons_zero, List.set_cons_succ])
    refine wpAnyH_ready (rs := [8]) (by kernel_rfl) (by simp) ?_
    refine AllReadyH.cons (o := ({ dst := none, op := Op.store 48 (Operand.tmp 4) (Operand.tmp 31), type := 0, pos := "ref.go:159", after := #[{ on := 7, ground := Ground.data }, { on := 6, ground := Ground.chain }, { on := 0, ground := Ground.phase }, { on := 1, ground := Ground.phase }, { on := 2, ground := Ground.phase }, { on := 3, ground := Ground.phase }, { on := 4, ground := Ground.phase }, { on := 5, ground := Ground.phase }, { on := 6, ground := Ground.phase }, { on := 7, ground := Ground.phase }], guard := none } : Oper)) rfl (fun K hK => ?_) ?_
    rotate_left
    · exact AllReadyH.nil
    obtain ⟨g0, g1, f0, f1, -⟩ := Z0.out.below hB0
    have c0 := cell_below hB0 a0
    have c1 := cell_below hB0 a1
    have d0 := cell_below hB0 b0
    have d1 := cell_below hB0 b1
    have ES := hid (fun (u v : Value) => And.intro (far2 y0 (w.heap.size + 1 + 1) _ _ u v (show w.heap.size + 1 + 1 ≠ w.heap.size by omega) c0) (And.intro (far2 y0 (w.heap.size + 1 + 1) _ _ u v (show w.heap.size + 1 + 1 ≠ w.heap.size by omega) c1) (And.intro (far2 y0 (w.heap.size + 1 + 1) _ _ u v (show w.heap.size + 1 + 1 ≠ w.heap.size + 1 by omega) d0) (far2 y0 (w.heap.size + 1 + 1) _ _ u v (show w.heap.size + 1 + 1 ≠ w.heap.size + 1 by omega) d1))))
    clear c0 c1 d0 d1
    go_simp
    clear hHeld
    first | (with_reducible refine hK.out _ _ ?_ (fun hHeld => ?_)) | (go_wp2_with fail; with_reducible refine hK.out _ _ ?_ (fun hHeld => ?_))
    · exact ES.out _ _
    clear hK K
    (try simp only [Act.put, List.setIfInBounds_toArray, List.set_cons_zero, List.set_cons_succ])
    refine wpAnyH_done (by kernel_rfl) ?_ _
    have HPZ := hid (hpz.mono (show w.heap.size ≤ _ from B0.out.size))
    have HZ := hid (fun u0 u1 => (hz.set (hpz.mono (show w.heap.size + 1 + 1 + 1 ≤ w0.drew.heap.size from Nat.le_of_eq hz0.symm)) 0 u0).set (hpz.mono (show w.heap.size + 1 + 1 + 1 ≤ w0.drew.heap.size from Nat.le_of_eq hz0.symm)) 1 u1)
    have HBB := hid (below_step B0.out hB0)
    clear hHeld hz hpz
    go_wp2_with fail
    exact bodyPost_ret (v := .agg #[.bool true, .slice pz nz cz]) (by simp [results, Tryz.results34, go_sem, g0, g1]) rfl ⟨_, _, n - m, rfl, HZ.out _ _, sv_sub_ge _ _ _ _ (by decide) hle, by omega, (HBB.out.setCell (p := ⟨w.heap.size + 1 + 1, 0, none⟩) (show w.heap.size ≤ w.heap.size + 1 + 1 by omega) _).setCell (p := ⟨w.heap.size + 1 + 1, 1, none⟩) (show w.heap.size ≤ w.heap.size + 1 + 1 by omega) _, HPZ.out⟩
  · have t1 : decide ((0 : Int) ≤ z) = false := by
      rw [← hz]; unfold cmpN
      rw [if_neg (by omega), if_pos (by omega)]; rfl
    have t1' : ¬ (0 : Int) ≤ z := by simpa using t1
    clear hz
    go_enter Tryz.func34, Tryz.ntmps34
    go_wp2_with fail
    rw [Hw.out]
    go_wp2_with fail
    refine (CM.out _ HX.out HY.out).mono ?_
    rintro e wq ⟨rfl, hwq⟩
    rw [hwq]
    clear hwq
    go_upto_region 5 with fail
    refine wp_region_held_drew (S := fun W' => (W'.cell? ⟨w.heap.size, 0, none⟩ = some (.bool true) ∧ W'.cell? ⟨w.heap.size, 1, none⟩ = some (.slice px nx cx) ∧ W'.cell? ⟨w.heap.size + 1, 0, none⟩ = some (.bool false) ∧ W'.cell? ⟨w.heap.size + 1, 1, none⟩ = some (.slice py ny cy))) (by kernel_rfl) ?_ (fun hHeld => ?_)
    · exact ⟨a0, a1, b0, b1⟩
    refine wpAnyH_take (i := 0) (oi := ({ dst := some 32, op := Op.fieldAddr 48 (Operand.tmp 3) 0, type := 0, pos := "ref.go:161", after := #[], guard := none } : Oper)) (v := ?_) rfl (by kernel_rfl) (by kernel_rfl) (by kernel_rfl) (fun _ _ _ h => h) (Or.inl ⟨by rfl, ?_⟩) (by assumption) ?_
    rotate_left
    · intro w hSw; (try dsimp only at hSw); go_simp <;> with_reducible rfl
    (try simp only [Act.put, List.setIfInBounds_toArray, List.set_cons_zero, List.set_cons_succ])
    refine wpAnyH_take (i := 1) (oi := ({ dst := some 33, op := Op.load 4 (Operand.tmp 32), type := 4, pos := "ref.go:161", after := #[{ on := 0, ground := Ground.data }], guard := none } : Oper)) (v := ?_) rfl (by kernel_rfl) (by kernel_rfl) (by kernel_rfl) (fun _ _ _ h => h) (Or.inl ⟨by rfl, ?_⟩) (by assumption) ?_
    rotate_left
    · intro w hSw; (try dsimp only at hSw); go_simp <;> with_reducible rfl
    (try simp only [Act.put, List.setIfInBounds_toArray, List.set_cons_zero, List.set_cons_succ])
    refine wpAnyH_take (i := 2) (oi := ({ dst := some 34, op := Op.fieldAddr 48 (Operand.tmp 3) 1, type := 0, pos := "ref.go:161", after := #[], guard := none } : Oper)) (v := ?_) rfl (by kernel_rfl) (by kernel_rfl) (by kernel_rfl) (fun _ _ _ h => h) (Or.inl ⟨by rfl, ?_⟩) (by assumption) ?_
    rotate_left
    · intro w hSw; (try dsimp only at hSw); go_simp <;> with_reducible rfl
    (try simp only [Act.put, List.setIfInBounds_toArray, List.set_cons_zero, List.set_cons_succ])
    refine wpAnyH_take (i := 3) (oi := ({ dst := some 35, op := Op.load 46 (Operand.tmp 34), type := 46, pos := "ref.go:161", after := #[{ on := 2, ground := Ground.data }], guard := none } : Oper)) (v := ?_) rfl (by kernel_rfl) (by kernel_rfl) (by kernel_rfl) (fun _ _ _ h => h) (Or.inl ⟨by rfl, ?_⟩) (by assumption) ?_
    rotate_left
    · intro w hSw; (try dsimp only at hSw); go_simp <;> with_reducible rfl
    (try simp only [Act.put, List.setIfInBounds_toArray, List.set_cons_zero, List.set_cons_succ])
    refine wpAnyH_take (i := 4) (oi := ({ dst := some 36, op := Op.fieldAddr 48 (Operand.tmp 2) 1, type := 0, pos := "ref.go:161", after := #[], guard := none } : Oper)) (v := ?_) rfl (by kernel_rfl) (by kernel_rfl) (by kernel_rfl) (fun _ _ _ h => h) (Or.inl ⟨by rfl, ?_⟩) (by assumption) ?_
    rotate_left
    · intro w hSw; (try dsimp only at hSw); go_simp <;> with_reducible rfl
    (try simp only [Act.put, List.setIfInBounds_toArray, List.set_cons_zero, List.set_cons_succ])
    refine wpAnyH_take (i := 5) (oi := ({ dst := some 37, op := Op.load 46 (Operand.tmp 36), type := 46, pos := "ref.go:161", after := #[{ on := 4, ground := Ground.data }], guard := none } : Oper)) (v := ?_) rfl (by kernel_rfl) (by kernel_rfl) (by kernel_rfl) (fun _ _ _ h => h) (Or.inl ⟨by rfl, ?_⟩) (by assumption) ?_
    rotate_left
    · intro w hSw; (try dsimp only at hSw); go_simp <;> with_reducible rfl
    (try simp only [Act.put, List.setIfInBounds_toArray, List.set_cons_zero, List.set_cons_succ])
    refine wpAnyH_ready (rs := [6]) (by kernel_rfl) (by simp) ?_
    refine AllReadyH.cons (o := ({ dst := some 38, op := Op.call { callee := Callee.value (Operand.func 56), args := #[Operand.tmp 35, Operand.tmp 37], argTypes := #[46, 46] }, type := 46, pos := "ref.go:161", after := #[{ on := 3, ground := Ground.data }, { on := 5, ground := Ground.data }], guard := none } : Oper)) rfl (fun K hK => ?_) ?_
    rotate_left
    · exact AllReadyH.nil
    go_simp
    go_at_call 56
    with_reducible refine (MB.out _ (by omega) (HX.out.below hsd) (HY.out.below hsd)).mono ?_
    rintro e y0 ⟨pz, nz, cz, rfl, hz, hq0, hpz⟩
    have hB0 := below_step hsd hq0
    clear hHeld
    first | (with_reducible refine hK.out _ _ ?_ (fun hHeld => ?_)) | (go_wp2_with fail; with_reducible refine hK.out _ _ ?_ (fun hHeld => ?_))
    · exact ⟨cell_below hB0 a0, cell_below hB0 a1, cell_below hB0 b0, cell_below hB0 b1⟩
    clear hK K
    (try simp only [Act.put, List.setIfInBounds_toArray, List.set_cons_zero, List.set_cons_succ])
    refine wpAnyH_take (i := 7) (oi := ({ dst := some 39, op := Op.build 48 #[(0, Operand.tmp 33), (1, Operand.tmp 38)], type := 48, pos := "ref.go:161", after := #[{ on := 1, ground := Ground.data }, { on := 6, ground := Ground.data }], guard := none } : Oper)) (v := ?_) rfl (by kernel_rfl) (by kernel_rfl) (by kernel_rfl) (fun _ _ _ h => h) (Or.inl ⟨by rfl, ?_⟩) (by assumption) ?_
    rotate_left
    · intro w hSw; (try dsimp only at hSw); go_simp <;> with_reducible rfl
    (try simp only [Act.put, List.setIfInBounds_toArray, List.set_cons_zero, List.set_cons_succ])
    refine wpAnyH_ready (rs := [8]) (by kernel_rfl) (by simp) ?_
    refine AllReadyH.cons (o := ({ dst := none, op := Op.store 48 (Operand.tmp 4) (Operand.tmp 39), type := 0, pos := "ref.go:161", after := #[{ on := 7, ground := Ground.data }, { on := 6, ground := Ground.chain }, { on := 0, ground := Ground.phase }, { on := 1, ground := Ground.phase }, { on := 2, ground := Ground.phase }, { on := 3, ground := Ground.phase }, { on := 4, ground := Ground.phase }, { on := 5, ground := Ground.phase }, { on := 6, ground := Ground.phase }, { on := 7, ground := Ground.phase }], guard := none } : Oper)) rfl (fun K hK => ?_) ?_
    rotate_left
    · exact AllReadyH.nil
    obtain ⟨g0, g1, f0, f1, -⟩ := Z0.out.below hB0
    have c0 := cell_below hB0 a0
    have c1 := cell_below hB0 a1
    have d0 := cell_below hB0 b0
    have d1 := cell_below hB0 b1
    have ES := hid (fun (u v : Value) => And.intro (far2 y0 (w.heap.size + 1 + 1) _ _ u v (show w.heap.size + 1 + 1 ≠ w.heap.size by omega) c0) (And.intro (far2 y0 (w.heap.size + 1 + 1) _ _ u v (show w.heap.size + 1 + 1 ≠ w.heap.size by omega) c1) (And.intro (far2 y0 (w.heap.size + 1 + 1) _ _ u v (show w.heap.size + 1 + 1 ≠ w.heap.size + 1 by omega) d0) (far2 y0 (w.heap.size + 1 + 1) _ _ u v (show w.heap.size + 1 + 1 ≠ w.heap.size + 1 by omega) d1))))
    clear c0 c1 d0 d1
    go_simp
    clear hHeld
    first | (with_reducible refine hK.out _ _ ?_ (fun hHeld => ?_)) | (go_wp2_with fail; with_reducible refine hK.out _ _ ?_ (fun hHeld => ?_))
    · exact ES.out _ _
    clear hK K
    (try simp only [Act.put, List.setIfInBounds_toArray, List.set_cons_zero, List.set_cons_succ])
    refine wpAnyH_done (by kernel_rfl) ?_ _
    have HPZ := hid (hpz.mono (show w.heap.size ≤ _ from B0.out.size))
    have HZ := hid (fun u0 u1 => (hz.set (hpz.mono (show w.heap.size + 1 + 1 + 1 ≤ w0.drew.heap.size from Nat.le_of_eq hz0.symm)) 0 u0).set (hpz.mono (show w.heap.size + 1 + 1 + 1 ≤ w0.drew.heap.size from Nat.le_of_eq hz0.symm)) 1 u1)
    have HBB := hid (below_step B0.out hB0)
    clear hHeld hz hpz
    go_wp2_with fail
    exact bodyPost_ret (v := .agg #[.bool false, .slice pz nz cz]) (by simp [results, Tryz.results34, go_sem, g0, g1]) rfl ⟨_, _, m - n, rfl, HZ.out _ _, sv_sub_lt _ _ _ _ (by decide) (by omega), by omega, (HBB.out.setCell (p := ⟨w.heap.size + 1 + 1, 0, none⟩) (show w.heap.size ≤ w.heap.size + 1 + 1 by omega) _).setCell (p := ⟨w.heap.size + 1 + 1, 1, none⟩) (show w.heap.size ≤ w.heap.size + 1 + 1 by omega) _, HPZ.out⟩

set_option maxRecDepth 100000 in
set_option maxHeartbeats 8000000 in
theorem sum_ft (x y : Value) (n m : Nat) (hn : n < 2 ^ 250) (hm : m < 2 ^ 250) (w : World) (hx : BitsAt w x (bitsN n)) (hy : BitsAt w y (bitsN m)) :
    Calls Tryz.prog 34 #[.agg #[.bool false, x], .agg #[.bool true, y]] w fun e w' => ∃ (b : Bool) (z : Value) (k : Nat), e = .returned (.agg #[.bool b, z]) ∧ BitsAt w' z (bitsN k) ∧ sv b k = sv false n + sv true m ∧ k ≤ n + m ∧ Below w.heap.size w w' ∧ Past w.heap.size z := by
  have ln := bits_len hn
  have lm := bits_len hm
  have PL := hid (fun (W : World) (h1 : BitsAt W x (bitsN n)) (h2 : BitsAt W y (bitsN m)) => by
    have := rplus_any x y _ _ (bit_bits _) (bit_bits _) (by omega) (by omega) W h1 h2
    rw [vl_bitsN, vl_bitsN] at this
    exact this.mono fun e w' ⟨z, h1, h2, h3, h4⟩ => sl_form h1 h2 h3 h4)
  have MA := hid (fun (W : World) (hle : m ≤ n) (h1 : BitsAt W x (bitsN n)) (h2 : BitsAt W y (bitsN m)) => by
    have := rminus_any x y _ _ (bit_bits _) (bit_bits _) (by omega) (by omega) (by rw [vl_bitsN, vl_bitsN]; exact hle) W h1 h2
    rw [vl_bitsN, vl_bitsN] at this
    exact this.mono fun e w' ⟨z, h1, h2, h3, h4⟩ => sl_form h1 h2 h3 h4)
  have MB := hid (fun (W : World) (hle : n ≤ m) (h1 : BitsAt W x (bitsN n)) (h2 : BitsAt W y (bitsN m)) => by
    have := rminus_any y x _ _ (bit_bits _) (bit_bits _) (by omega) (by omega) (by rw [vl_bitsN, vl_bitsN]; exact hle) W h2 h1
    rw [vl_bitsN, vl_bitsN] at this
    exact this.mono fun e w' ⟨z, h1, h2, h3, h4⟩ => sl_form h1 h2 h3 h4)
  have CM := hid (fun (W : World) (h1 : BitsAt W x (bitsN n)) (h2 : BitsAt W y (bitsN m)) => by
    have := rcompare_any x y _ _ (bit_bits _) (bit_bits _) (by omega) (by omega) W h1 h2
    rwa [vl_bitsN, vl_bitsN] at this)
  obtain ⟨w0, hw0⟩ : ∃ w0, ((w.alloc (.cells #[.bool false, x] 48)).alloc (.cells #[.bool true, y] 48)).alloc (.cells #[.bool false, .slice none 0 0] 48) = w0 := ⟨_, rfl⟩
  obtain ⟨px, nx, cx, rfl⟩ := hx.slice
  obtain ⟨py, ny, cy, rfl⟩ := hy.slice
  have X0 := hid (box2_new w (.bool false) (.slice px nx cx) 48)
  have Y0 := hid (box2_new (w.alloc (.cells #[.bool false, .slice px nx cx] 48)) (.bool true) (.slice py ny cy) 48)
  have Z0 := hid (box2_new ((w.alloc (.cells #[.bool false, .slice px nx cx] 48)).alloc (.cells #[.bool true, .slice py ny cy] 48)) (.bool false) (.slice none 0 0) 48)
  have X1 := hid ((X0.out.below (below_a0 _ (.cells #[.bool true, .slice py ny cy] 48))).below (below_a0 _ (.cells #[.bool false, .slice none 0 0] 48)))
  have Y1 := hid (Y0.out.below (below_a0 _ (.cells #[.bool false, .slice none 0 0] 48)))
  rw [hw0] at X1 Y1 Z0
  rw [World.size_alloc] at Y1
  rw [World.size_alloc, World.size_alloc] at Z0
  have B0 := hid (show Below w.heap.size w w0 by rw [← hw0]; exact below_a (below_a (below_a0 _ _) _) _)
  have hz0 : w0.heap.size = w.heap.size + 3 := by rw [← hw0]; simp
  have HX := hid (hx.below B0.out)
  have HY := hid (hy.below B0.out)
  have Hw := hid hw0
  clear hx hy X0 Y0 hw0
  obtain ⟨a0, a1, -, -, -⟩ := X1.out
  obtain ⟨b0, b1, -, -, -⟩ := Y1.out
  have hsd := (Below.refl w0.heap.size w0).drew
  obtain ⟨z, hz⟩ : ∃ z, cmpN n m = z := ⟨_, rfl⟩
  rw [hz] at CM
  by_cases hle : m ≤ n
  · have t1 : decide ((0 : Int) ≤ z) = true := by
      rw [← hz]; unfold cmpN
      split
      · rfl
      · rw [if_neg (by omega)]; rfl
    have t1' : (0 : Int) ≤ z := by simpa using t1
    clear hz
    go_enter Tryz.func34, Tryz.ntmps34
    go_wp2_with fail
    rw [Hw.out]
    go_wp2_with fail
    refine (CM.out _ HX.out HY.out).mono ?_
    rintro e wq ⟨rfl, hwq⟩
    rw [hwq]
    clear hwq
    go_upto_region 4 with fail
    refine wp_region_held_drew (S := fun W' => (W'.cell? ⟨w.heap.size, 0, none⟩ = some (.bool false) ∧ W'.cell? ⟨w.heap.size, 1, none⟩ = some (.slice px nx cx) ∧ W'.cell? ⟨w.heap.size + 1, 0, none⟩ = some (.bool true) ∧ W'.cell? ⟨w.heap.size + 1, 1, none⟩ = some (.slice py ny cy))) (by kernel_rfl) ?_ (fun hHeld => ?_)
    · exact ⟨a0, a1, b0, b1⟩
    refine wpAnyH_take (i := 0) (oi := ({ dst := some 24, op := Op.fieldAddr 48 (Operand.tmp 2) 0, type := 0, pos := "ref.go:159", after := #[], guard := none } : Oper)) (v := ?_) rfl (by kernel_rfl) (by kernel_rfl) (by kernel_rfl) (fun _ _ _ h => h) (Or.inl ⟨by rfl, ?_⟩) (by assumption) ?_
    rotate_left
    · intro w hSw; (try dsimp only at hSw); go_simp <;> with_reducible rfl
    (try simp only [Act.put, List.setIfInBounds_toArray, List.set_cons_zero, List.set_cons_succ])
    refine wpAnyH_take (i := 1) (oi := ({ dst := some 25, op := Op.load 4 (Operand.tmp 24), type := 4, pos := "ref.go:159", after := #[{ on := 0, ground := Ground.data }], guard := none } : Oper)) (v := ?_) rfl (by kernel_rfl) (by kernel_rfl) (by kernel_rfl) (fun _ _ _ h => h) (Or.inl ⟨by rfl, ?_⟩) (by assumption) ?_
    rotate_left
    · intro w hSw; (try dsimp only at hSw); go_simp <;> with_reducible rfl
    (try simp only [Act.put, List.setIfInBounds_toArray, List.set_cons_zero, List.set_cons_succ])
    refine wpAnyH_take (i := 2) (oi := ({ dst := some 26, op := Op.fieldAddr 48 (Operand.tmp 2) 1, type := 0, pos := "ref.go:159", after := #[], guard := none } : Oper)) (v := ?_) rfl (by kernel_rfl) (by kernel_rfl) (by kernel_rfl) (fun _ _ _ h => h) (Or.inl ⟨by rfl, ?_⟩) (by assumption) ?_
    rotate_left
    · intro w hSw; (try dsimp only at hSw); go_simp <;> with_reducible rfl
    (try simp only [Act.put, List.setIfInBounds_toArray, List.set_cons_zero, List.set_cons_succ])
    refine wpAnyH_take (i := 3) (oi := ({ dst := some 27, op := Op.load 46 (Operand.tmp 26), type := 46, pos := "ref.go:159", after := #[{ on := 2, ground := Ground.data }], guard := none } : Oper)) (v := ?_) rfl (by kernel_rfl) (by kernel_rfl) (by kernel_rfl) (fun _ _ _ h => h) (Or.inl ⟨by rfl, ?_⟩) (by assumption) ?_
    rotate_left
    · intro w hSw; (try dsimp only at hSw); go_simp <;> with_reducible rfl
    (try simp only [Act.put, List.setIfInBounds_toArray, List.set_cons_zero, List.set_cons_succ])
    refine wpAnyH_take (i := 4) (oi := ({ dst := some 28, op := Op.fieldAddr 48 (Operand.tmp 3) 1, type := 0, pos := "ref.go:159", after := #[], guard := none } : Oper)) (v := ?_) rfl (by kernel_rfl) (by kernel_rfl) (by kernel_rfl) (fun _ _ _ h => h) (Or.inl ⟨by rfl, ?_⟩) (by assumption) ?_
    rotate_left
    · intro w hSw; (try dsimp only at hSw); go_simp <;> with_reducible rfl
    (try simp only [Act.put, List.setIfInBounds_toArray, List.set_cons_zero, List.set_cons_succ])
    refine wpAnyH_take (i := 5) (oi := ({ dst := some 29, op := Op.load 46 (Operand.tmp 28), type := 46, pos := "ref.go:159", after := #[{ on := 4, ground := Ground.data }], guard := none } : Oper)) (v := ?_) rfl (by kernel_rfl) (by kernel_rfl) (by kernel_rfl) (fun _ _ _ h => h) (Or.inl ⟨by rfl, ?_⟩) (by assumption) ?_
    rotate_left
    · intro w hSw; (try dsimp only at hSw); go_simp <;> with_reducible rfl
    (try simp only [Act.put, List.setIfInBounds_toArray, List.set_cons_zero, List.set_cons_succ])
    refine wpAnyH_ready (rs := [6]) (by kernel_rfl) (by simp) ?_
    refine AllReadyH.cons (o := ({ dst := some 30, op := Op.call { callee := Callee.value (Operand.func 56), args := #[Operand.tmp 27, Operand.tmp 29], argTypes := #[46, 46] }, type := 46, pos := "ref.go:159", after := #[{ on := 3, ground := Ground.data }, { on := 5, ground := Ground.data }], guard := none } : Oper)) rfl (fun K hK => ?_) ?_
    rotate_left
    · exact AllReadyH.nil
    go_simp
    go_at_call 56
    with_reducible refine (MA.out _ hle (HX.out.below hsd) (HY.out.below hsd)).mono ?_
    rintro e y0 ⟨pz, nz, cz, rfl, hz, hq0, hpz⟩
    have hB0 := below_step hsd hq0
    clear hHeld
    first | (with_reducible refine hK.out _ _ ?_ (fun hHeld => ?_)) | (go_wp2_with fail; with_reducible refine hK.out _ _ ?_ (fun hHeld => ?_))
    · exact ⟨cell_below hB0 a0, cell_below hB0 a1, cell_below hB0 b0, cell_below hB0 b1⟩
    clear hK K
    (try simp only [Act.put, List.setIfInBounds_toArray, List.set_cons_zero, List.set_cons_succ])
    refine wpAnyH_take (i := 7) (oi := ({ dst := some 31, op := Op.build 48 #[(0, Operand.tmp 25), (1, Operand.tmp 30)], type := 48, pos := "ref.go:159", after := #[{ on := 1, ground := Ground.data }, { on := 6, ground := Ground.data }], guard := none } : Oper)) (v := ?_) rfl (by kernel_rfl) (by kernel_rfl) (by kernel_rfl) (fun _ _ _ h => h) (Or.inl ⟨by rfl, ?_⟩) (by assumption) ?_
    rotate_left
    · intro w hSw; (try dsimp only at hSw); go_simp <;> with_reducible rfl
    (try simp only [Act.put, List.setIfInBounds_toArray, List.set_cons_zero, List.set_cons_succ])
    refine wpAnyH_ready (rs := [8]) (by kernel_rfl) (by simp) ?_
    refine AllReadyH.cons (o := ({ dst := none, op := Op.store 48 (Operand.tmp 4) (Operand.tmp 31), type := 0, pos := "ref.go:159", after := #[{ on := 7, ground := Ground.data }, { on := 6, ground := Ground.chain }, { on := 0, ground := Ground.phase }, { on := 1, ground := Ground.phase }, { on := 2, ground := Ground.phase }, { on := 3, ground := Ground.phase }, { on := 4, ground := Ground.phase }, { on := 5, ground := Ground.phase }, { on := 6, ground := Ground.phase }, { on := 7, ground := Ground.phase }], guard := none } : Oper)) rfl (fun K hK => ?_) ?_
    rotate_left
    · exact AllReadyH.nil
    obtain ⟨g0, g1, f0, f1, -⟩ := Z0.out.below hB0
    have c0 := cell_below hB0 a0
    have c1 := cell_below hB0 a1
    have d0 := cell_below hB0 b0
    have d1 := cell_below hB0 b1
    have ES := hid (fun (u v : Value) => And.intro (far2 y0 (w.heap.size + 1 + 1) _ _ u v (show w.heap.size + 1 + 1 ≠ w.heap.size by omega) c0) (And.intro (far2 y0 (w.heap.size + 1 + 1) _ _ u v (show w.heap.size + 1 + 1 ≠ w.heap.size by omega) c1) (And.intro (far2 y0 (w.heap.size + 1 + 1) _ _ u v (show w.heap.size + 1 + 1 ≠ w.heap.size + 1 by omega) d0) (far2 y0 (w.heap.size + 1 + 1) _ _ u v (show w.heap.size + 1 + 1 ≠ w.heap.size + 1 by omega) d1))))
    clear c0 c1 d0 d1
    go_simp
    clear hHeld
    first | (with_reducible refine hK.out _ _ ?_ (fun hHeld => ?_)) | (go_wp2_with fail; with_reducible refine hK.out _ _ ?_ (fun hHeld => ?_))
    · exact ES.out _ _
    clear hK K
    (try simp only [Act.put, List.setIfInBounds_toArray, List.set_cons_zero, List.set_cons_succ])
    refine wpAnyH_done (by kernel_rfl) ?_ _
    have HPZ := hid (hpz.mono (show w.heap.size ≤ _ from B0.out.size))
    have HZ := hid (fun u0 u1 => (hz.set (hpz.mono (show w.heap.size + 1 + 1 + 1 ≤ w0.drew.heap.size from Nat.le_of_eq hz0.symm)) 0 u0).set (hpz.mono (show w.heap.size + 1 + 1 + 1 ≤ w0.drew.heap.size from Nat.le_of_eq hz0.symm)) 1 u1)
    have HBB := hid (below_step B0.out hB0)
    clear hHeld hz hpz
    go_wp2_with fail
    exact bodyPost_ret (v := .agg #[.bool false, .slice pz nz cz]) (by simp [results, Tryz.results34, go_sem, g0, g1]) rfl ⟨_, _, n - m, rfl, HZ.out _ _, sv_sub_ge _ _ _ _ (by decide) hle, by omega, (HBB.out.setCell (p := ⟨w.heap.size + 1 + 1, 0, none⟩) (show w.heap.size ≤ w.heap.size + 1 + 1 by omega) _).setCell (p := ⟨w.heap.size + 1 + 1, 1, none⟩) (show w.heap.size ≤ w.heap.size + 1 + 1 by omega) _, HPZ.out⟩
  · have t1 : decide ((0 : Int) ≤ z) = false := by
      rw [← hz]; unfold cmpN
      rw [if_neg (by omega), if_pos (by omega)]; rfl
    have t1' : ¬ (0 : Int) ≤ z := by simpa using t1
    clear hz
    go_enter Tryz.func34, Tryz.ntmps34
    go_wp2_with fail
    rw [Hw.out]
    go_wp2_with fail
    refine (CM.out _ HX.out HY.out).mono ?_
    rintro e wq ⟨rfl, hwq⟩
    rw [hwq]
    clear hwq
    go_upto_region 5 with fail
    refine wp_region_held_drew (S := fun W' => (W'.cell? ⟨w.heap.size, 0, none⟩ = some (.bool false) ∧ W'.cell? ⟨w.heap.size, 1, none⟩ = some (.slice px nx cx) ∧ W'.cell? ⟨w.heap.size + 1, 0, none⟩ = some (.bool true) ∧ W'.cell? ⟨w.heap.size + 1, 1, none⟩ = some (.slice py ny cy))) (by kernel_rfl) ?_ (fun hHeld => ?_)
    · exact ⟨a0, a1, b0, b1⟩
    refine wpAnyH_take (i := 0) (oi := ({ dst := some 32, op := Op.fieldAddr 48 (Operand.tmp 3) 0, type := 0, pos := "ref.go:161", after := #[], guard := none } : Oper)) (v := ?_) rfl (by kernel_rfl) (by kernel_rfl) (by kernel_rfl) (fun _ _ _ h => h) (Or.inl ⟨by rfl, ?_⟩) (by assumption) ?_
    rotate_left
    · intro w hSw; (try dsimp only at hSw); go_simp <;> with_reducible rfl
    (try simp only [Act.put, List.setIfInBounds_toArray, List.set_cons_zero, List.set_cons_succ])
    refine wpAnyH_take (i := 1) (oi := ({ dst := some 33, op := Op.load 4 (Operand.tmp 32), type := 4, pos := "ref.go:161", after := #[{ on := 0, ground := Ground.data }], guard := none } : Oper)) (v := ?_) rfl (by kernel_rfl) (by kernel_rfl) (by kernel_rfl) (fun _ _ _ h => h) (Or.inl ⟨by rfl, ?_⟩) (by assumption) ?_
    rotate_left
    · intro w hSw; (try dsimp only at hSw); go_simp <;> with_reducible rfl
    (try simp only [Act.put, List.setIfInBounds_toArray, List.set_cons_zero, List.set_cons_succ])
    refine wpAnyH_take (i := 2) (oi := ({ dst := some 34, op := Op.fieldAddr 48 (Operand.tmp 3) 1, type := 0, pos := "ref.go:161", after := #[], guard := none } : Oper)) (v := ?_) rfl (by kernel_rfl) (by kernel_rfl) (by kernel_rfl) (fun _ _ _ h => h) (Or.inl ⟨by rfl, ?_⟩) (by assumption) ?_
    rotate_left
    · intro w hSw; (try dsimp only at hSw); go_simp <;> with_reducible rfl
    (try simp only [Act.put, List.setIfInBounds_toArray, List.set_cons_zero, List.set_cons_succ])
    refine wpAnyH_take (i := 3) (oi := ({ dst := some 35, op := Op.load 46 (Operand.tmp 34), type := 46, pos := "ref.go:161", after := #[{ on := 2, ground := Ground.data }], guard := none } : Oper)) (v := ?_) rfl (by kernel_rfl) (by kernel_rfl) (by kernel_rfl) (fun _ _ _ h => h) (Or.inl ⟨by rfl, ?_⟩) (by assumption) ?_
    rotate_left
    · intro w hSw; (try dsimp only at hSw); go_simp <;> with_reducible rfl
    (try simp only [Act.put, List.setIfInBounds_toArray, List.set_cons_zero, List.set_cons_succ])
    refine wpAnyH_take (i := 4) (oi := ({ dst := some 36, op := Op.fieldAddr 48 (Operand.tmp 2) 1, type := 0, pos := "ref.go:161", after := #[], guard := none } : Oper)) (v := ?_) rfl (by kernel_rfl) (by kernel_rfl) (by kernel_rfl) (fun _ _ _ h => h) (Or.inl ⟨by rfl, ?_⟩) (by assumption) ?_
    rotate_left
    · intro w hSw; (try dsimp only at hSw); go_simp <;> with_reducible rfl
    (try simp only [Act.put, List.setIfInBounds_toArray, List.set_cons_zero, List.set_cons_succ])
    refine wpAnyH_take (i := 5) (oi := ({ dst := some 37, op := Op.load 46 (Operand.tmp 36), type := 46, pos := "ref.go:161", after := #[{ on := 4, ground := Ground.data }], guard := none } : Oper)) (v := ?_) rfl (by kernel_rfl) (by kernel_rfl) (by kernel_rfl) (fun _ _ _ h => h) (Or.inl ⟨by rfl, ?_⟩) (by assumption) ?_
    rotate_left
    · intro w hSw; (try dsimp only at hSw); go_simp <;> with_reducible rfl
    (try simp only [Act.put, List.setIfInBounds_toArray, List.set_cons_zero, List.set_cons_succ])
    refine wpAnyH_ready (rs := [6]) (by kernel_rfl) (by simp) ?_
    refine AllReadyH.cons (o := ({ dst := some 38, op := Op.call { callee := Callee.value (Operand.func 56), args := #[Operand.tmp 35, Operand.tmp 37], argTypes := #[46, 46] }, type := 46, pos := "ref.go:161", after := #[{ on := 3, ground := Ground.data }, { on := 5, ground := Ground.data }], guard := none } : Oper)) rfl (fun K hK => ?_) ?_
    rotate_left
    · exact AllReadyH.nil
    go_simp
    go_at_call 56
    with_reducible refine (MB.out _ (by omega) (HX.out.below hsd) (HY.out.below hsd)).mono ?_
    rintro e y0 ⟨pz, nz, cz, rfl, hz, hq0, hpz⟩
    have hB0 := below_step hsd hq0
    clear hHeld
    first | (with_reducible refine hK.out _ _ ?_ (fun hHeld => ?_)) | (go_wp2_with fail; with_reducible refine hK.out _ _ ?_ (fun hHeld => ?_))
    · exact ⟨cell_below hB0 a0, cell_below hB0 a1, cell_below hB0 b0, cell_below hB0 b1⟩
    clear hK K
    (try simp only [Act.put, List.setIfInBounds_toArray, List.set_cons_zero, List.set_cons_succ])
    refine wpAnyH_take (i := 7) (oi := ({ dst := some 39, op := Op.build 48 #[(0, Operand.tmp 33), (1, Operand.tmp 38)], type := 48, pos := "ref.go:161", after := #[{ on := 1, ground := Ground.data }, { on := 6, ground := Ground.data }], guard := none } : Oper)) (v := ?_) rfl (by kernel_rfl) (by kernel_rfl) (by kernel_rfl) (fun _ _ _ h => h) (Or.inl ⟨by rfl, ?_⟩) (by assumption) ?_
    rotate_left
    · intro w hSw; (try dsimp only at hSw); go_simp <;> with_reducible rfl
    (try simp only [Act.put, List.setIfInBounds_toArray, List.set_cons_zero, List.set_cons_succ])
    refine wpAnyH_ready (rs := [8]) (by kernel_rfl) (by simp) ?_
    refine AllReadyH.cons (o := ({ dst := none, op := Op.store 48 (Operand.tmp 4) (Operand.tmp 39), type := 0, pos := "ref.go:161", after := #[{ on := 7, ground := Ground.data }, { on := 6, ground := Ground.chain }, { on := 0, ground := Ground.phase }, { on := 1, ground := Ground.phase }, { on := 2, ground := Ground.phase }, { on := 3, ground := Ground.phase }, { on := 4, ground := Ground.phase }, { on := 5, ground := Ground.phase }, { on := 6, ground := Ground.phase }, { on := 7, ground := Ground.phase }], guard := none } : Oper)) rfl (fun K hK => ?_) ?_
    rotate_left
    · exact AllReadyH.nil
    obtain ⟨g0, g1, f0, f1, -⟩ := Z0.out.below hB0
    have c0 := cell_below hB0 a0
    have c1 := cell_below hB0 a1
    have d0 := cell_below hB0 b0
    have d1 := cell_below hB0 b1
    have ES := hid (fun (u v : Value) => And.intro (far2 y0 (w.heap.size + 1 + 1) _ _ u v (show w.heap.size + 1 + 1 ≠ w.heap.size by omega) c0) (And.intro (far2 y0 (w.heap.size + 1 + 1) _ _ u v (show w.heap.size + 1 + 1 ≠ w.heap.size by omega) c1) (And.intro (far2 y0 (w.heap.size + 1 + 1) _ _ u v (show w.heap.size + 1 + 1 ≠ w.heap.size + 1 by omega) d0) (far2 y0 (w.heap.size + 1 + 1) _ _ u v (show w.heap.size + 1 + 1 ≠ w.heap.size + 1 by omega) d1))))
    clear c0 c1 d0 d1
    go_simp
    clear hHeld
    first | (with_reducible refine hK.out _ _ ?_ (fun hHeld => ?_)) | (go_wp2_with fail; with_reducible refine hK.out _ _ ?_ (fun hHeld => ?_))
    · exact ES.out _ _
    clear hK K
    (try simp only [Act.put, List.setIfInBounds_toArray, List.set_cons_zero, List.set_cons_succ])
    refine wpAnyH_done (by kernel_rfl) ?_ _
    have HPZ := hid (hpz.mono (show w.heap.size ≤ _ from B0.out.size))
    have HZ := hid (fun u0 u1 => (hz.set (hpz.mono (show w.heap.size + 1 + 1 + 1 ≤ w0.drew.heap.size from Nat.le_of_eq hz0.symm)) 0 u0).set (hpz.mono (show w.heap.size + 1 + 1 + 1 ≤ w0.drew.heap.size from Nat.le_of_eq hz0.symm)) 1 u1)
    have HBB := hid (below_step B0.out hB0)
    clear hHeld hz hpz
    go_wp2_with fail
    exact bodyPost_ret (v := .agg #[.bool true, .slice pz nz cz]) (by simp [results, Tryz.results34, go_sem, g0, g1]) rfl ⟨_, _, m - n, rfl, HZ.out _ _, sv_sub_lt _ _ _ _ (by decide) (by omega), by omega, (HBB.out.setCell (p := ⟨w.heap.size + 1 + 1, 0, none⟩) (show w.heap.size ≤ w.heap.size + 1 + 1 by omega) _).setCell (p := ⟨w.heap.size + 1 + 1, 1, none⟩) (show w.heap.size ≤ w.heap.size + 1 + 1 by omega) _, HPZ.out⟩


theorem sum_bits (na nb : Bool) (x y : Value) (n m : Nat) (hn : n < 2 ^ 250) (hm : m < 2 ^ 250) (w : World) (hx : BitsAt w x (bitsN n)) (hy : BitsAt w y (bitsN m)) :
    Calls Tryz.prog 34 #[.agg #[.bool na, x], .agg #[.bool nb, y]] w fun e w' => ∃ (b : Bool) (z : Value) (k : Nat), e = .returned (.agg #[.bool b, z]) ∧ BitsAt w' z (bitsN k) ∧ sv b k = sv na n + sv nb m ∧ k ≤ n + m ∧ Below w.heap.size w w' ∧ Past w.heap.size z := by
  cases na <;> cases nb
  · exact sum_ff x y n m hn hm w hx hy
  · exact sum_ft x y n m hn hm w hx hy
  · exact sum_tf x y n m hn hm w hx hy
  · exact sum_tt x y n m hn hm w hx hy
/-- What 'made' returns. -/
def madeV (b : Bool) (n d : Nat) : Value := if n ≤ 4611686018427387904 ∧ d ≤ 4611686018427387904 then .agg #[.int .i64 (sv b n), .int .i64 (d : Int), .int .i64 0] else .agg #[.int .i64 0, .int .i64 0, .int .i64 2]
set_option maxRecDepth 100000 in
set_option maxHeartbeats 4000000 in
theorem made_bits (b : Bool) (x y : Value) (n d : Nat) (hn : n < 2 ^ 250) (hd : d < 2 ^ 250) (w : World) (hx : BitsAt w x (bitsN n)) (hy : BitsAt w y (bitsN d)) :
    Calls Tryz.prog 37 #[.agg #[.bool b, x], y] w fun e w' => e = .returned (madeV b n d) ∧ Below w.heap.size w w' := by
  have ln := bits_len hn
  have ld := bits_len hd
  have FN := hid (fun (W : World) (h : BitsAt W x (bitsN n)) => by
    have := rfits_any x _ (bit_bits _) (by omega) W h
    rwa [vl_bitsN] at this)
  have FD := hid (fun (W : World) (h : BitsAt W y (bitsN d)) => by
    have := rfits_any y _ (bit_bits _) (by omega) W h
    rwa [vl_bitsN] at this)
  obtain ⟨px, nx, cx, rfl⟩ := hx.slice
  have HX := hid hx
  have HY := hid hy
  have X0 := hid ((box2_new w (.bool b) (.slice px nx cx) 48).below (below_a0 _ (.cells #[.int .i64 0, .int .i64 0, .int .i64 0] 28)))
  have b0 := below_a (below_a0 w (.cells #[.bool b, .slice px nx cx] 48)) (.cells #[.int .i64 0, .int .i64 0, .int .i64 0] 28)
  have HB0 := hid b0
  have HX0 := hid (hx.below b0)
  have HY0 := hid (hy.below b0)
  clear hx hy b0
  obtain ⟨c0, c1, -, -, -⟩ := X0.out
  by_cases h1 : n ≤ 4611686018427387904
  · rw [if_pos h1] at FN
    by_cases h2 : d ≤ 4611686018427387904
    · rw [if_pos h2] at FD
      cases b
      · have HR := hid (show madeV false n d = .agg #[.int .i64 (n : Int), .int .i64 (d : Int), .int .i64 0] by unfold madeV; rw [if_pos ⟨h1, h2⟩]; rfl)
        go_enter Tryz.func37, Tryz.ntmps37
        go_wp2_with fail
        refine (FN.out _ HX0.out).mono ?_
        rintro e w1 ⟨rfl, hb1⟩
        have HY1 := hid (HY0.out.below hb1)
        have HB1 := hid (below_step HB0.out hb1)
        have e0 := cell_below hb1 c0
        have q0 : w1.cell? ⟨w.heap.size + 1, 0, none⟩ = some (.int .i64 0) := cell_below hb1 (by simp [go_sem])
        have q1 : w1.cell? ⟨w.heap.size + 1, 1, none⟩ = some (.int .i64 0) := cell_below hb1 (by simp [go_sem])
        have q2 : w1.cell? ⟨w.heap.size + 1, 2, none⟩ = some (.int .i64 0) := cell_below hb1 (by simp [go_sem])
        have z0 : w1.frozen? ⟨w.heap.size + 1, 0, none⟩ = false := (hb1.frozen (p := ⟨w.heap.size + 1, 0, none⟩) (by simp)).trans (by simp [go_sem])
        have z1 : w1.frozen? ⟨w.heap.size + 1, 1, none⟩ = false := (hb1.frozen (p := ⟨w.heap.size + 1, 1, none⟩) (by simp)).trans (by simp [go_sem])
        have z2 : w1.frozen? ⟨w.heap.size + 1, 2, none⟩ = false := (hb1.frozen (p := ⟨w.heap.size + 1, 2, none⟩) (by simp)).trans (by simp [go_sem])
        have hs1 : w.heap.size + 1 < w1.heap.size := by have := hb1.size; simp at this; omega
        clear hb1
        go_wp2_with fail
        refine (FD.out _ HY1.out).mono ?_
        rintro e w3 ⟨rfl, hb3⟩
        have HB3 := hid (below_step HB1.out hb3)
        have g0 := cell_below hb3 e0
        have r0 := cell_below hb3 q0
        have r1 := cell_below hb3 q1
        have r2 := cell_below hb3 q2
        have f0 : w3.frozen? ⟨w.heap.size + 1, 0, none⟩ = false := (hb3.frozen (p := ⟨w.heap.size + 1, 0, none⟩) hs1).trans z0
        have f1 : w3.frozen? ⟨w.heap.size + 1, 1, none⟩ = false := (hb3.frozen (p := ⟨w.heap.size + 1, 1, none⟩) hs1).trans z1
        have f2 : w3.frozen? ⟨w.heap.size + 1, 2, none⟩ = false := (hb3.frozen (p := ⟨w.heap.size + 1, 2, none⟩) hs1).trans z2
        clear hb3 e0 q0 q1 q2 z0 z1 z2
        go_wp2_with fail
        exact bodyPost_ret (v := .agg #[.int .i64 (n : Int), .int .i64 (d : Int), .int .i64 0]) (by simp [results, Tryz.results37, go_sem, r0, r1, r2]) rfl ⟨by rw [HR.out], by repeat (first | exact HB3.out | refine Below.setCell ?_ (show w.heap.size ≤ w.heap.size + 1 by omega) _)⟩
      · have HR := hid (show madeV true n d = .agg #[.int .i64 (-(n : Int)), .int .i64 (d : Int), .int .i64 0] by unfold madeV; rw [if_pos ⟨h1, h2⟩]; rfl)
        go_enter Tryz.func37, Tryz.ntmps37
        go_wp2_with fail
        refine (FN.out _ HX0.out).mono ?_
        rintro e w1 ⟨rfl, hb1⟩
        have HY1 := hid (HY0.out.below hb1)
        have HB1 := hid (below_step HB0.out hb1)
        have e0 := cell_below hb1 c0
        have q0 : w1.cell? ⟨w.heap.size + 1, 0, none⟩ = some (.int .i64 0) := cell_below hb1 (by simp [go_sem])
        have q1 : w1.cell? ⟨w.heap.size + 1, 1, none⟩ = some (.int .i64 0) := cell_below hb1 (by simp [go_sem])
        have q2 : w1.cell? ⟨w.heap.size + 1, 2, none⟩ = some (.int .i64 0) := cell_below hb1 (by simp [go_sem])
        have z0 : w1.frozen? ⟨w.heap.size + 1, 0, none⟩ = false := (hb1.frozen (p := ⟨w.heap.size + 1, 0, none⟩) (by simp)).trans (by simp [go_sem])
        have z1 : w1.frozen? ⟨w.heap.size + 1, 1, none⟩ = false := (hb1.frozen (p := ⟨w.heap.size + 1, 1, none⟩) (by simp)).trans (by simp [go_sem])
        have z2 : w1.frozen? ⟨w.heap.size + 1, 2, none⟩ = false := (hb1.frozen (p := ⟨w.heap.size + 1, 2, none⟩) (by simp)).trans (by simp [go_sem])
        have hs1 : w.heap.size + 1 < w1.heap.size := by have := hb1.size; simp at this; omega
        clear hb1
        go_wp2_with fail
        refine (FD.out _ HY1.out).mono ?_
        rintro e w3 ⟨rfl, hb3⟩
        have HB3 := hid (below_step HB1.out hb3)
        have g0 := cell_below hb3 e0
        have r0 := cell_below hb3 q0
        have r1 := cell_below hb3 q1
        have r2 := cell_below hb3 q2
        have f0 : w3.frozen? ⟨w.heap.size + 1, 0, none⟩ = false := (hb3.frozen (p := ⟨w.heap.size + 1, 0, none⟩) hs1).trans z0
        have f1 : w3.frozen? ⟨w.heap.size + 1, 1, none⟩ = false := (hb3.frozen (p := ⟨w.heap.size + 1, 1, none⟩) hs1).trans z1
        have f2 : w3.frozen? ⟨w.heap.size + 1, 2, none⟩ = false := (hb3.frozen (p := ⟨w.heap.size + 1, 2, none⟩) hs1).trans z2
        clear hb3 e0 q0 q1 q2 z0 z1 z2
        go_wp2_with fail
        exact bodyPost_ret (v := .agg #[.int .i64 (-(n : Int)), .int .i64 (d : Int), .int .i64 0]) (by simp [results, Tryz.results37, go_sem, r0, r1, r2]) rfl ⟨by rw [HR.out], by repeat (first | exact HB3.out | refine Below.setCell ?_ (show w.heap.size ≤ w.heap.size + 1 by omega) _)⟩
    · rw [if_neg h2] at FD
      have HR := hid (show madeV b n d = .agg #[.int .i64 0, .int .i64 0, .int .i64 2] by unfold madeV; rw [if_neg (fun h => h2 h.2)])
      go_enter Tryz.func37, Tryz.ntmps37
      go_wp2_with fail
      refine (FN.out _ HX0.out).mono ?_
      rintro e w1 ⟨rfl, hb1⟩
      have HY1 := hid (HY0.out.below hb1)
      have HB1 := hid (below_step HB0.out hb1)
      have e0 := cell_below hb1 c0
      have q0 : w1.cell? ⟨w.heap.size + 1, 0, none⟩ = some (.int .i64 0) := cell_below hb1 (by simp [go_sem])
      have q1 : w1.cell? ⟨w.heap.size + 1, 1, none⟩ = some (.int .i64 0) := cell_below hb1 (by simp [go_sem])
      have q2 : w1.cell? ⟨w.heap.size + 1, 2, none⟩ = some (.int .i64 0) := cell_below hb1 (by simp [go_sem])
      have z0 : w1.frozen? ⟨w.heap.size + 1, 0, none⟩ = false := (hb1.frozen (p := ⟨w.heap.size + 1, 0, none⟩) (by simp)).trans (by simp [go_sem])
      have z1 : w1.frozen? ⟨w.heap.size + 1, 1, none⟩ = false := (hb1.frozen (p := ⟨w.heap.size + 1, 1, none⟩) (by simp)).trans (by simp [go_sem])
      have z2 : w1.frozen? ⟨w.heap.size + 1, 2, none⟩ = false := (hb1.frozen (p := ⟨w.heap.size + 1, 2, none⟩) (by simp)).trans (by simp [go_sem])
      have hs1 : w.heap.size + 1 < w1.heap.size := by have := hb1.size; simp at this; omega
      clear hb1
      go_wp2_with fail
      refine (FD.out _ HY1.out).mono ?_
      rintro e w3 ⟨rfl, hb3⟩
      have HB3 := hid (below_step HB1.out hb3)
      have g0 := cell_below hb3 e0
      have r0 := cell_below hb3 q0
      have r1 := cell_below hb3 q1
      have r2 := cell_below hb3 q2
      have f0 : w3.frozen? ⟨w.heap.size + 1, 0, none⟩ = false := (hb3.frozen (p := ⟨w.heap.size + 1, 0, none⟩) hs1).trans z0
      have f1 : w3.frozen? ⟨w.heap.size + 1, 1, none⟩ = false := (hb3.frozen (p := ⟨w.heap.size + 1, 1, none⟩) hs1).trans z1
      have f2 : w3.frozen? ⟨w.heap.size + 1, 2, none⟩ = false := (hb3.frozen (p := ⟨w.heap.size + 1, 2, none⟩) hs1).trans z2
      clear hb3 e0 q0 q1 q2 z0 z1 z2
      go_wp2_with fail
      exact bodyPost_ret (v := .agg #[.int .i64 0, .int .i64 0, .int .i64 2]) (by simp [results, Tryz.results37, go_sem, r0, r1, r2]) rfl ⟨by rw [HR.out], by repeat (first | exact HB3.out | refine Below.setCell ?_ (show w.heap.size ≤ w.heap.size + 1 by omega) _)⟩
  · rw [if_neg h1] at FN
    have HR := hid (show madeV b n d = .agg #[.int .i64 0, .int .i64 0, .int .i64 2] by unfold madeV; rw [if_neg (fun h => h1 h.1)])
    obtain ⟨fd, kd, hfd⟩ : ∃ (fd : Int) (kd : Bool), (if d ≤ 4611686018427387904 then (.tuple #[.int .i64 (d : Int), .bool true] : Value) else .tuple #[.int .i64 0, .bool false]) = .tuple #[.int .i64 fd, .bool kd] := by
      split
      · exact ⟨_, _, rfl⟩
      · exact ⟨_, _, rfl⟩
    rw [hfd] at FD
    go_enter Tryz.func37, Tryz.ntmps37
    go_wp2_with fail
    refine (FN.out _ HX0.out).mono ?_
    rintro e w1 ⟨rfl, hb1⟩
    have HY1 := hid (HY0.out.below hb1)
    have HB1 := hid (below_step HB0.out hb1)
    have e0 := cell_below hb1 c0
    have q0 : w1.cell? ⟨w.heap.size + 1, 0, none⟩ = some (.int .i64 0) := cell_below hb1 (by simp [go_sem])
    have q1 : w1.cell? ⟨w.heap.size + 1, 1, none⟩ = some (.int .i64 0) := cell_below hb1 (by simp [go_sem])
    have q2 : w1.cell? ⟨w.heap.size + 1, 2, none⟩ = some (.int .i64 0) := cell_below hb1 (by simp [go_sem])
    have z0 : w1.frozen? ⟨w.heap.size + 1, 0, none⟩ = false := (hb1.frozen (p := ⟨w.heap.size + 1, 0, none⟩) (by simp)).trans (by simp [go_sem])
    have z1 : w1.frozen? ⟨w.heap.size + 1, 1, none⟩ = false := (hb1.frozen (p := ⟨w.heap.size + 1, 1, none⟩) (by simp)).trans (by simp [go_sem])
    have z2 : w1.frozen? ⟨w.heap.size + 1, 2, none⟩ = false := (hb1.frozen (p := ⟨w.heap.size + 1, 2, none⟩) (by simp)).trans (by simp [go_sem])
    have hs1 : w.heap.size + 1 < w1.heap.size := by have := hb1.size; simp at this; omega
    clear hb1
    go_wp2_with fail
    refine (FD.out _ HY1.out).mono ?_
    rintro e w3 ⟨rfl, hb3⟩
    have HB3 := hid (below_step HB1.out hb3)
    have g0 := cell_below hb3 e0
    have r0 := cell_below hb3 q0
    have r1 := cell_below hb3 q1
    have r2 := cell_below hb3 q2
    have f0 : w3.frozen? ⟨w.heap.size + 1, 0, none⟩ = false := (hb3.frozen (p := ⟨w.heap.size + 1, 0, none⟩) hs1).trans z0
    have f1 : w3.frozen? ⟨w.heap.size + 1, 1, none⟩ = false := (hb3.frozen (p := ⟨w.heap.size + 1, 1, none⟩) hs1).trans z1
    have f2 : w3.frozen? ⟨w.heap.size + 1, 2, none⟩ = false := (hb3.frozen (p := ⟨w.heap.size + 1, 2, none⟩) hs1).trans z2
    clear hb3 e0 q0 q1 q2 z0 z1 z2
    go_wp2_with fail
    exact bodyPost_ret (v := .agg #[.int .i64 0, .int .i64 0, .int .i64 2]) (by simp [results, Tryz.results37, go_sem, r0, r1, r2]) rfl ⟨by rw [HR.out], by repeat (first | exact HB3.out | refine Below.setCell ?_ (show w.heap.size ≤ w.heap.size + 1 by omega) _)⟩

end Go.Proofs.YtffcnkkgbhhfnaaGreatDoor


import Derived.Test.YtffcnkkgbhhfnaaGreatDoorRx
namespace Go.Proofs.YtffcnkkgbhhfnaaGreatDoor
open Go.RowKit Go.Instr
set_option linter.unusedVariables false

/-! The fixed calls that each law asks first. -/
set_option maxHeartbeats 1000000 in
theorem parsed_g (s : ByteArray) (N D E : Int) (C : ∀ w : World, Glob w → Calls Tryz.prog 48 #[.string s] w fun e w' => e = .returned (.tuple #[.agg #[.int .i64 N, .int .i64 D], .int .i64 E]) ∧ Below w.heap.size w w') (w : World) (g : Glob w) :
    Calls Tryz.prog 28 #[.string s] w fun e w' => e = .returned (.agg #[.int .i64 (N), .int .i64 (D), .int .i64 (E)]) ∧ Below w.heap.size w w' := by
  have C := hid C
  have GL := hid (fun o => glob_below ((Below.refl w.heap.size w).alloc (Nat.le_refl _) o) g)
  clear g
  go_enter Tryz.func28, Tryz.ntmps28
  go_wp2_with fail
  refine (C.out _ (GL.out _)).mono ?_
  rintro e w1 ⟨rfl, hb⟩
  have hzP : w.heap.size + 1 ≤ w1.heap.size := by have := hb.size; simp at this; omega
  have P0 : ∀ W, Below w1.heap.size w1 W → W.cell? ⟨w.heap.size, 0, none⟩ = some (.int .i64 0) ∧ W.cell? ⟨w.heap.size, 1, none⟩ = some (.int .i64 0) ∧ W.cell? ⟨w.heap.size, 2, none⟩ = some (.int .i64 0) ∧ W.frozen? ⟨w.heap.size, 0, none⟩ = false ∧ W.frozen? ⟨w.heap.size, 1, none⟩ = false ∧ W.frozen? ⟨w.heap.size, 2, none⟩ = false ∧ w1.heap.size ≤ W.heap.size := by
    intro W hW
    exact ⟨cell_below hW (cell_below hb (by simp [go_sem])), cell_below hW (cell_below hb (by simp [go_sem])), cell_below hW (cell_below hb (by simp [go_sem])), (hW.frozen (p := ⟨w.heap.size, 0, none⟩) (by simp; omega)).trans ((hb.frozen (p := ⟨w.heap.size, 0, none⟩) (by first | (simp; done) | (simp; omega))).trans (by simp [go_sem])), (hW.frozen (p := ⟨w.heap.size, 1, none⟩) (by simp; omega)).trans ((hb.frozen (p := ⟨w.heap.size, 1, none⟩) (by first | (simp; done) | (simp; omega))).trans (by simp [go_sem])), (hW.frozen (p := ⟨w.heap.size, 2, none⟩) (by simp; omega)).trans ((hb.frozen (p := ⟨w.heap.size, 2, none⟩) (by first | (simp; done) | (simp; omega))).trans (by simp [go_sem])), hW.size⟩
  have P := hid P0
  clear P0
  have HP := hid hb
  clear hb
  have K := fun o => P.out (w1.alloc o) (below_a (Below.refl _ _) o)
  have k0 := fun o => (K o).1
  have k1 := fun o => (K o).2.1
  have k2 := fun o => (K o).2.2.1
  have k3 := fun o => (K o).2.2.2.1
  have k4 := fun o => (K o).2.2.2.2.1
  have k5 := fun o => (K o).2.2.2.2.2.1
  clear K
  go_wp2
  exact bodyPost_ret (v := .agg #[.int .i64 (N), .int .i64 (D), .int .i64 (E)]) (by simp [results, Tryz.results28, k0, k1, k2, go_sem]) rfl ⟨rfl, (((((((Below.refl _ _).alloc (by first | exact Nat.le_refl _ | (simp; done) | (simp; omega) | omega | (simp [World.drewN]; omega)) _).trans (HP.out.mono (by first | exact Nat.le_refl _ | (simp; done) | (simp; omega) | omega | (simp [World.drewN]; omega)))).alloc (by first | exact Nat.le_refl _ | (simp; done) | (simp; omega) | omega | (simp [World.drewN]; omega)) _).setCell (by first | exact Nat.le_refl _ | (simp; done) | (simp; omega) | omega | (simp [World.drewN]; omega)) _).setCell (by first | exact Nat.le_refl _ | (simp; done) | (simp; omega) | omega | (simp [World.drewN]; omega)) _).setCell (by first | exact Nat.le_refl _ | (simp; done) | (simp; omega) | omega | (simp [World.drewN]; omega)) _)⟩

theorem i64_of (n : Int) (h : decide (-9223372036854775808 ≤ n) && decide (n ≤ 9223372036854775807) = true) : I64 n := by
  simp only [Bool.and_eq_true, decide_eq_true_eq] at h; exact h
theorem fr_of (n d : Int) (h : validB n d = true) : Fr n d := (valid_iff n d).1 h

theorem createdE (n d N D E : Int) (h1 : I64 n) (h2 : I64 d) (e1 : nN n d = N) (e2 : nD n d = D) (e3 : nE n d = E) (w : World) :
    Calls Tryz.prog 5 #[.int .i64 n, .int .i64 d] w fun e w' => e = .returned (.agg #[.int .i64 (N), .int .i64 (D), .int .i64 (E)]) ∧ Below w.heap.size w w' :=
  created_any n d N D E (fun w => by have h := new_any n d h1 h2 w; rw [newV_eq, e1, e2, e3] at h; exact h) w
theorem addE {aN aD bN bD : Int} (a : Fr aN aD) (b : Fr bN bD) (w : World) :
    Calls Tryz.prog 10 #[.agg #[.int .i64 (aN), .int .i64 (aD)], .agg #[.int .i64 (bN), .int .i64 (bD)]] w fun e w' => e = .returned (.agg #[.int .i64 (numR (Rat.divInt aN aD + Rat.divInt bN bD)), .int .i64 (denR (Rat.divInt aN aD + Rat.divInt bN bD)), .int .i64 (errR (Rat.divInt aN aD + Rat.divInt bN bD))]) ∧ Below w.heap.size w w' :=
  add_law aN aD bN bD _ _ _ (fun w => addF a b w) w
theorem addK {aN aD bN bD N D E : Int} (a : Fr aN aD) (b : Fr bN bD) (e1 : numR (Rat.divInt aN aD + Rat.divInt bN bD) = N) (e2 : denR (Rat.divInt aN aD + Rat.divInt bN bD) = D) (e3 : errR (Rat.divInt aN aD + Rat.divInt bN bD) = E) (w : World) :
    Calls Tryz.prog 10 #[.agg #[.int .i64 (aN), .int .i64 (aD)], .agg #[.int .i64 (bN), .int .i64 (bD)]] w fun e w' => e = .returned (.agg #[.int .i64 (N), .int .i64 (D), .int .i64 (E)]) ∧ Below w.heap.size w w' := by
  have h := addE a b w
  rw [e1, e2, e3] at h
  exact h
theorem subE {aN aD bN bD : Int} (a : Fr aN aD) (b : Fr bN bD) (w : World) :
    Calls Tryz.prog 12 #[.agg #[.int .i64 (aN), .int .i64 (aD)], .agg #[.int .i64 (bN), .int .i64 (bD)]] w fun e w' => e = .returned (.agg #[.int .i64 (numR (Rat.divInt aN aD - Rat.divInt bN bD)), .int .i64 (denR (Rat.divInt aN aD - Rat.divInt bN bD)), .int .i64 (errR (Rat.divInt aN aD - Rat.divInt bN bD))]) ∧ Below w.heap.size w w' :=
  sub_law aN aD bN bD _ _ _ (fun w => subF a b w) w
theorem subK {aN aD bN bD N D E : Int} (a : Fr aN aD) (b : Fr bN bD) (e1 : numR (Rat.divInt aN aD - Rat.divInt bN bD) = N) (e2 : denR (Rat.divInt aN aD - Rat.divInt bN bD) = D) (e3 : errR (Rat.divInt aN aD - Rat.divInt bN bD) = E) (w : World) :
    Calls Tryz.prog 12 #[.agg #[.int .i64 (aN), .int .i64 (aD)], .agg #[.int .i64 (bN), .int .i64 (bD)]] w fun e w' => e = .returned (.agg #[.int .i64 (N), .int .i64 (D), .int .i64 (E)]) ∧ Below w.heap.size w w' := by
  have h := subE a b w
  rw [e1, e2, e3] at h
  exact h
theorem mulE {aN aD bN bD : Int} (a : Fr aN aD) (b : Fr bN bD) (w : World) :
    Calls Tryz.prog 14 #[.agg #[.int .i64 (aN), .int .i64 (aD)], .agg #[.int .i64 (bN), .int .i64 (bD)]] w fun e w' => e = .returned (.agg #[.int .i64 (numR (Rat.divInt aN aD * Rat.divInt bN bD)), .int .i64 (denR (Rat.divInt aN aD * Rat.divInt bN bD)), .int .i64 (errR (Rat.divInt aN aD * Rat.divInt bN bD))]) ∧ Below w.heap.size w w' :=
  mul_law aN aD bN bD _ _ _ (fun w => mulF a b w) w
theorem mulK {aN aD bN bD N D E : Int} (a : Fr aN aD) (b : Fr bN bD) (e1 : numR (Rat.divInt aN aD * Rat.divInt bN bD) = N) (e2 : denR (Rat.divInt aN aD * Rat.divInt bN bD) = D) (e3 : errR (Rat.divInt aN aD * Rat.divInt bN bD) = E) (w : World) :
    Calls Tryz.prog 14 #[.agg #[.int .i64 (aN), .int .i64 (aD)], .agg #[.int .i64 (bN), .int .i64 (bD)]] w fun e w' => e = .returned (.agg #[.int .i64 (N), .int .i64 (D), .int .i64 (E)]) ∧ Below w.heap.size w w' := by
  have h := mulE a b w
  rw [e1, e2, e3] at h
  exact h
theorem divE {aN aD bN bD : Int} (a : Fr aN aD) (b : Fr bN bD) (hb : bN ≠ 0) (w : World) :
    Calls Tryz.prog 16 #[.agg #[.int .i64 (aN), .int .i64 (aD)], .agg #[.int .i64 (bN), .int .i64 (bD)]] w fun e w' => e = .returned (.agg #[.int .i64 (numR (Rat.divInt aN aD / Rat.divInt bN bD)), .int .i64 (denR (Rat.divInt aN aD / Rat.divInt bN bD)), .int .i64 (errR (Rat.divInt aN aD / Rat.divInt bN bD))]) ∧ Below w.heap.size w w' :=
  div_law aN aD bN bD _ _ _ (fun w => divF a b hb w) w
theorem divK {aN aD bN bD N D E : Int} (a : Fr aN aD) (b : Fr bN bD) (hb : bN ≠ 0) (e1 : numR (Rat.divInt aN aD / Rat.divInt bN bD) = N) (e2 : denR (Rat.divInt aN aD / Rat.divInt bN bD) = D) (e3 : errR (Rat.divInt aN aD / Rat.divInt bN bD) = E) (w : World) :
    Calls Tryz.prog 16 #[.agg #[.int .i64 (aN), .int .i64 (aD)], .agg #[.int .i64 (bN), .int .i64 (bD)]] w fun e w' => e = .returned (.agg #[.int .i64 (N), .int .i64 (D), .int .i64 (E)]) ∧ Below w.heap.size w w' := by
  have h := divE a b hb w
  rw [e1, e2, e3] at h
  exact h
theorem divZ {aN aD bD : Int} (a : Fr aN aD) (w : World) :
    Calls Tryz.prog 16 #[.agg #[.int .i64 (aN), .int .i64 (aD)], .agg #[.int .i64 (0), .int .i64 (bD)]] w fun e w' => e = .returned (.agg #[.int .i64 (0), .int .i64 (0), .int .i64 (20)]) ∧ Below w.heap.size w w' :=
  div_law aN aD 0 bD 0 0 20 (fun w => divF_zero a w) w
theorem minE {aN aD bN bD : Int} (a : Fr aN aD) (b : Fr bN bD) (w : World) :
    Calls Tryz.prog 22 #[.agg #[.int .i64 (aN), .int .i64 (aD)], .agg #[.int .i64 (bN), .int .i64 (bD)]] w fun e w' => e = .returned (if 0 < cmpV (Rat.divInt aN aD) (Rat.divInt bN bD) then .agg #[.int .i64 (bN), .int .i64 (bD)] else .agg #[.int .i64 (aN), .int .i64 (aD)]) ∧ Below w.heap.size w w' := by
  by_cases h : 0 < cmpV (Rat.divInt aN aD) (Rat.divInt bN bD)
  · rw [if_pos h]; exact min_b a b (decide_eq_true h) w
  · rw [if_neg h]; exact min_a a b (decide_eq_false h) w
theorem maxE {aN aD bN bD : Int} (a : Fr aN aD) (b : Fr bN bD) (w : World) :
    Calls Tryz.prog 23 #[.agg #[.int .i64 (aN), .int .i64 (aD)], .agg #[.int .i64 (bN), .int .i64 (bD)]] w fun e w' => e = .returned (if cmpV (Rat.divInt aN aD) (Rat.divInt bN bD) < 0 then .agg #[.int .i64 (bN), .int .i64 (bD)] else .agg #[.int .i64 (aN), .int .i64 (aD)]) ∧ Below w.heap.size w w' := by
  by_cases h : cmpV (Rat.divInt aN aD) (Rat.divInt bN bD) < 0
  · rw [if_pos h]; exact max_b a b (decide_eq_true h) w
  · rw [if_neg h]; exact max_a a b (decide_eq_false h) w

theorem fr_a : Fr (1) 6 := fr_of _ _ (by decide +kernel)
theorem fr_b : Fr (1) 10 := fr_of _ _ (by decide +kernel)
theorem fr_big : Fr (4611686018427387904) 1 := fr_of _ _ (by decide +kernel)
theorem fr_one : Fr (1) 1 := fr_of _ _ (by decide +kernel)
theorem fr_t34 : Fr (3) 4 := fr_of _ _ (by decide +kernel)
theorem fr_m92 : Fr (-9) 2 := fr_of _ _ (by decide +kernel)
theorem fr_m13 : Fr (-1) 3 := fr_of _ _ (by decide +kernel)
theorem fr_onem : Fr (1) 4611686018427387904 := fr_of _ _ (by decide +kernel)
theorem x1 (w : World) : Calls Tryz.prog 5 #[.int .i64 6, .int .i64 (-4)] w fun e w' => e = .returned (.agg #[.int .i64 (-3), .int .i64 (2), .int .i64 (0)]) ∧ Below w.heap.size w w' :=
  createdE (6) (-4) (-3) (2) (0) (i64_of _ rfl) (i64_of _ rfl) (by decide +kernel) (by decide +kernel) (by decide +kernel) w
theorem x2 (w : World) : Calls Tryz.prog 5 #[.int .i64 0, .int .i64 5] w fun e w' => e = .returned (.agg #[.int .i64 (0), .int .i64 (1), .int .i64 (0)]) ∧ Below w.heap.size w w' :=
  createdE (0) (5) (0) (1) (0) (i64_of _ rfl) (i64_of _ rfl) (by decide +kernel) (by decide +kernel) (by decide +kernel) w
theorem x3 (w : World) : Calls Tryz.prog 5 #[.int .i64 1, .int .i64 0] w fun e w' => e = .returned (.agg #[.int .i64 (0), .int .i64 (0), .int .i64 (20)]) ∧ Below w.heap.size w w' :=
  createdE (1) (0) (0) (0) (20) (i64_of _ rfl) (i64_of _ rfl) (by decide +kernel) (by decide +kernel) (by decide +kernel) w
theorem x4 (w : World) : Calls Tryz.prog 10 #[.agg #[.int .i64 (1), .int .i64 (6)], .agg #[.int .i64 (1), .int .i64 (10)]] w fun e w' => e = .returned (.agg #[.int .i64 (4), .int .i64 (15), .int .i64 (0)]) ∧ Below w.heap.size w w' :=
  addK fr_a fr_b (by decide +kernel) (by decide +kernel) (by decide +kernel) w
theorem x5 (w : World) : Calls Tryz.prog 16 #[.agg #[.int .i64 (3), .int .i64 (4)], .agg #[.int .i64 (-9), .int .i64 (2)]] w fun e w' => e = .returned (.agg #[.int .i64 (-1), .int .i64 (6), .int .i64 (0)]) ∧ Below w.heap.size w w' :=
  divK fr_t34 fr_m92 (by decide) (by decide +kernel) (by decide +kernel) (by decide +kernel) w
theorem x6 (w : World) : Calls Tryz.prog 10 #[.agg #[.int .i64 (4611686018427387904), .int .i64 (1)], .agg #[.int .i64 (1), .int .i64 (1)]] w fun e w' => e = .returned (.agg #[.int .i64 (0), .int .i64 (0), .int .i64 (2)]) ∧ Below w.heap.size w w' :=
  addK fr_big fr_one (by decide +kernel) (by decide +kernel) (by decide +kernel) w
theorem x7 (w : World) : Calls Tryz.prog 10 #[.agg #[.int .i64 (4611686018427387904), .int .i64 (1)], .agg #[.int .i64 (-1), .int .i64 (3)]] w fun e w' => e = .returned (.agg #[.int .i64 (0), .int .i64 (0), .int .i64 (2)]) ∧ Below w.heap.size w w' :=
  addK fr_big fr_m13 (by decide +kernel) (by decide +kernel) (by decide +kernel) w
theorem x8 (w : World) : Calls Tryz.prog 14 #[.agg #[.int .i64 (4611686018427387904), .int .i64 (1)], .agg #[.int .i64 (1), .int .i64 (4611686018427387904)]] w fun e w' => e = .returned (.agg #[.int .i64 (1), .int .i64 (1), .int .i64 (0)]) ∧ Below w.heap.size w w' :=
  mulK fr_big fr_onem (by decide +kernel) (by decide +kernel) (by decide +kernel) w
theorem x9 (w : World) : Calls Tryz.prog 16 #[.agg #[.int .i64 (1), .int .i64 (6)], .agg #[.int .i64 (0), .int .i64 (1)]] w fun e w' => e = .returned (.agg #[.int .i64 (0), .int .i64 (0), .int .i64 (20)]) ∧ Below w.heap.size w w' :=
  divZ fr_a w
theorem x10 (w : World) : Calls Tryz.prog 18 #[.agg #[.int .i64 (1), .int .i64 (6)], .agg #[.int .i64 (1), .int .i64 (10)]] w fun e w' => e = .returned (.int .i64 1) ∧ Below w.heap.size w w' := by
  have h := cmpF fr_a fr_b w
  rw [show cmpV (Rat.divInt 1 6) (Rat.divInt 1 10) = 1 by decide +kernel] at h
  exact h
theorem x11 (w : World) : Calls Tryz.prog 7 #[.agg #[.int .i64 (2), .int .i64 (4)]] w fun e w' => e = .returned (.bool false) ∧ Below w.heap.size w w' := by
  have h := valid_any 2 4 (i64_of _ rfl) (i64_of _ rfl) w
  rw [show validB 2 4 = false by decide +kernel] at h
  exact h
theorem x12 (w : World) : Calls Tryz.prog 7 #[.agg #[.int .i64 (1), .int .i64 (6)]] w fun e w' => e = .returned (.bool true) ∧ Below w.heap.size w w' := by
  have h := valid_any 1 6 (i64_of _ rfl) (i64_of _ rfl) w
  rw [show validB 1 6 = true by decide +kernel] at h
  exact h
theorem x13 (w : World) (g : Glob w) : Calls Tryz.prog 28 #[.string ⟨#[52, 47, 50]⟩] w fun e w' => e = .returned (.agg #[.int .i64 (0), .int .i64 (0), .int .i64 (3)]) ∧ Below w.heap.size w w' :=
  parsed_g ⟨#[52, 47, 50]⟩ (0) (0) (3) (fun w g => parse_some ⟨#[52, 47, 50]⟩ (by decide) [52] [50] true (by decide +kernel) (by decide) (by decide) (4) (2) (by decide +kernel) (by decide +kernel) false true (by decide +kernel) (by decide +kernel) w g) w g
theorem x14 (w : World) (g : Glob w) : Calls Tryz.prog 28 #[.string ⟨#[49, 47, 49]⟩] w fun e w' => e = .returned (.agg #[.int .i64 (0), .int .i64 (0), .int .i64 (3)]) ∧ Below w.heap.size w w' :=
  parsed_g ⟨#[49, 47, 49]⟩ (0) (0) (3) (fun w g => parse_some ⟨#[49, 47, 49]⟩ (by decide) [49] [49] true (by decide +kernel) (by decide) (by decide) (1) (1) (by decide +kernel) (by decide +kernel) true false (by decide +kernel) (by decide +kernel) w g) w g
theorem x15 (w : World) (g : Glob w) : Calls Tryz.prog 28 #[.string ⟨#[45, 48]⟩] w fun e w' => e = .returned (.agg #[.int .i64 (0), .int .i64 (0), .int .i64 (3)]) ∧ Below w.heap.size w w' :=
  parsed_g ⟨#[45, 48]⟩ (0) (0) (3) (fun w g => parse_some ⟨#[45, 48]⟩ (by decide) [45, 48] [] false (by decide +kernel) (by decide) (by decide) (0) (1) (by decide +kernel) (by decide +kernel) true false (by decide +kernel) (by decide +kernel) w g) w g
theorem x16 (w : World) (g : Glob w) : Calls Tryz.prog 28 #[.string ⟨#[43, 49]⟩] w fun e w' => e = .returned (.agg #[.int .i64 (0), .int .i64 (0), .int .i64 (3)]) ∧ Below w.heap.size w w' :=
  parsed_g ⟨#[43, 49]⟩ (0) (0) (3) (fun w g => parse_some ⟨#[43, 49]⟩ (by decide) [43, 49] [] false (by decide +kernel) (by decide) (by decide) (1) (1) (by decide +kernel) (by decide +kernel) true false (by decide +kernel) (by decide +kernel) w g) w g
theorem x17 (w : World) (g : Glob w) : Calls Tryz.prog 28 #[.string ⟨#[45, 51, 47, 50]⟩] w fun e w' => e = .returned (.agg #[.int .i64 (-3), .int .i64 (2), .int .i64 (0)]) ∧ Below w.heap.size w w' :=
  parsed_g ⟨#[45, 51, 47, 50]⟩ (-3) (2) (0) (fun w g => parse_some ⟨#[45, 51, 47, 50]⟩ (by decide) [45, 51] [50] true (by decide +kernel) (by decide) (by decide) (-3) (2) (by decide +kernel) (by decide +kernel) true true (by decide +kernel) (by decide +kernel) w g) w g
theorem x18 (w : World) (g : Glob w) : Calls Tryz.prog 24 #[.agg #[.int .i64 (-3), .int .i64 (2)]] w fun e w' => e = .returned (.string ⟨#[45, 51, 47, 50]⟩) ∧ Below w.heap.size w w' := by
  have h := text_any (-3) 2 (i64_of _ rfl) (i64_of _ rfl) w g
  rw [show (textL (-3) 2).toArray = #[45, 51, 47, 50] by decide +kernel] at h
  exact h
theorem x19 (w : World) (g : Glob w) : Calls Tryz.prog 24 #[.agg #[.int .i64 (5), .int .i64 (1)]] w fun e w' => e = .returned (.string ⟨#[53]⟩) ∧ Below w.heap.size w w' := by
  have h := text_any (5) 1 (i64_of _ rfl) (i64_of _ rfl) w g
  rw [show (textL (5) 1).toArray = #[53] by decide +kernel] at h
  exact h
theorem x20 (w : World) : Calls Tryz.prog 20 #[.slice none 0 0] w fun e w' => e = .returned (.agg #[.int .i64 (0), .int .i64 (1), .int .i64 (0)]) ∧ Below w.heap.size w w' :=
  total_law _ 0 1 0 (fun w => sum_nil w) w
theorem x21 (w : World) : Calls Tryz.prog 22 #[.agg #[.int .i64 (1), .int .i64 (6)], .agg #[.int .i64 (1), .int .i64 (10)]] w fun e w' => e = .returned (.agg #[.int .i64 (1), .int .i64 (10)]) ∧ Below w.heap.size w w' := min_b fr_a fr_b (by decide +kernel) w
theorem x22 (w : World) : Calls Tryz.prog 23 #[.agg #[.int .i64 (1), .int .i64 (6)], .agg #[.int .i64 (1), .int .i64 (10)]] w fun e w' => e = .returned (.agg #[.int .i64 (1), .int .i64 (6)]) ∧ Below w.heap.size w w' := max_a fr_a fr_b (by decide +kernel) w
end Go.Proofs.YtffcnkkgbhhfnaaGreatDoor


import Derived.Test.YtffcnkkgbhhfnaaGreatDoorRa
namespace Go.Proofs.YtffcnkkgbhhfnaaGreatDoor
open Go.RowKit Go.Instr
set_option linter.unusedVariables false

/-! 'rat.New', 'rat.Sub', 'rat.Div', 'rat.Valid', 'rat.Cmp'. -/
set_option maxHeartbeats 1000000 in
theorem mul_zero (aN aD bN bD : Int) (ha : aD ≠ 0) (hb0 : bD = 0) (w : World) :
    Calls Tryz.prog 41 #[.agg #[.int .i64 aN, .int .i64 aD], .agg #[.int .i64 bN, .int .i64 bD]] w fun e w' => e = .returned (.tuple #[.agg #[.int .i64 0, .int .i64 0], .int .i64 20]) ∧ Below w.heap.size w w' := by
  have x1 : (aD == 0) = false := by simpa using ha
  have x2 : (bD == 0) = true := by simpa using hb0
  clear ha hb0
  go_enter Tryz.func41, Tryz.ntmps41
  go_wp2
  exact bodyPost_ret (v := .tuple #[.agg #[.int .i64 0, .int .i64 0], .int .i64 20]) (by simp [results, Tryz.results41, go_sem]) rfl ⟨rfl, by repeat (first | exact Below.refl _ _ | refine Below.setCell ?_ (by first | exact Nat.le_refl _ | (simp; done) | (simp; omega) | omega | (simp [World.drewN]; omega)) _ | refine Below.alloc ?_ (by first | exact Nat.le_refl _ | (simp; done) | (simp; omega) | omega | (simp [World.drewN]; omega)) _)⟩

/-- What 'rat.New' returns. -/
def newV (n d : Int) : Value := if d = 0 then .tuple #[.agg #[.int .i64 0, .int .i64 0], .int .i64 20] else .tuple #[.agg #[.int .i64 (numR (Rat.divInt n d)), .int .i64 (denR (Rat.divInt n d))], .int .i64 (errR (Rat.divInt n d))]
set_option maxHeartbeats 1000000 in
theorem new_zero (n : Int) (w : World) :
    Calls Tryz.prog 29 #[.int .i64 n, .int .i64 0] w fun e w' => e = .returned (.tuple #[.agg #[.int .i64 0, .int .i64 0], .int .i64 20]) ∧ Below w.heap.size w w' := by
  have C := hid (fun w => mul_zero n 1 1 0 (by omega) rfl w)
  go_enter Tryz.func29, Tryz.ntmps29
  go_wp2_with fail
  refine (C.out _).mono ?_
  rintro e w1 ⟨rfl, hb⟩
  have hzP : w.heap.size + 1 ≤ w1.heap.size := by have := hb.size; simp at this; omega
  have P0 : ∀ W, Below w1.heap.size w1 W → W.cell? ⟨w.heap.size, 0, none⟩ = some (.int .i64 0) ∧ W.cell? ⟨w.heap.size, 1, none⟩ = some (.int .i64 0) ∧ W.frozen? ⟨w.heap.size, 0, none⟩ = false ∧ W.frozen? ⟨w.heap.size, 1, none⟩ = false ∧ w1.heap.size ≤ W.heap.size := by
    intro W hW
    exact ⟨cell_below hW (cell_below hb (by simp [go_sem])), cell_below hW (cell_below hb (by simp [go_sem])), (hW.frozen (p := ⟨w.heap.size, 0, none⟩) (by simp; omega)).trans ((hb.frozen (p := ⟨w.heap.size, 0, none⟩) (by first | (simp; done) | (simp; omega))).trans (by simp [go_sem])), (hW.frozen (p := ⟨w.heap.size, 1, none⟩) (by simp; omega)).trans ((hb.frozen (p := ⟨w.heap.size, 1, none⟩) (by first | (simp; done) | (simp; omega))).trans (by simp [go_sem])), hW.size⟩
  have P := hid P0
  clear P0
  have HP := hid hb
  clear hb
  obtain ⟨a0, a1, a2, a3, za⟩ := P.out w1 (Below.refl _ _)
  go_wp2
  exact bodyPost_ret (v := .tuple #[.agg #[.int .i64 0, .int .i64 0], .int .i64 20]) (by simp [results, Tryz.results29, a0, a1, go_sem]) rfl ⟨rfl, (((((Below.refl _ _).alloc (by first | exact Nat.le_refl _ | (simp; done) | (simp; omega) | omega | (simp [World.drewN]; omega)) _).trans (HP.out.mono (by first | exact Nat.le_refl _ | (simp; done) | (simp; omega) | omega | (simp [World.drewN]; omega)))).setCell (by first | exact Nat.le_refl _ | (simp; done) | (simp; omega) | omega | (simp [World.drewN]; omega)) _).setCell (by first | exact Nat.le_refl _ | (simp; done) | (simp; omega) | omega | (simp [World.drewN]; omega)) _)⟩

set_option maxHeartbeats 1000000 in
theorem new_some (n d : Int) (h1 : I64 n) (h2 : I64 d) (hd : d ≠ 0) (w : World) :
    Calls Tryz.prog 29 #[.int .i64 n, .int .i64 d] w fun e w' => e = .returned (.tuple #[.agg #[.int .i64 (numR (Rat.divInt n d)), .int .i64 (denR (Rat.divInt n d))], .int .i64 (errR (Rat.divInt n d))]) ∧ Below w.heap.size w w' := by
  have er : Rat.divInt n 1 * Rat.divInt 1 d = Rat.divInt n d := by rw [Rat.divInt_mul_divInt]; simp
  have C := hid (fun w => mul_any n 1 1 d h1 (by unfold I64; omega) (by unfold I64; omega) h2 (by omega) hd (by simp) (by simp) w)
  rw [er] at C
  clear er h1 h2 hd
  go_enter Tryz.func29, Tryz.ntmps29
  go_wp2_with fail
  refine (C.out _).mono ?_
  rintro e w1 ⟨rfl, hb⟩
  have hzP : w.heap.size + 1 ≤ w1.heap.size := by have := hb.size; simp at this; omega
  have P0 : ∀ W, Below w1.heap.size w1 W → W.cell? ⟨w.heap.size, 0, none⟩ = some (.int .i64 0) ∧ W.cell? ⟨w.heap.size, 1, none⟩ = some (.int .i64 0) ∧ W.frozen? ⟨w.heap.size, 0, none⟩ = false ∧ W.frozen? ⟨w.heap.size, 1, none⟩ = false ∧ w1.heap.size ≤ W.heap.size := by
    intro W hW
    exact ⟨cell_below hW (cell_below hb (by simp [go_sem])), cell_below hW (cell_below hb (by simp [go_sem])), (hW.frozen (p := ⟨w.heap.size, 0, none⟩) (by simp; omega)).trans ((hb.frozen (p := ⟨w.heap.size, 0, none⟩) (by first | (simp; done) | (simp; omega))).trans (by simp [go_sem])), (hW.frozen (p := ⟨w.heap.size, 1, none⟩) (by simp; omega)).trans ((hb.frozen (p := ⟨w.heap.size, 1, none⟩) (by first | (simp; done) | (simp; omega))).trans (by simp [go_sem])), hW.size⟩
  have P := hid P0
  clear P0
  have HP := hid hb
  clear hb
  obtain ⟨a0, a1, a2, a3, za⟩ := P.out w1 (Below.refl _ _)
  go_wp2
  exact bodyPost_ret (v := .tuple #[.agg #[.int .i64 (numR (Rat.divInt n d)), .int .i64 (denR (Rat.divInt n d))], .int .i64 (errR (Rat.divInt n d))]) (by simp [results, Tryz.results29, a0, a1, go_sem]) rfl ⟨rfl, (((((Below.refl _ _).alloc (by first | exact Nat.le_refl _ | (simp; done) | (simp; omega) | omega | (simp [World.drewN]; omega)) _).trans (HP.out.mono (by first | exact Nat.le_refl _ | (simp; done) | (simp; omega) | omega | (simp [World.drewN]; omega)))).setCell (by first | exact Nat.le_refl _ | (simp; done) | (simp; omega) | omega | (simp [World.drewN]; omega)) _).setCell (by first | exact Nat.le_refl _ | (simp; done) | (simp; omega) | omega | (simp [World.drewN]; omega)) _)⟩

theorem new_any (n d : Int) (h1 : I64 n) (h2 : I64 d) (w : World) :
    Calls Tryz.prog 29 #[.int .i64 n, .int .i64 d] w fun e w' => e = .returned (newV n d) ∧ Below w.heap.size w w' := by
  unfold newV
  by_cases hd : d = 0
  · rw [if_pos hd]; subst hd; exact new_zero n w
  · rw [if_neg hd]; exact new_some n d h1 h2 hd w

theorem Fr.bigN {n d : Int} (h : Fr n d) : Big n := ⟨h.lo, h.hi⟩
theorem Fr.bigD {n d : Int} (h : Fr n d) : Big d := ⟨by have := h.pos; omega, h.le⟩
theorem Fr.ne {n d : Int} (h : Fr n d) : d ≠ 0 := by have := h.pos; omega

theorem addF {aN aD bN bD : Int} (a : Fr aN aD) (b : Fr bN bD) (w : World) :
    Calls Tryz.prog 33 #[.agg #[.int .i64 aN, .int .i64 aD], .agg #[.int .i64 bN, .int .i64 bD]] w fun e w' => e = .returned (.tuple #[.agg #[.int .i64 (numR (Rat.divInt aN aD + Rat.divInt bN bD)), .int .i64 (denR (Rat.divInt aN aD + Rat.divInt bN bD))], .int .i64 (errR (Rat.divInt aN aD + Rat.divInt bN bD))]) ∧ Below w.heap.size w w' :=
  add_any aN aD bN bD a.bigN a.bigD b.bigN b.bigD a.ne b.ne a.cop b.cop w
theorem mulF {aN aD bN bD : Int} (a : Fr aN aD) (b : Fr bN bD) (w : World) :
    Calls Tryz.prog 41 #[.agg #[.int .i64 aN, .int .i64 aD], .agg #[.int .i64 bN, .int .i64 bD]] w fun e w' => e = .returned (.tuple #[.agg #[.int .i64 (numR (Rat.divInt aN aD * Rat.divInt bN bD)), .int .i64 (denR (Rat.divInt aN aD * Rat.divInt bN bD))], .int .i64 (errR (Rat.divInt aN aD * Rat.divInt bN bD))]) ∧ Below w.heap.size w w' :=
  mul_any aN aD bN bD a.bigN.i64 a.bigD.i64 b.bigN.i64 b.bigD.i64 a.ne b.ne a.cop b.cop w

set_option maxHeartbeats 1000000 in
theorem subF {aN aD bN bD : Int} (a : Fr aN aD) (b : Fr bN bD) (w : World) :
    Calls Tryz.prog 40 #[.agg #[.int .i64 aN, .int .i64 aD], .agg #[.int .i64 bN, .int .i64 bD]] w fun e w' => e = .returned (.tuple #[.agg #[.int .i64 (numR (Rat.divInt aN aD - Rat.divInt bN bD)), .int .i64 (denR (Rat.divInt aN aD - Rat.divInt bN bD))], .int .i64 (errR (Rat.divInt aN aD - Rat.divInt bN bD))]) ∧ Below w.heap.size w w' := by
  have C := hid (fun w => add_any aN aD (-bN) bD a.bigN a.bigD ⟨by have := b.hi; omega, by have := b.lo; omega⟩ b.bigD a.ne b.ne a.cop (by rw [Int.natAbs_neg]; exact b.cop) w)
  rw [← Rat.neg_divInt, ← Rat.sub_eq_add_neg] at C
  have bl := b.lo
  have bh := b.hi
  clear a b
  go_enter Tryz.func40, Tryz.ntmps40
  go_wp2_with fail
  refine (C.out _).mono ?_
  rintro e w1 ⟨rfl, hb⟩
  have hzP : w.heap.size + 3 ≤ w1.heap.size := by have := hb.size; simp at this; omega
  have P0 : ∀ W, Below w1.heap.size w1 W → W.cell? ⟨w.heap.size, 0, none⟩ = some (.int .i64 aN) ∧ W.cell? ⟨w.heap.size, 1, none⟩ = some (.int .i64 aD) ∧ W.cell? ⟨w.heap.size + 1, 0, none⟩ = some (.int .i64 bN) ∧ W.cell? ⟨w.heap.size + 1, 1, none⟩ = some (.int .i64 bD) ∧ W.cell? ⟨w.heap.size + 1 + 1, 0, none⟩ = some (.int .i64 0) ∧ W.cell? ⟨w.heap.size + 1 + 1, 1, none⟩ = some (.int .i64 0) ∧ W.frozen? ⟨w.heap.size + 1 + 1, 0, none⟩ = false ∧ W.frozen? ⟨w.heap.size + 1 + 1, 1, none⟩ = false ∧ w1.heap.size ≤ W.heap.size := by
    intro W hW
    exact ⟨cell_below hW (cell_below hb (by simp [go_sem])), cell_below hW (cell_below hb (by simp [go_sem])), cell_below hW (cell_below hb (by simp [go_sem])), cell_below hW (cell_below hb (by simp [go_sem])), cell_below hW (cell_below hb (by simp [go_sem])), cell_below hW (cell_below hb (by simp [go_sem])), (hW.frozen (p := ⟨w.heap.size + 1 + 1, 0, none⟩) (by simp; omega)).trans ((hb.frozen (p := ⟨w.heap.size + 1 + 1, 0, none⟩) (by first | (simp; done) | (simp; omega))).trans (by simp [go_sem])), (hW.frozen (p := ⟨w.heap.size + 1 + 1, 1, none⟩) (by simp; omega)).trans ((hb.frozen (p := ⟨w.heap.size + 1 + 1, 1, none⟩) (by first | (simp; done) | (simp; omega))).trans (by simp [go_sem])), hW.size⟩
  have P := hid P0
  clear P0
  have HP := hid hb
  clear hb
  obtain ⟨a0, a1, a2, a3, a4, a5, a6, a7, za⟩ := P.out w1 (Below.refl _ _)
  go_wp2
  exact bodyPost_ret (v := .tuple #[.agg #[.int .i64 (numR (Rat.divInt aN aD - Rat.divInt bN bD)), .int .i64 (denR (Rat.divInt aN aD - Rat.divInt bN bD))], .int .i64 (errR (Rat.divInt aN aD - Rat.divInt bN bD))]) (by simp [results, Tryz.results40, a4, a5, go_sem]) rfl ⟨rfl, (((((((Below.refl _ _).alloc (by first | exact Nat.le_refl _ | (simp; done) | (simp; omega) | omega | (simp [World.drewN]; omega)) _).alloc (by first | exact Nat.le_refl _ | (simp; done) | (simp; omega) | omega | (simp [World.drewN]; omega)) _).alloc (by first | exact Nat.le_refl _ | (simp; done) | (simp; omega) | omega | (simp [World.drewN]; omega)) _).trans (HP.out.mono (by first | exact Nat.le_refl _ | (simp; done) | (simp; omega) | omega | (simp [World.drewN]; omega)))).setCell (by first | exact Nat.le_refl _ | (simp; done) | (simp; omega) | omega | (simp [World.drewN]; omega)) _).setCell (by first | exact Nat.le_refl _ | (simp; done) | (simp; omega) | omega | (simp [World.drewN]; omega)) _)⟩

set_option maxHeartbeats 1000000 in
theorem divF_zero {aN aD bD : Int} (a : Fr aN aD) (w : World) :
    Calls Tryz.prog 42 #[.agg #[.int .i64 aN, .int .i64 aD], .agg #[.int .i64 0, .int .i64 bD]] w fun e w' => e = .returned (.tuple #[.agg #[.int .i64 0, .int .i64 0], .int .i64 20]) ∧ Below w.heap.size w w' := by
  have C := hid (fun w => mul_zero aN aD bD 0 a.ne rfl w)
  clear a
  go_enter Tryz.func42, Tryz.ntmps42
  go_wp2_with fail
  refine (C.out _).mono ?_
  rintro e w1 ⟨rfl, hb⟩
  have hzP : w.heap.size + 3 ≤ w1.heap.size := by have := hb.size; simp at this; omega
  have P0 : ∀ W, Below w1.heap.size w1 W → W.cell? ⟨w.heap.size, 0, none⟩ = some (.int .i64 aN) ∧ W.cell? ⟨w.heap.size, 1, none⟩ = some (.int .i64 aD) ∧ W.cell? ⟨w.heap.size + 1, 0, none⟩ = some (.int .i64 0) ∧ W.cell? ⟨w.heap.size + 1, 1, none⟩ = some (.int .i64 bD) ∧ W.cell? ⟨w.heap.size + 1 + 1, 0, none⟩ = some (.int .i64 0) ∧ W.cell? ⟨w.heap.size + 1 + 1, 1, none⟩ = some (.int .i64 0) ∧ W.frozen? ⟨w.heap.size + 1 + 1, 0, none⟩ = false ∧ W.frozen? ⟨w.heap.size + 1 + 1, 1, none⟩ = false ∧ w1.heap.size ≤ W.heap.size := by
    intro W hW
    exact ⟨cell_below hW (cell_below hb (by simp [go_sem])), cell_below hW (cell_below hb (by simp [go_sem])), cell_below hW (cell_below hb (by simp [go_sem])), cell_below hW (cell_below hb (by simp [go_sem])), cell_below hW (cell_below hb (by simp [go_sem])), cell_below hW (cell_below hb (by simp [go_sem])), (hW.frozen (p := ⟨w.heap.size + 1 + 1, 0, none⟩) (by simp; omega)).trans ((hb.frozen (p := ⟨w.heap.size + 1 + 1, 0, none⟩) (by first | (simp; done) | (simp; omega))).trans (by simp [go_sem])), (hW.frozen (p := ⟨w.heap.size + 1 + 1, 1, none⟩) (by simp; omega)).trans ((hb.frozen (p := ⟨w.heap.size + 1 + 1, 1, none⟩) (by first | (simp; done) | (simp; omega))).trans (by simp [go_sem])), hW.size⟩
  have P := hid P0
  clear P0
  have HP := hid hb
  clear hb
  obtain ⟨a0, a1, a2, a3, a4, a5, a6, a7, za⟩ := P.out w1 (Below.refl _ _)
  go_wp2
  exact bodyPost_ret (v := .tuple #[.agg #[.int .i64 0, .int .i64 0], .int .i64 20]) (by simp [results, Tryz.results42, a4, a5, go_sem]) rfl ⟨rfl, (((((((Below.refl _ _).alloc (by first | exact Nat.le_refl _ | (simp; done) | (simp; omega) | omega | (simp [World.drewN]; omega)) _).alloc (by first | exact Nat.le_refl _ | (simp; done) | (simp; omega) | omega | (simp [World.drewN]; omega)) _).alloc (by first | exact Nat.le_refl _ | (simp; done) | (simp; omega) | omega | (simp [World.drewN]; omega)) _).trans (HP.out.mono (by first | exact Nat.le_refl _ | (simp; done) | (simp; omega) | omega | (simp [World.drewN]; omega)))).setCell (by first | exact Nat.le_refl _ | (simp; done) | (simp; omega) | omega | (simp [World.drewN]; omega)) _).setCell (by first | exact Nat.le_refl _ | (simp; done) | (simp; omega) | omega | (simp [World.drewN]; omega)) _)⟩

set_option maxHeartbeats 1000000 in
theorem divF {aN aD bN bD : Int} (a : Fr aN aD) (b : Fr bN bD) (hb : bN ≠ 0) (w : World) :
    Calls Tryz.prog 42 #[.agg #[.int .i64 aN, .int .i64 aD], .agg #[.int .i64 bN, .int .i64 bD]] w fun e w' => e = .returned (.tuple #[.agg #[.int .i64 (numR (Rat.divInt aN aD / Rat.divInt bN bD)), .int .i64 (denR (Rat.divInt aN aD / Rat.divInt bN bD))], .int .i64 (errR (Rat.divInt aN aD / Rat.divInt bN bD))]) ∧ Below w.heap.size w w' := by
  have C := hid (fun w => mul_any aN aD bD bN a.bigN.i64 a.bigD.i64 b.bigD.i64 b.bigN.i64 a.ne hb a.cop (by rw [Nat.gcd_comm]; exact b.cop) w)
  have ei : Rat.divInt bD bN = (Rat.divInt bN bD)⁻¹ := by rw [Rat.inv_def, b.num, b.den]
  rw [ei, ← Rat.div_def] at C
  clear a b hb ei
  go_enter Tryz.func42, Tryz.ntmps42
  go_wp2_with fail
  refine (C.out _).mono ?_
  rintro e w1 ⟨rfl, hb⟩
  have hzP : w.heap.size + 3 ≤ w1.heap.size := by have := hb.size; simp at this; omega
  have P0 : ∀ W, Below w1.heap.size w1 W → W.cell? ⟨w.heap.size, 0, none⟩ = some (.int .i64 aN) ∧ W.cell? ⟨w.heap.size, 1, none⟩ = some (.int .i64 aD) ∧ W.cell? ⟨w.heap.size + 1, 0, none⟩ = some (.int .i64 bN) ∧ W.cell? ⟨w.heap.size + 1, 1, none⟩ = some (.int .i64 bD) ∧ W.cell? ⟨w.heap.size + 1 + 1, 0, none⟩ = some (.int .i64 0) ∧ W.cell? ⟨w.heap.size + 1 + 1, 1, none⟩ = some (.int .i64 0) ∧ W.frozen? ⟨w.heap.size + 1 + 1, 0, none⟩ = false ∧ W.frozen? ⟨w.heap.size + 1 + 1, 1, none⟩ = false ∧ w1.heap.size ≤ W.heap.size := by
    intro W hW
    exact ⟨cell_below hW (cell_below hb (by simp [go_sem])), cell_below hW (cell_below hb (by simp [go_sem])), cell_below hW (cell_below hb (by simp [go_sem])), cell_below hW (cell_below hb (by simp [go_sem])), cell_below hW (cell_below hb (by simp [go_sem])), cell_below hW (cell_below hb (by simp [go_sem])), (hW.frozen (p := ⟨w.heap.size + 1 + 1, 0, none⟩) (by simp; omega)).trans ((hb.frozen (p := ⟨w.heap.size + 1 + 1, 0, none⟩) (by first | (simp; done) | (simp; omega))).trans (by simp [go_sem])), (hW.frozen (p := ⟨w.heap.size + 1 + 1, 1, none⟩) (by simp; omega)).trans ((hb.frozen (p := ⟨w.heap.size + 1 + 1, 1, none⟩) (by first | (simp; done) | (simp; omega))).trans (by simp [go_sem])), hW.size⟩
  have P := hid P0
  clear P0
  have HP := hid hb
  clear hb
  obtain ⟨a0, a1, a2, a3, a4, a5, a6, a7, za⟩ := P.out w1 (Below.refl _ _)
  go_wp2
  exact bodyPost_ret (v := .tuple #[.agg #[.int .i64 (numR (Rat.divInt aN aD / Rat.divInt bN bD)), .int .i64 (denR (Rat.divInt aN aD / Rat.divInt bN bD))], .int .i64 (errR (Rat.divInt aN aD / Rat.divInt bN bD))]) (by simp [results, Tryz.results42, a4, a5, go_sem]) rfl ⟨rfl, (((((((Below.refl _ _).alloc (by first | exact Nat.le_refl _ | (simp; done) | (simp; omega) | omega | (simp [World.drewN]; omega)) _).alloc (by first | exact Nat.le_refl _ | (simp; done) | (simp; omega) | omega | (simp [World.drewN]; omega)) _).alloc (by first | exact Nat.le_refl _ | (simp; done) | (simp; omega) | omega | (simp [World.drewN]; omega)) _).trans (HP.out.mono (by first | exact Nat.le_refl _ | (simp; done) | (simp; omega) | omega | (simp [World.drewN]; omega)))).setCell (by first | exact Nat.le_refl _ | (simp; done) | (simp; omega) | omega | (simp [World.drewN]; omega)) _).setCell (by first | exact Nat.le_refl _ | (simp; done) | (simp; omega) | omega | (simp [World.drewN]; omega)) _)⟩


set_option maxHeartbeats 1000000 in
theorem cmp_eq {aN aD bN bD : Int} (h : aN = bN) (h2 : aD = bD) (w : World) :
    Calls Tryz.prog 18 #[.agg #[.int .i64 aN, .int .i64 aD], .agg #[.int .i64 bN, .int .i64 bD]] w fun e w' => e = .returned (.int .i64 0) ∧ Below w.heap.size w w' := by
  subst h; subst h2
  go_enter Tryz.func18, Tryz.ntmps18
  go_wp2
  go_ret
  exact ⟨rfl, (((Below.refl _ _).alloc (by first | exact Nat.le_refl _ | (simp; done) | (simp; omega) | omega | (simp [World.drewN]; omega)) _).alloc (by first | exact Nat.le_refl _ | (simp; done) | (simp; omega) | omega | (simp [World.drewN]; omega)) _)⟩

theorem prod_fit {a b : Int} (h1 : Big a) (h2 : Big b) : Fit128 (a * b) := by have := mul_bd h1.i64 h2.i64; unfold Fit128; omega

set_option maxHeartbeats 4000000 in
theorem cmp_nlt {aN aD bN bD : Int} (a : Fr aN aD) (b : Fr bN bD) (h : aN ≠ bN) (hlt : decide (aN * bD < bN * aD) = true) (w : World) :
    Calls Tryz.prog 18 #[.agg #[.int .i64 aN, .int .i64 aD], .agg #[.int .i64 bN, .int .i64 bD]] w fun e w' => e = .returned (.int .i64 (-1)) ∧ Below w.heap.size w w' := by
  have x1 : (aN == bN) = false := by simpa using h
  have PA := hid (fun w => product_any aN bD a.bigN.i64 b.bigD.i64 w)
  have PB := hid (fun w => product_any bN aD b.bigN.i64 a.bigD.i64 w)
  have LT := hid (fun w => less_any (aN * bD) (bN * aD) (prod_fit a.bigN b.bigD) (prod_fit b.bigN a.bigD) w)
  rw [hlt] at LT
  clear hlt h a b
  generalize aN * bD = p1 at *
  generalize bN * aD = p2 at *
  go_enter Tryz.func18, Tryz.ntmps18
  go_upto_region 3 with fail
  generalize hwA : ((w.alloc (.cells #[.int .i64 aN, .int .i64 aD] 25)).alloc (.cells #[.int .i64 bN, .int .i64 bD] 25)) = wA
  have hA : Below w.heap.size w wA := by rw [← hwA]; exact (((Below.refl _ _).alloc (by first | exact Nat.le_refl _ | (simp; done) | (simp; omega) | omega | (simp [World.drewN]; omega)) _).alloc (by first | exact Nat.le_refl _ | (simp; done) | (simp; omega) | omega | (simp [World.drewN]; omega)) _)
  have a0 : wA.cell? ⟨w.heap.size, 0, none⟩ = some (.int .i64 aN) := by rw [← hwA]; simp [go_sem]
  have a1 : wA.cell? ⟨w.heap.size, 1, none⟩ = some (.int .i64 aD) := by rw [← hwA]; simp [go_sem]
  have a2 : wA.cell? ⟨w.heap.size + 1, 0, none⟩ = some (.int .i64 bN) := by rw [← hwA]; simp [go_sem]
  have a3 : wA.cell? ⟨w.heap.size + 1, 1, none⟩ = some (.int .i64 bD) := by rw [← hwA]; simp [go_sem]
  have HA := hid hA
  clear hwA hA
  have hs := Below.refl wA.heap.size wA
  have hsd := hs.drew
  go_region_held3 (fun W => W.cell? ⟨w.heap.size, 0, none⟩ = some (.int .i64 aN) ∧ W.cell? ⟨w.heap.size, 1, none⟩ = some (.int .i64 aD) ∧ W.cell? ⟨w.heap.size + 1, 0, none⟩ = some (.int .i64 bN) ∧ W.cell? ⟨w.heap.size + 1, 1, none⟩ = some (.int .i64 bD) ∧ Below wA.heap.size wA W)
    (first | (with_reducible exact ⟨a0, a1, a2, a3, hs⟩) | (with_reducible exact ⟨cell_below hsd a0, cell_below hsd a1, cell_below hsd a2, cell_below hsd a3, hsd⟩) | (with_reducible exact ⟨cell_below (by with_reducible assumption) a0, cell_below (by with_reducible assumption) a1, cell_below (by with_reducible assumption) a2, cell_below (by with_reducible assumption) a3, (by with_reducible assumption)⟩) | fail)
    (first
      | (go_at_call_of 43 (Value.int IntKind.i64 aN); (with_reducible refine (PA.out _).mono ?_); rintro e y1 ⟨rfl, hy1⟩; have hs1 : Below wA.heap.size wA y1 := below_step (by with_reducible assumption) hy1)
      | (go_at_call_of 43 (Value.int IntKind.i64 bN); (with_reducible refine (PB.out _).mono ?_); rintro e y2 ⟨rfl, hy2⟩; have hs2 : Below wA.heap.size wA y2 := below_step (by with_reducible assumption) hy2)
      | (go_at_call 44; (with_reducible refine (LT.out _).mono ?_); rintro e y3 ⟨rfl, hy3⟩; have hs3 : Below wA.heap.size wA y3 := below_step (by with_reducible assumption) hy3))
  all_goals
    go_wp2_with fail
    go_ret
    exact ⟨rfl, below_step HA.out (by assumption)⟩

set_option maxHeartbeats 4000000 in
theorem cmp_dlt {aN aD bN bD : Int} (a : Fr aN aD) (b : Fr bN bD) (h : aN = bN ∧ aD ≠ bD) (hlt : decide (aN * bD < bN * aD) = true) (w : World) :
    Calls Tryz.prog 18 #[.agg #[.int .i64 aN, .int .i64 aD], .agg #[.int .i64 bN, .int .i64 bD]] w fun e w' => e = .returned (.int .i64 (-1)) ∧ Below w.heap.size w w' := by
  obtain ⟨h, h'⟩ := h
  have x0 : (aN == bN) = true := by simpa using h
  have x0' : decide (aN = bN) = true := by simpa using h
  have x1 : (aD == bD) = false := by simpa using h'
  have PA := hid (fun w => product_any aN bD a.bigN.i64 b.bigD.i64 w)
  have PB := hid (fun w => product_any bN aD b.bigN.i64 a.bigD.i64 w)
  have LT := hid (fun w => less_any (aN * bD) (bN * aD) (prod_fit a.bigN b.bigD) (prod_fit b.bigN a.bigD) w)
  rw [hlt] at LT
  clear hlt h h' a b
  generalize aN * bD = p1 at *
  generalize bN * aD = p2 at *
  go_enter Tryz.func18, Tryz.ntmps18
  go_upto_region 3 with fail
  generalize hwA : ((w.alloc (.cells #[.int .i64 aN, .int .i64 aD] 25)).alloc (.cells #[.int .i64 bN, .int .i64 bD] 25)) = wA
  have hA : Below w.heap.size w wA := by rw [← hwA]; exact (((Below.refl _ _).alloc (by first | exact Nat.le_refl _ | (simp; done) | (simp; omega) | omega | (simp [World.drewN]; omega)) _).alloc (by first | exact Nat.le_refl _ | (simp; done) | (simp; omega) | omega | (simp [World.drewN]; omega)) _)
  have a0 : wA.cell? ⟨w.heap.size, 0, none⟩ = some (.int .i64 aN) := by rw [← hwA]; simp [go_sem]
  have a1 : wA.cell? ⟨w.heap.size, 1, none⟩ = some (.int .i64 aD) := by rw [← hwA]; simp [go_sem]
  have a2 : wA.cell? ⟨w.heap.size + 1, 0, none⟩ = some (.int .i64 bN) := by rw [← hwA]; simp [go_sem]
  have a3 : wA.cell? ⟨w.heap.size + 1, 1, none⟩ = some (.int .i64 bD) := by rw [← hwA]; simp [go_sem]
  have HA := hid hA
  clear hwA hA
  have hs := Below.refl wA.heap.size wA
  have hsd := hs.drew
  go_region_held3 (fun W => W.cell? ⟨w.heap.size, 0, none⟩ = some (.int .i64 aN) ∧ W.cell? ⟨w.heap.size, 1, none⟩ = some (.int .i64 aD) ∧ W.cell? ⟨w.heap.size + 1, 0, none⟩ = some (.int .i64 bN) ∧ W.cell? ⟨w.heap.size + 1, 1, none⟩ = some (.int .i64 bD) ∧ Below wA.heap.size wA W)
    (first | (with_reducible exact ⟨a0, a1, a2, a3, hs⟩) | (with_reducible exact ⟨cell_below hsd a0, cell_below hsd a1, cell_below hsd a2, cell_below hsd a3, hsd⟩) | (with_reducible exact ⟨cell_below (by with_reducible assumption) a0, cell_below (by with_reducible assumption) a1, cell_below (by with_reducible assumption) a2, cell_below (by with_reducible assumption) a3, (by with_reducible assumption)⟩) | fail)
    (first
      | (go_at_call_of 43 (Value.int IntKind.i64 aN); (with_reducible refine (PA.out _).mono ?_); rintro e y1 ⟨rfl, hy1⟩; have hs1 : Below wA.heap.size wA y1 := below_step (by with_reducible assumption) hy1)
      | (go_at_call_of 43 (Value.int IntKind.i64 bN); (with_reducible refine (PB.out _).mono ?_); rintro e y2 ⟨rfl, hy2⟩; have hs2 : Below wA.heap.size wA y2 := below_step (by with_reducible assumption) hy2)
      | (go_at_call 44; (with_reducible refine (LT.out _).mono ?_); rintro e y3 ⟨rfl, hy3⟩; have hs3 : Below wA.heap.size wA y3 := below_step (by with_reducible assumption) hy3))
  all_goals
    go_wp2_with fail
    go_ret
    exact ⟨rfl, below_step HA.out (by assumption)⟩

set_option maxHeartbeats 4000000 in
theorem cmp_ngt {aN aD bN bD : Int} (a : Fr aN aD) (b : Fr bN bD) (h : aN ≠ bN) (hlt : decide (aN * bD < bN * aD) = false) (w : World) :
    Calls Tryz.prog 18 #[.agg #[.int .i64 aN, .int .i64 aD], .agg #[.int .i64 bN, .int .i64 bD]] w fun e w' => e = .returned (.int .i64 (1)) ∧ Below w.heap.size w w' := by
  have x1 : (aN == bN) = false := by simpa using h
  have PA := hid (fun w => product_any aN bD a.bigN.i64 b.bigD.i64 w)
  have PB := hid (fun w => product_any bN aD b.bigN.i64 a.bigD.i64 w)
  have LT := hid (fun w => less_any (aN * bD) (bN * aD) (prod_fit a.bigN b.bigD) (prod_fit b.bigN a.bigD) w)
  rw [hlt] at LT
  clear hlt h a b
  generalize aN * bD = p1 at *
  generalize bN * aD = p2 at *
  go_enter Tryz.func18, Tryz.ntmps18
  go_upto_region 3 with fail
  generalize hwA : ((w.alloc (.cells #[.int .i64 aN, .int .i64 aD] 25)).alloc (.cells #[.int .i64 bN, .int .i64 bD] 25)) = wA
  have hA : Below w.heap.size w wA := by rw [← hwA]; exact (((Below.refl _ _).alloc (by first | exact Nat.le_refl _ | (simp; done) | (simp; omega) | omega | (simp [World.drewN]; omega)) _).alloc (by first | exact Nat.le_refl _ | (simp; done) | (simp; omega) | omega | (simp [World.drewN]; omega)) _)
  have a0 : wA.cell? ⟨w.heap.size, 0, none⟩ = some (.int .i64 aN) := by rw [← hwA]; simp [go_sem]
  have a1 : wA.cell? ⟨w.heap.size, 1, none⟩ = some (.int .i64 aD) := by rw [← hwA]; simp [go_sem]
  have a2 : wA.cell? ⟨w.heap.size + 1, 0, none⟩ = some (.int .i64 bN) := by rw [← hwA]; simp [go_sem]
  have a3 : wA.cell? ⟨w.heap.size + 1, 1, none⟩ = some (.int .i64 bD) := by rw [← hwA]; simp [go_sem]
  have HA := hid hA
  clear hwA hA
  have hs := Below.refl wA.heap.size wA
  have hsd := hs.drew
  go_region_held3 (fun W => W.cell? ⟨w.heap.size, 0, none⟩ = some (.int .i64 aN) ∧ W.cell? ⟨w.heap.size, 1, none⟩ = some (.int .i64 aD) ∧ W.cell? ⟨w.heap.size + 1, 0, none⟩ = some (.int .i64 bN) ∧ W.cell? ⟨w.heap.size + 1, 1, none⟩ = some (.int .i64 bD) ∧ Below wA.heap.size wA W)
    (first | (with_reducible exact ⟨a0, a1, a2, a3, hs⟩) | (with_reducible exact ⟨cell_below hsd a0, cell_below hsd a1, cell_below hsd a2, cell_below hsd a3, hsd⟩) | (with_reducible exact ⟨cell_below (by with_reducible assumption) a0, cell_below (by with_reducible assumption) a1, cell_below (by with_reducible assumption) a2, cell_below (by with_reducible assumption) a3, (by with_reducible assumption)⟩) | fail)
    (first
      | (go_at_call_of 43 (Value.int IntKind.i64 aN); (with_reducible refine (PA.out _).mono ?_); rintro e y1 ⟨rfl, hy1⟩; have hs1 : Below wA.heap.size wA y1 := below_step (by with_reducible assumption) hy1)
      | (go_at_call_of 43 (Value.int IntKind.i64 bN); (with_reducible refine (PB.out _).mono ?_); rintro e y2 ⟨rfl, hy2⟩; have hs2 : Below wA.heap.size wA y2 := below_step (by with_reducible assumption) hy2)
      | (go_at_call 44; (with_reducible refine (LT.out _).mono ?_); rintro e y3 ⟨rfl, hy3⟩; have hs3 : Below wA.heap.size wA y3 := below_step (by with_reducible assumption) hy3))
  all_goals
    go_wp2_with fail
    go_ret
    exact ⟨rfl, below_step HA.out (by assumption)⟩

set_option maxHeartbeats 4000000 in
theorem cmp_dgt {aN aD bN bD : Int} (a : Fr aN aD) (b : Fr bN bD) (h : aN = bN ∧ aD ≠ bD) (hlt : decide (aN * bD < bN * aD) = false) (w : World) :
    Calls Tryz.prog 18 #[.agg #[.int .i64 aN, .int .i64 aD], .agg #[.int .i64 bN, .int .i64 bD]] w fun e w' => e = .returned (.int .i64 (1)) ∧ Below w.heap.size w w' := by
  obtain ⟨h, h'⟩ := h
  have x0 : (aN == bN) = true := by simpa using h
  have x0' : decide (aN = bN) = true := by simpa using h
  have x1 : (aD == bD) = false := by simpa using h'
  have PA := hid (fun w => product_any aN bD a.bigN.i64 b.bigD.i64 w)
  have PB := hid (fun w => product_any bN aD b.bigN.i64 a.bigD.i64 w)
  have LT := hid (fun w => less_any (aN * bD) (bN * aD) (prod_fit a.bigN b.bigD) (prod_fit b.bigN a.bigD) w)
  rw [hlt] at LT
  clear hlt h h' a b
  generalize aN * bD = p1 at *
  generalize bN * aD = p2 at *
  go_enter Tryz.func18, Tryz.ntmps18
  go_upto_region 3 with fail
  generalize hwA : ((w.alloc (.cells #[.int .i64 aN, .int .i64 aD] 25)).alloc (.cells #[.int .i64 bN, .int .i64 bD] 25)) = wA
  have hA : Below w.heap.size w wA := by rw [← hwA]; exact (((Below.refl _ _).alloc (by first | exact Nat.le_refl _ | (simp; done) | (simp; omega) | omega | (simp [World.drewN]; omega)) _).alloc (by first | exact Nat.le_refl _ | (simp; done) | (simp; omega) | omega | (simp [World.drewN]; omega)) _)
  have a0 : wA.cell? ⟨w.heap.size, 0, none⟩ = some (.int .i64 aN) := by rw [← hwA]; simp [go_sem]
  have a1 : wA.cell? ⟨w.heap.size, 1, none⟩ = some (.int .i64 aD) := by rw [← hwA]; simp [go_sem]
  have a2 : wA.cell? ⟨w.heap.size + 1, 0, none⟩ = some (.int .i64 bN) := by rw [← hwA]; simp [go_sem]
  have a3 : wA.cell? ⟨w.heap.size + 1, 1, none⟩ = some (.int .i64 bD) := by rw [← hwA]; simp [go_sem]
  have HA := hid hA
  clear hwA hA
  have hs := Below.refl wA.heap.size wA
  have hsd := hs.drew
  go_region_held3 (fun W => W.cell? ⟨w.heap.size, 0, none⟩ = some (.int .i64 aN) ∧ W.cell? ⟨w.heap.size, 1, none⟩ = some (.int .i64 aD) ∧ W.cell? ⟨w.heap.size + 1, 0, none⟩ = some (.int .i64 bN) ∧ W.cell? ⟨w.heap.size + 1, 1, none⟩ = some (.int .i64 bD) ∧ Below wA.heap.size wA W)
    (first | (with_reducible exact ⟨a0, a1, a2, a3, hs⟩) | (with_reducible exact ⟨cell_below hsd a0, cell_below hsd a1, cell_below hsd a2, cell_below hsd a3, hsd⟩) | (with_reducible exact ⟨cell_below (by with_reducible assumption) a0, cell_below (by with_reducible assumption) a1, cell_below (by with_reducible assumption) a2, cell_below (by with_reducible assumption) a3, (by with_reducible assumption)⟩) | fail)
    (first
      | (go_at_call_of 43 (Value.int IntKind.i64 aN); (with_reducible refine (PA.out _).mono ?_); rintro e y1 ⟨rfl, hy1⟩; have hs1 : Below wA.heap.size wA y1 := below_step (by with_reducible assumption) hy1)
      | (go_at_call_of 43 (Value.int IntKind.i64 bN); (with_reducible refine (PB.out _).mono ?_); rintro e y2 ⟨rfl, hy2⟩; have hs2 : Below wA.heap.size wA y2 := below_step (by with_reducible assumption) hy2)
      | (go_at_call 44; (with_reducible refine (LT.out _).mono ?_); rintro e y3 ⟨rfl, hy3⟩; have hs3 : Below wA.heap.size wA y3 := below_step (by with_reducible assumption) hy3))
  all_goals
    go_wp2_with fail
    go_ret
    exact ⟨rfl, below_step HA.out (by assumption)⟩

end Go.Proofs.YtffcnkkgbhhfnaaGreatDoor

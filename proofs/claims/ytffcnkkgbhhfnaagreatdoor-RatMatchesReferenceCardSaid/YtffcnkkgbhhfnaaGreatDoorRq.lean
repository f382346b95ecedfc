
import Derived.Test.YtffcnkkgbhhfnaaGreatDoorRp
namespace Go.Proofs.YtffcnkkgbhhfnaaGreatDoor
open Go.RowKit Go.Instr
set_option linter.unusedVariables false

/-- How two fractions compare. -/
def cmpV (r s : Rat) : Int := if r < s then -1 else if r = s then 0 else 1

theorem fr_lt {aN aD bN bD : Int} (a : Fr aN aD) (b : Fr bN bD) : (Rat.divInt aN aD) < (Rat.divInt bN bD) ↔ aN * bD < bN * aD := by
  rw [Rat.lt_iff, a.num, b.num, a.den, b.den]
theorem fr_eq {aN aD bN bD : Int} (a : Fr aN aD) (b : Fr bN bD) : (Rat.divInt aN aD) = (Rat.divInt bN bD) ↔ aN = bN ∧ aD = bD := by
  constructor
  · intro h
    exact ⟨by rw [← a.num, h, b.num], by rw [← a.den, h, b.den]⟩
  · rintro ⟨rfl, rfl⟩; rfl

theorem cmpF {aN aD bN bD : Int} (a : Fr aN aD) (b : Fr bN bD) (w : World) :
    Calls Tryz.prog 18 #[.agg #[.int .i64 aN, .int .i64 aD], .agg #[.int .i64 bN, .int .i64 bD]] w fun e w' => e = .returned (.int .i64 (cmpV (Rat.divInt aN aD) (Rat.divInt bN bD))) ∧ Below w.heap.size w w' := by
  by_cases h : aN = bN ∧ aD = bD
  · have e : cmpV (Rat.divInt aN aD) (Rat.divInt bN bD) = 0 := by
      rw [(fr_eq a b).2 h]; unfold cmpV; rw [if_neg Rat.lt_irrefl, if_pos rfl]
    rw [e]; exact cmp_eq h.1 h.2 w
  · have hne : ¬ (Rat.divInt aN aD) = (Rat.divInt bN bD) := fun h' => h ((fr_eq a b).1 h')
    by_cases hl : aN * bD < bN * aD
    · have e : cmpV (Rat.divInt aN aD) (Rat.divInt bN bD) = -1 := by unfold cmpV; rw [if_pos ((fr_lt a b).2 hl)]
      rw [e]
      by_cases h1 : aN = bN
      · exact cmp_dlt a b ⟨h1, fun h2 => h ⟨h1, h2⟩⟩ (by simpa using hl) w
      · exact cmp_nlt a b h1 (by simpa using hl) w
    · have e : cmpV (Rat.divInt aN aD) (Rat.divInt bN bD) = 1 := by unfold cmpV; rw [if_neg (fun h' => hl ((fr_lt a b).1 h')), if_neg hne]
      rw [e]
      by_cases h1 : aN = bN
      · exact cmp_dgt a b ⟨h1, fun h2 => h ⟨h1, h2⟩⟩ (by simpa using hl) w
      · exact cmp_ngt a b h1 (by simpa using hl) w

set_option maxHeartbeats 1000000 in
theorem min_b {aN aD bN bD : Int} (a : Fr aN aD) (b : Fr bN bD) (h : decide (0 < cmpV (Rat.divInt aN aD) (Rat.divInt bN bD)) = true) (w : World) :
    Calls Tryz.prog 22 #[.agg #[.int .i64 aN, .int .i64 aD], .agg #[.int .i64 bN, .int .i64 bD]] w fun e w' => e = .returned (.agg #[.int .i64 bN, .int .i64 bD]) ∧ Below w.heap.size w w' := by
  have C := hid (fun w => cmpF a b w)
  clear a b
  generalize cmpV (Rat.divInt aN aD) (Rat.divInt bN bD) = c at *
  go_enter Tryz.func22, Tryz.ntmps22
  go_wp2_with fail
  refine (C.out _).mono ?_
  rintro e w1 ⟨rfl, hb⟩
  have hzP : w.heap.size + 3 ≤ w1.heap.size := by have := hb.size; simp at this; omega
  have P0 : ∀ W, Below w1.heap.size w1 W → W.cell? ⟨w.heap.size, 0, none⟩ = some (.int .i64 aN) ∧ W.cell? ⟨w.heap.size, 1, none⟩ = some (.int .i64 aD) ∧ W.cell? ⟨w.heap.size + 1, 0, none⟩ = some (.int .i64 bN) ∧ W.cell? ⟨w.heap.size + 1, 1, none⟩ = some (.int .i64 bD) ∧ W.cell? ⟨w.heap.size + 1 + 1, 0, none⟩ = some (.int .i64 0) ∧ W.cell? ⟨w.heap.size + 1 + 1, 1, none⟩ = some (.int .i64 0) ∧ W.frozen? ⟨w.heap.size + 1 + 1, 0, none⟩ = false ∧ W.frozen? ⟨w.heap.size + 1 + 1, 1, none⟩ = false ∧ w1.heap.size ≤ W.heap.size := by
    intro W hW
    exact ⟨cell_below hW (cell_below hb (by simp [go_sem])), cell_below hW (cell_below hb (by simp [go_sem])), cell_below hW (cell_below hb (by simp [go_sem])), cell_below hW (cell_below hb (by simp [go_sem])), cell_below hW (cell_below hb (by simp [go_sem])), cell_below hW (cell_below hb (by simp [go_sem])), (hW.frozen (p := ⟨w.heap.size + 1 + 1, 0, none⟩) (by simp; omega)).trans ((hb.frozen (p := ⟨w.heap.size + 1 + 1, 0, none⟩) (by first | (simp; done) | (simp; omega))).trans (by simp [go_sem])), (hW.frozen (p := ⟨w.heap.size + 1 + 1, 1, none⟩) (by simp; omega)).trans ((hb.frozen (p := ⟨w.heap.size + 1 + 1, 1, none⟩) (by first | (simp; done) | (simp; omega))).trans (by simp [go_sem])), hW.size⟩
  have P := hid P0
  clear P0
  have HP := hid hb
  clear hb
  obtain ⟨a0, a1, a2, a3, a4, a5, a6, a7, za⟩ := P.out w1 (Below.refl _ _)
  go_wp2
  exact bodyPost_ret (v := .agg #[.int .i64 bN, .int .i64 bD]) (by simp [results, Tryz.results22, a4, a5, go_sem]) rfl ⟨rfl, (((((((Below.refl _ _).alloc (by first | exact Nat.le_refl _ | (simp; done) | (simp; omega) | omega | (simp [World.drewN]; omega)) _).alloc (by first | exact Nat.le_refl _ | (simp; done) | (simp; omega) | omega | (simp [World.drewN]; omega)) _).alloc (by first | exact Nat.le_refl _ | (simp; done) | (simp; omega) | omega | (simp [World.drewN]; omega)) _).trans (HP.out.mono (by first | exact Nat.le_refl _ | (simp; done) | (simp; omega) | omega | (simp [World.drewN]; omega)))).setCell (by first | exact Nat.le_refl _ | (simp; done) | (simp; omega) | omega | (simp [World.drewN]; omega)) _).setCell (by first | exact Nat.le_refl _ | (simp; done) | (simp; omega) | omega | (simp [World.drewN]; omega)) _)⟩

set_option maxHeartbeats 1000000 in
theorem min_a {aN aD bN bD : Int} (a : Fr aN aD) (b : Fr bN bD) (h : decide (0 < cmpV (Rat.divInt aN aD) (Rat.divInt bN bD)) = false) (w : World) :
    Calls Tryz.prog 22 #[.agg #[.int .i64 aN, .int .i64 aD], .agg #[.int .i64 bN, .int .i64 bD]] w fun e w' => e = .returned (.agg #[.int .i64 aN, .int .i64 aD]) ∧ Below w.heap.size w w' := by
  have C := hid (fun w => cmpF a b w)
  clear a b
  generalize cmpV (Rat.divInt aN aD) (Rat.divInt bN bD) = c at *
  go_enter Tryz.func22, Tryz.ntmps22
  go_wp2_with fail
  refine (C.out _).mono ?_
  rintro e w1 ⟨rfl, hb⟩
  have hzP : w.heap.size + 3 ≤ w1.heap.size := by have := hb.size; simp at this; omega
  have P0 : ∀ W, Below w1.heap.size w1 W → W.cell? ⟨w.heap.size, 0, none⟩ = some (.int .i64 aN) ∧ W.cell? ⟨w.heap.size, 1, none⟩ = some (.int .i64 aD) ∧ W.cell? ⟨w.heap.size + 1, 0, none⟩ = some (.int .i64 bN) ∧ W.cell? ⟨w.heap.size + 1, 1, none⟩ = some (.int .i64 bD) ∧ W.cell? ⟨w.heap.size + 1 + 1, 0, none⟩ = some (.int .i64 0) ∧ W.cell? ⟨w.heap.size + 1 + 1, 1, none⟩ = some (.int .i64 0) ∧ W.frozen? ⟨w.heap.size + 1 + 1, 0, none⟩ = false ∧ W.frozen? ⟨w.heap.size + 1 + 1, 1, none⟩ = false ∧ w1.heap.size ≤ W.heap.size := by
    intro W hW
    exact ⟨cell_below hW (cell_below hb (by simp [go_sem])), cell_below hW (cell_below hb (by simp [go_sem])), cell_below hW (cell_below hb (by simp [go_sem])), cell_below hW (cell_below hb (by simp [go_sem])), cell_below hW (cell_below hb (by simp [go_sem])), cell_below hW (cell_below hb (by simp [go_sem])), (hW.frozen (p := ⟨w.heap.size + 1 + 1, 0, none⟩) (by simp; omega)).trans ((hb.frozen (p := ⟨w.heap.size + 1 + 1, 0, none⟩) (by first | (simp; done) | (simp; omega))).trans (by simp [go_sem])), (hW.frozen (p := ⟨w.heap.size + 1 + 1, 1, none⟩) (by simp; omega)).trans ((hb.frozen (p := ⟨w.heap.size + 1 + 1, 1, none⟩) (by first | (simp; done) | (simp; omega))).trans (by simp [go_sem])), hW.size⟩
  have P := hid P0
  clear P0
  have HP := hid hb
  clear hb
  obtain ⟨a0, a1, a2, a3, a4, a5, a6, a7, za⟩ := P.out w1 (Below.refl _ _)
  go_wp2
  exact bodyPost_ret (v := .agg #[.int .i64 aN, .int .i64 aD]) (by simp [results, Tryz.results22, a4, a5, go_sem]) rfl ⟨rfl, (((((((Below.refl _ _).alloc (by first | exact Nat.le_refl _ | (simp; done) | (simp; omega) | omega | (simp [World.drewN]; omega)) _).alloc (by first | exact Nat.le_refl _ | (simp; done) | (simp; omega) | omega | (simp [World.drewN]; omega)) _).alloc (by first | exact Nat.le_refl _ | (simp; done) | (simp; omega) | omega | (simp [World.drewN]; omega)) _).trans (HP.out.mono (by first | exact Nat.le_refl _ | (simp; done) | (simp; omega) | omega | (simp [World.drewN]; omega)))).setCell (by first | exact Nat.le_refl _ | (simp; done) | (simp; omega) | omega | (simp [World.drewN]; omega)) _).setCell (by first | exact Nat.le_refl _ | (simp; done) | (simp; omega) | omega | (simp [World.drewN]; omega)) _)⟩

set_option maxHeartbeats 1000000 in
theorem max_b {aN aD bN bD : Int} (a : Fr aN aD) (b : Fr bN bD) (h : decide (cmpV (Rat.divInt aN aD) (Rat.divInt bN bD) < 0) = true) (w : World) :
    Calls Tryz.prog 23 #[.agg #[.int .i64 aN, .int .i64 aD], .agg #[.int .i64 bN, .int .i64 bD]] w fun e w' => e = .returned (.agg #[.int .i64 bN, .int .i64 bD]) ∧ Below w.heap.size w w' := by
  have C := hid (fun w => cmpF a b w)
  clear a b
  generalize cmpV (Rat.divInt aN aD) (Rat.divInt bN bD) = c at *
  go_enter Tryz.func23, Tryz.ntmps23
  go_wp2_with fail
  refine (C.out _).mono ?_
  rintro e w1 ⟨rfl, hb⟩
  have hzP : w.heap.size + 3 ≤ w1.heap.size := by have := hb.size; simp at this; omega
  have P0 : ∀ W, Below w1.heap.size w1 W → W.cell? ⟨w.heap.size, 0, none⟩ = some (.int .i64 aN) ∧ W.cell? ⟨w.heap.size, 1, none⟩ = some (.int .i64 aD) ∧ W.cell? ⟨w.heap.size + 1, 0, none⟩ = some (.int .i64 bN) ∧ W.cell? ⟨w.heap.size + 1, 1, none⟩ = some (.int .i64 bD) ∧ W.cell? ⟨w.heap.size + 1 + 1, 0, none⟩ = some (.int .i64 0) ∧ W.cell? ⟨w.heap.size + 1 + 1, 1, none⟩ = some (.int .i64 0) ∧ W.frozen? ⟨w.heap.size + 1 + 1, 0, none⟩ = false ∧ W.frozen? ⟨w.heap.size + 1 + 1, 1, none⟩ = false ∧ w1.heap.size ≤ W.heap.size := by
    intro W hW
    exact ⟨cell_below hW (cell_below hb (by simp [go_sem])), cell_below hW (cell_below hb (by simp [go_sem])), cell_below hW (cell_below hb (by simp [go_sem])), cell_below hW (cell_below hb (by simp [go_sem])), cell_below hW (cell_below hb (by simp [go_sem])), cell_below hW (cell_below hb (by simp [go_sem])), (hW.frozen (p := ⟨w.heap.size + 1 + 1, 0, none⟩) (by simp; omega)).trans ((hb.frozen (p := ⟨w.heap.size + 1 + 1, 0, none⟩) (by first | (simp; done) | (simp; omega))).trans (by simp [go_sem])), (hW.frozen (p := ⟨w.heap.size + 1 + 1, 1, none⟩) (by simp; omega)).trans ((hb.frozen (p := ⟨w.heap.size + 1 + 1, 1, none⟩) (by first | (simp; done) | (simp; omega))).trans (by simp [go_sem])), hW.size⟩
  have P := hid P0
  clear P0
  have HP := hid hb
  clear hb
  obtain ⟨a0, a1, a2, a3, a4, a5, a6, a7, za⟩ := P.out w1 (Below.refl _ _)
  go_wp2
  exact bodyPost_ret (v := .agg #[.int .i64 bN, .int .i64 bD]) (by simp [results, Tryz.results23, a4, a5, go_sem]) rfl ⟨rfl, (((((((Below.refl _ _).alloc (by first | exact Nat.le_refl _ | (simp; done) | (simp; omega) | omega | (simp [World.drewN]; omega)) _).alloc (by first | exact Nat.le_refl _ | (simp; done) | (simp; omega) | omega | (simp [World.drewN]; omega)) _).alloc (by first | exact Nat.le_refl _ | (simp; done) | (simp; omega) | omega | (simp [World.drewN]; omega)) _).trans (HP.out.mono (by first | exact Nat.le_refl _ | (simp; done) | (simp; omega) | omega | (simp [World.drewN]; omega)))).setCell (by first | exact Nat.le_refl _ | (simp; done) | (simp; omega) | omega | (simp [World.drewN]; omega)) _).setCell (by first | exact Nat.le_refl _ | (simp; done) | (simp; omega) | omega | (simp [World.drewN]; omega)) _)⟩

set_option maxHeartbeats 1000000 in
theorem max_a {aN aD bN bD : Int} (a : Fr aN aD) (b : Fr bN bD) (h : decide (cmpV (Rat.divInt aN aD) (Rat.divInt bN bD) < 0) = false) (w : World) :
    Calls Tryz.prog 23 #[.agg #[.int .i64 aN, .int .i64 aD], .agg #[.int .i64 bN, .int .i64 bD]] w fun e w' => e = .returned (.agg #[.int .i64 aN, .int .i64 aD]) ∧ Below w.heap.size w w' := by
  have C := hid (fun w => cmpF a b w)
  clear a b
  generalize cmpV (Rat.divInt aN aD) (Rat.divInt bN bD) = c at *
  go_enter Tryz.func23, Tryz.ntmps23
  go_wp2_with fail
  refine (C.out _).mono ?_
  rintro e w1 ⟨rfl, hb⟩
  have hzP : w.heap.size + 3 ≤ w1.heap.size := by have := hb.size; simp at this; omega
  have P0 : ∀ W, Below w1.heap.size w1 W → W.cell? ⟨w.heap.size, 0, none⟩ = some (.int .i64 aN) ∧ W.cell? ⟨w.heap.size, 1, none⟩ = some (.int .i64 aD) ∧ W.cell? ⟨w.heap.size + 1, 0, none⟩ = some (.int .i64 bN) ∧ W.cell? ⟨w.heap.size + 1, 1, none⟩ = some (.int .i64 bD) ∧ W.cell? ⟨w.heap.size + 1 + 1, 0, none⟩ = some (.int .i64 0) ∧ W.cell? ⟨w.heap.size + 1 + 1, 1, none⟩ = some (.int .i64 0) ∧ W.frozen? ⟨w.heap.size + 1 + 1, 0, none⟩ = false ∧ W.frozen? ⟨w.heap.size + 1 + 1, 1, none⟩ = false ∧ w1.heap.size ≤ W.heap.size := by
    intro W hW
    exact ⟨cell_below hW (cell_below hb (by simp [go_sem])), cell_below hW (cell_below hb (by simp [go_sem])), cell_below hW (cell_below hb (by simp [go_sem])), cell_below hW (cell_below hb (by simp [go_sem])), cell_below hW (cell_below hb (by simp [go_sem])), cell_below hW (cell_below hb (by simp [go_sem])), (hW.frozen (p := ⟨w.heap.size + 1 + 1, 0, none⟩) (by simp; omega)).trans ((hb.frozen (p := ⟨w.heap.size + 1 + 1, 0, none⟩) (by first | (simp; done) | (simp; omega))).trans (by simp [go_sem])), (hW.frozen (p := ⟨w.heap.size + 1 + 1, 1, none⟩) (by simp; omega)).trans ((hb.frozen (p := ⟨w.heap.size + 1 + 1, 1, none⟩) (by first | (simp; done) | (simp; omega))).trans (by simp [go_sem])), hW.size⟩
  have P := hid P0
  clear P0
  have HP := hid hb
  clear hb
  obtain ⟨a0, a1, a2, a3, a4, a5, a6, a7, za⟩ := P.out w1 (Below.refl _ _)
  go_wp2
  exact bodyPost_ret (v := .agg #[.int .i64 aN, .int .i64 aD]) (by simp [results, Tryz.results23, a4, a5, go_sem]) rfl ⟨rfl, (((((((Below.refl _ _).alloc (by first | exact Nat.le_refl _ | (simp; done) | (simp; omega) | omega | (simp [World.drewN]; omega)) _).alloc (by first | exact Nat.le_refl _ | (simp; done) | (simp; omega) | omega | (simp [World.drewN]; omega)) _).alloc (by first | exact Nat.le_refl _ | (simp; done) | (simp; omega) | omega | (simp [World.drewN]; omega)) _).trans (HP.out.mono (by first | exact Nat.le_refl _ | (simp; done) | (simp; omega) | omega | (simp [World.drewN]; omega)))).setCell (by first | exact Nat.le_refl _ | (simp; done) | (simp; omega) | omega | (simp [World.drewN]; omega)) _).setCell (by first | exact Nat.le_refl _ | (simp; done) | (simp; omega) | omega | (simp [World.drewN]; omega)) _)⟩

set_option maxHeartbeats 1000000 in
theorem created_any (n d : Int) (N D E : Int) (C : ∀ w : World, Calls Tryz.prog 29 #[.int .i64 n, .int .i64 d] w fun e w' => e = .returned (.tuple #[.agg #[.int .i64 N, .int .i64 D], .int .i64 E]) ∧ Below w.heap.size w w') (w : World) :
    Calls Tryz.prog 5 #[.int .i64 n, .int .i64 d] w fun e w' => e = .returned (.agg #[.int .i64 N, .int .i64 D, .int .i64 E]) ∧ Below w.heap.size w w' := by
  have C := hid C
  go_enter Tryz.func5, Tryz.ntmps5
  go_wp2_with fail
  refine (C.out _).mono ?_
  rintro e w1 ⟨rfl, hb⟩
  have hzP : w.heap.size + 1 ≤ w1.heap.size := by have := hb.size; simp at this; omega
  have P0 : ∀ W, Below w1.heap.size w1 W → W.cell? ⟨w.heap.size, 0, none⟩ = some (.int .i64 0) ∧ W.cell? ⟨w.heap.size, 1, none⟩ = some (.int .i64 0) ∧ W.cell? ⟨w.heap.size, 2, none⟩ = some (.int .i64 0) ∧ W.frozen? ⟨w.heap.size, 0, none⟩ = false ∧ W.frozen? ⟨w.heap.size, 1, none⟩ = false ∧ W.frozen? ⟨w.heap.size, 2, none⟩ = false ∧ w1.heap.size ≤ W.heap.size := by
    intro W hW
    exact ⟨cell_below hW (cell_below hb (by simp [go_sem])), cell_below hW (cell_below hb (by simp [go_sem])), cell_below hW (cell_below hb (by simp [go_sem])), (hW.frozen (p := ⟨w.heap.size, 0, none⟩) (by simp; omega)).trans ((hb.frozen (p := ⟨w.heap.size, 0, none⟩) (by first | (simp; done) | (simp; omega))).trans (by simp [go_sem])), (hW.frozen (p := ⟨w.heap.size, 1, none⟩) (by simp; omega)).trans ((hb.frozen (p := ⟨w.heap.size, 1, none⟩) (by first | (simp; done) | (simp; omega))).trans (by simp [go_sem])), (hW.frozen (p := ⟨w.heap.size, 2, none⟩) (by simp; omega)).trans ((hb.frozen (p := ⟨w.heap.size, 2, none⟩) (by first | (simp; done) | (simp; omega))).trans (by simp [go_sem])), hW.size⟩
  have P := hid P0
  clear P0
  have HP := hid hb
  clear hb
  have K := fun o => P.out (w1.alloc o) (below_a (Below.refl _ _) o)
  have k0 := fun o => (K o).1
  have k1 := fun o => (K o).2.1
  have k2 := fun o => (K o).2.2.1
  have k3 := fun o => (K o).2.2.2.1
  have k4 := fun o => (K o).2.2.2.2.1
  have k5 := fun o => (K o).2.2.2.2.2.1
  clear K
  go_wp2
  exact bodyPost_ret (v := .agg #[.int .i64 N, .int .i64 D, .int .i64 E]) (by simp [results, Tryz.results5, k0, k1, k2, go_sem]) rfl ⟨rfl, (((((((Below.refl _ _).alloc (by first | exact Nat.le_refl _ | (simp; done) | (simp; omega) | omega | (simp [World.drewN]; omega)) _).trans (HP.out.mono (by first | exact Nat.le_refl _ | (simp; done) | (simp; omega) | omega | (simp [World.drewN]; omega)))).alloc (by first | exact Nat.le_refl _ | (simp; done) | (simp; omega) | omega | (simp [World.drewN]; omega)) _).setCell (by first | exact Nat.le_refl _ | (simp; done) | (simp; omega) | omega | (simp [World.drewN]; omega)) _).setCell (by first | exact Nat.le_refl _ | (simp; done) | (simp; omega) | omega | (simp [World.drewN]; omega)) _).setCell (by first | exact Nat.le_refl _ | (simp; done) | (simp; omega) | omega | (simp [World.drewN]; omega)) _)⟩

set_option maxHeartbeats 1000000 in
theorem add_law (aN aD bN bD : Int) (N D E : Int) (C : ∀ w : World, Calls Tryz.prog 33 #[.agg #[.int .i64 aN, .int .i64 aD], .agg #[.int .i64 bN, .int .i64 bD]] w fun e w' => e = .returned (.tuple #[.agg #[.int .i64 N, .int .i64 D], .int .i64 E]) ∧ Below w.heap.size w w') (w : World) :
    Calls Tryz.prog 10 #[.agg #[.int .i64 aN, .int .i64 aD], .agg #[.int .i64 bN, .int .i64 bD]] w fun e w' => e = .returned (.agg #[.int .i64 N, .int .i64 D, .int .i64 E]) ∧ Below w.heap.size w w' := by
  have C := hid C
  go_enter Tryz.func10, Tryz.ntmps10
  go_wp2_with fail
  refine (C.out _).mono ?_
  rintro e w1 ⟨rfl, hb⟩
  have hzP : w.heap.size + 3 ≤ w1.heap.size := by have := hb.size; simp at this; omega
  have P0 : ∀ W, Below w1.heap.size w1 W → W.cell? ⟨w.heap.size, 0, none⟩ = some (.int .i64 aN) ∧ W.cell? ⟨w.heap.size, 1, none⟩ = some (.int .i64 aD) ∧ W.cell? ⟨w.heap.size + 1, 0, none⟩ = some (.int .i64 bN) ∧ W.cell? ⟨w.heap.size + 1, 1, none⟩ = some (.int .i64 bD) ∧ W.cell? ⟨w.heap.size + 1 + 1, 0, none⟩ = some (.int .i64 0) ∧ W.cell? ⟨w.heap.size + 1 + 1, 1, none⟩ = some (.int .i64 0) ∧ W.cell? ⟨w.heap.size + 1 + 1, 2, none⟩ = some (.int .i64 0) ∧ W.frozen? ⟨w.heap.size + 1 + 1, 0, none⟩ = false ∧ W.frozen? ⟨w.heap.size + 1 + 1, 1, none⟩ = false ∧ W.frozen? ⟨w.heap.size + 1 + 1, 2, none⟩ = false ∧ w1.heap.size ≤ W.heap.size := by
    intro W hW
    exact ⟨cell_below hW (cell_below hb (by simp [go_sem])), cell_below hW (cell_below hb (by simp [go_sem])), cell_below hW (cell_below hb (by simp [go_sem])), cell_below hW (cell_below hb (by simp [go_sem])), cell_below hW (cell_below hb (by simp [go_sem])), cell_below hW (cell_below hb (by simp [go_sem])), cell_below hW (cell_below hb (by simp [go_sem])), (hW.frozen (p := ⟨w.heap.size + 1 + 1, 0, none⟩) (by simp; omega)).trans ((hb.frozen (p := ⟨w.heap.size + 1 + 1, 0, none⟩) (by first | (simp; done) | (simp; omega))).trans (by simp [go_sem])), (hW.frozen (p := ⟨w.heap.size + 1 + 1, 1, none⟩) (by simp; omega)).trans ((hb.frozen (p := ⟨w.heap.size + 1 + 1, 1, none⟩) (by first | (simp; done) | (simp; omega))).trans (by simp [go_sem])), (hW.frozen (p := ⟨w.heap.size + 1 + 1, 2, none⟩) (by simp; omega)).trans ((hb.frozen (p := ⟨w.heap.size + 1 + 1, 2, none⟩) (by first | (simp; done) | (simp; omega))).trans (by simp [go_sem])), hW.size⟩
  have P := hid P0
  clear P0
  have HP := hid hb
  clear hb
  have K := fun o => P.out (w1.alloc o) (below_a (Below.refl _ _) o)
  have k4 := fun o => (K o).2.2.2.2.1
  have k5 := fun o => (K o).2.2.2.2.2.1
  have k6 := fun o => (K o).2.2.2.2.2.2.1
  have k7 := fun o => (K o).2.2.2.2.2.2.2.1
  have k8 := fun o => (K o).2.2.2.2.2.2.2.2.1
  have k9 := fun o => (K o).2.2.2.2.2.2.2.2.2.1
  clear K
  go_wp2
  exact bodyPost_ret (v := .agg #[.int .i64 N, .int .i64 D, .int .i64 E]) (by simp [results, Tryz.results10, k4, k5, k6, go_sem]) rfl ⟨rfl, (((((((((Below.refl _ _).alloc (by first | exact Nat.le_refl _ | (simp; done) | (simp; omega) | omega | (simp [World.drewN]; omega)) _).alloc (by first | exact Nat.le_refl _ | (simp; done) | (simp; omega) | omega | (simp [World.drewN]; omega)) _).alloc (by first | exact Nat.le_refl _ | (simp; done) | (simp; omega) | omega | (simp [World.drewN]; omega)) _).trans (HP.out.mono (by first | exact Nat.le_refl _ | (simp; done) | (simp; omega) | omega | (simp [World.drewN]; omega)))).alloc (by first | exact Nat.le_refl _ | (simp; done) | (simp; omega) | omega | (simp [World.drewN]; omega)) _).setCell (by first | exact Nat.le_refl _ | (simp; done) | (simp; omega) | omega | (simp [World.drewN]; omega)) _).setCell (by first | exact Nat.le_refl _ | (simp; done) | (simp; omega) | omega | (simp [World.drewN]; omega)) _).setCell (by first | exact Nat.le_refl _ | (simp; done) | (simp; omega) | omega | (simp [World.drewN]; omega)) _)⟩

set_option maxHeartbeats 1000000 in
theorem sub_law (aN aD bN bD : Int) (N D E : Int) (C : ∀ w : World, Calls Tryz.prog 40 #[.agg #[.int .i64 aN, .int .i64 aD], .agg #[.int .i64 bN, .int .i64 bD]] w fun e w' => e = .returned (.tuple #[.agg #[.int .i64 N, .int .i64 D], .int .i64 E]) ∧ Below w.heap.size w w') (w : World) :
    Calls Tryz.prog 12 #[.agg #[.int .i64 aN, .int .i64 aD], .agg #[.int .i64 bN, .int .i64 bD]] w fun e w' => e = .returned (.agg #[.int .i64 N, .int .i64 D, .int .i64 E]) ∧ Below w.heap.size w w' := by
  have C := hid C
  go_enter Tryz.func12, Tryz.ntmps12
  go_wp2_with fail
  refine (C.out _).mono ?_
  rintro e w1 ⟨rfl, hb⟩
  have hzP : w.heap.size + 3 ≤ w1.heap.size := by have := hb.size; simp at this; omega
  have P0 : ∀ W, Below w1.heap.size w1 W → W.cell? ⟨w.heap.size, 0, none⟩ = some (.int .i64 aN) ∧ W.cell? ⟨w.heap.size, 1, none⟩ = some (.int .i64 aD) ∧ W.cell? ⟨w.heap.size + 1, 0, none⟩ = some (.int .i64 bN) ∧ W.cell? ⟨w.heap.size + 1, 1, none⟩ = some (.int .i64 bD) ∧ W.cell? ⟨w.heap.size + 1 + 1, 0, none⟩ = some (.int .i64 0) ∧ W.cell? ⟨w.heap.size + 1 + 1, 1, none⟩ = some (.int .i64 0) ∧ W.cell? ⟨w.heap.size + 1 + 1, 2, none⟩ = some (.int .i64 0) ∧ W.frozen? ⟨w.heap.size + 1 + 1, 0, none⟩ = false ∧ W.frozen? ⟨w.heap.size + 1 + 1, 1, none⟩ = false ∧ W.frozen? ⟨w.heap.size + 1 + 1, 2, none⟩ = false ∧ w1.heap.size ≤ W.heap.size := by
    intro W hW
    exact ⟨cell_below hW (cell_below hb (by simp [go_sem])), cell_below hW (cell_below hb (by simp [go_sem])), cell_below hW (cell_below hb (by simp [go_sem])), cell_below hW (cell_below hb (by simp [go_sem])), cell_below hW (cell_below hb (by simp [go_sem])), cell_below hW (cell_below hb (by simp [go_sem])), cell_below hW (cell_below hb (by simp [go_sem])), (hW.frozen (p := ⟨w.heap.size + 1 + 1, 0, none⟩) (by simp; omega)).trans ((hb.frozen (p := ⟨w.heap.size + 1 + 1, 0, none⟩) (by first | (simp; done) | (simp; omega))).trans (by simp [go_sem])), (hW.frozen (p := ⟨w.heap.size + 1 + 1, 1, none⟩) (by simp; omega)).trans ((hb.frozen (p := ⟨w.heap.size + 1 + 1, 1, none⟩) (by first | (simp; done) | (simp; omega))).trans (by simp [go_sem])), (hW.frozen (p := ⟨w.heap.size + 1 + 1, 2, none⟩) (by simp; omega)).trans ((hb.frozen (p := ⟨w.heap.size + 1 + 1, 2, none⟩) (by first | (simp; done) | (simp; omega))).trans (by simp [go_sem])), hW.size⟩
  have P := hid P0
  clear P0
  have HP := hid hb
  clear hb
  have K := fun o => P.out (w1.alloc o) (below_a (Below.refl _ _) o)
  have k4 := fun o => (K o).2.2.2.2.1
  have k5 := fun o => (K o).2.2.2.2.2.1
  have k6 := fun o => (K o).2.2.2.2.2.2.1
  have k7 := fun o => (K o).2.2.2.2.2.2.2.1
  have k8 := fun o => (K o).2.2.2.2.2.2.2.2.1
  have k9 := fun o => (K o).2.2.2.2.2.2.2.2.2.1
  clear K
  go_wp2
  exact bodyPost_ret (v := .agg #[.int .i64 N, .int .i64 D, .int .i64 E]) (by simp [results, Tryz.results12, k4, k5, k6, go_sem]) rfl ⟨rfl, (((((((((Below.refl _ _).alloc (by first | exact Nat.le_refl _ | (simp; done) | (simp; omega) | omega | (simp [World.drewN]; omega)) _).alloc (by first | exact Nat.le_refl _ | (simp; done) | (simp; omega) | omega | (simp [World.drewN]; omega)) _).alloc (by first | exact Nat.le_refl _ | (simp; done) | (simp; omega) | omega | (simp [World.drewN]; omega)) _).trans (HP.out.mono (by first | exact Nat.le_refl _ | (simp; done) | (simp; omega) | omega | (simp [World.drewN]; omega)))).alloc (by first | exact Nat.le_refl _ | (simp; done) | (simp; omega) | omega | (simp [World.drewN]; omega)) _).setCell (by first | exact Nat.le_refl _ | (simp; done) | (simp; omega) | omega | (simp [World.drewN]; omega)) _).setCell (by first | exact Nat.le_refl _ | (simp; done) | (simp; omega) | omega | (simp [World.drewN]; omega)) _).setCell (by first | exact Nat.le_refl _ | (simp; done) | (simp; omega) | omega | (simp [World.drewN]; omega)) _)⟩

set_option maxHeartbeats 1000000 in
theorem mul_law (aN aD bN bD : Int) (N D E : Int) (C : ∀ w : World, Calls Tryz.prog 41 #[.agg #[.int .i64 aN, .int .i64 aD], .agg #[.int .i64 bN, .int .i64 bD]] w fun e w' => e = .returned (.tuple #[.agg #[.int .i64 N, .int .i64 D], .int .i64 E]) ∧ Below w.heap.size w w') (w : World) :
    Calls Tryz.prog 14 #[.agg #[.int .i64 aN, .int .i64 aD], .agg #[.int .i64 bN, .int .i64 bD]] w fun e w' => e = .returned (.agg #[.int .i64 N, .int .i64 D, .int .i64 E]) ∧ Below w.heap.size w w' := by
  have C := hid C
  go_enter Tryz.func14, Tryz.ntmps14
  go_wp2_with fail
  refine (C.out _).mono ?_
  rintro e w1 ⟨rfl, hb⟩
  have hzP : w.heap.size + 3 ≤ w1.heap.size := by have := hb.size; simp at this; omega
  have P0 : ∀ W, Below w1.heap.size w1 W → W.cell? ⟨w.heap.size, 0, none⟩ = some (.int .i64 aN) ∧ W.cell? ⟨w.heap.size, 1, none⟩ = some (.int .i64 aD) ∧ W.cell? ⟨w.heap.size + 1, 0, none⟩ = some (.int .i64 bN) ∧ W.cell? ⟨w.heap.size + 1, 1, none⟩ = some (.int .i64 bD) ∧ W.cell? ⟨w.heap.size + 1 + 1, 0, none⟩ = some (.int .i64 0) ∧ W.cell? ⟨w.heap.size + 1 + 1, 1, none⟩ = some (.int .i64 0) ∧ W.cell? ⟨w.heap.size + 1 + 1, 2, none⟩ = some (.int .i64 0) ∧ W.frozen? ⟨w.heap.size + 1 + 1, 0, none⟩ = false ∧ W.frozen? ⟨w.heap.size + 1 + 1, 1, none⟩ = false ∧ W.frozen? ⟨w.heap.size + 1 + 1, 2, none⟩ = false ∧ w1.heap.size ≤ W.heap.size := by
    intro W hW
    exact ⟨cell_below hW (cell_below hb (by simp [go_sem])), cell_below hW (cell_below hb (by simp [go_sem])), cell_below hW (cell_below hb (by simp [go_sem])), cell_below hW (cell_below hb (by simp [go_sem])), cell_below hW (cell_below hb (by simp [go_sem])), cell_below hW (cell_below hb (by simp [go_sem])), cell_below hW (cell_below hb (by simp [go_sem])), (hW.frozen (p := ⟨w.heap.size + 1 + 1, 0, none⟩) (by simp; omega)).trans ((hb.frozen (p := ⟨w.heap.size + 1 + 1, 0, none⟩) (by first | (simp; done) | (simp; omega))).trans (by simp [go_sem])), (hW.frozen (p := ⟨w.heap.size + 1 + 1, 1, none⟩) (by simp; omega)).trans ((hb.frozen (p := ⟨w.heap.size + 1 + 1, 1, none⟩) (by first | (simp; done) | (simp; omega))).trans (by simp [go_sem])), (hW.frozen (p := ⟨w.heap.size + 1 + 1, 2, none⟩) (by simp; omega)).trans ((hb.frozen (p := ⟨w.heap.size + 1 + 1, 2, none⟩) (by first | (simp; done) | (simp; omega))).trans (by simp [go_sem])), hW.size⟩
  have P := hid P0
  clear P0
  have HP := hid hb
  clear hb
  have K := fun o => P.out (w1.alloc o) (below_a (Below.refl _ _) o)
  have k4 := fun o => (K o).2.2.2.2.1
  have k5 := fun o => (K o).2.2.2.2.2.1
  have k6 := fun o => (K o).2.2.2.2.2.2.1
  have k7 := fun o => (K o).2.2.2.2.2.2.2.1
  have k8 := fun o => (K o).2.2.2.2.2.2.2.2.1
  have k9 := fun o => (K o).2.2.2.2.2.2.2.2.2.1
  clear K
  go_wp2
  exact bodyPost_ret (v := .agg #[.int .i64 N, .int .i64 D, .int .i64 E]) (by simp [results, Tryz.results14, k4, k5, k6, go_sem]) rfl ⟨rfl, (((((((((Below.refl _ _).alloc (by first | exact Nat.le_refl _ | (simp; done) | (simp; omega) | omega | (simp [World.drewN]; omega)) _).alloc (by first | exact Nat.le_refl _ | (simp; done) | (simp; omega) | omega | (simp [World.drewN]; omega)) _).alloc (by first | exact Nat.le_refl _ | (simp; done) | (simp; omega) | omega | (simp [World.drewN]; omega)) _).trans (HP.out.mono (by first | exact Nat.le_refl _ | (simp; done) | (simp; omega) | omega | (simp [World.drewN]; omega)))).alloc (by first | exact Nat.le_refl _ | (simp; done) | (simp; omega) | omega | (simp [World.drewN]; omega)) _).setCell (by first | exact Nat.le_refl _ | (simp; done) | (simp; omega) | omega | (simp [World.drewN]; omega)) _).setCell (by first | exact Nat.le_refl _ | (simp; done) | (simp; omega) | omega | (simp [World.drewN]; omega)) _).setCell (by first | exact Nat.le_refl _ | (simp; done) | (simp; omega) | omega | (simp [World.drewN]; omega)) _)⟩

set_option maxHeartbeats 1000000 in
theorem div_law (aN aD bN bD : Int) (N D E : Int) (C : ∀ w : World, Calls Tryz.prog 42 #[.agg #[.int .i64 aN, .int .i64 aD], .agg #[.int .i64 bN, .int .i64 bD]] w fun e w' => e = .returned (.tuple #[.agg #[.int .i64 N, .int .i64 D], .int .i64 E]) ∧ Below w.heap.size w w') (w : World) :
    Calls Tryz.prog 16 #[.agg #[.int .i64 aN, .int .i64 aD], .agg #[.int .i64 bN, .int .i64 bD]] w fun e w' => e = .returned (.agg #[.int .i64 N, .int .i64 D, .int .i64 E]) ∧ Below w.heap.size w w' := by
  have C := hid C
  go_enter Tryz.func16, Tryz.ntmps16
  go_wp2_with fail
  refine (C.out _).mono ?_
  rintro e w1 ⟨rfl, hb⟩
  have hzP : w.heap.size + 3 ≤ w1.heap.size := by have := hb.size; simp at this; omega
  have P0 : ∀ W, Below w1.heap.size w1 W → W.cell? ⟨w.heap.size, 0, none⟩ = some (.int .i64 aN) ∧ W.cell? ⟨w.heap.size, 1, none⟩ = some (.int .i64 aD) ∧ W.cell? ⟨w.heap.size + 1, 0, none⟩ = some (.int .i64 bN) ∧ W.cell? ⟨w.heap.size + 1, 1, none⟩ = some (.int .i64 bD) ∧ W.cell? ⟨w.heap.size + 1 + 1, 0, none⟩ = some (.int .i64 0) ∧ W.cell? ⟨w.heap.size + 1 + 1, 1, none⟩ = some (.int .i64 0) ∧ W.cell? ⟨w.heap.size + 1 + 1, 2, none⟩ = some (.int .i64 0) ∧ W.frozen? ⟨w.heap.size + 1 + 1, 0, none⟩ = false ∧ W.frozen? ⟨w.heap.size + 1 + 1, 1, none⟩ = false ∧ W.frozen? ⟨w.heap.size + 1 + 1, 2, none⟩ = false ∧ w1.heap.size ≤ W.heap.size := by
    intro W hW
    exact ⟨cell_below hW (cell_below hb (by simp [go_sem])), cell_below hW (cell_below hb (by simp [go_sem])), cell_below hW (cell_below hb (by simp [go_sem])), cell_below hW (cell_below hb (by simp [go_sem])), cell_below hW (cell_below hb (by simp [go_sem])), cell_below hW (cell_below hb (by simp [go_sem])), cell_below hW (cell_below hb (by simp [go_sem])), (hW.frozen (p := ⟨w.heap.size + 1 + 1, 0, none⟩) (by simp; omega)).trans ((hb.frozen (p := ⟨w.heap.size + 1 + 1, 0, none⟩) (by first | (simp; done) | (simp; omega))).trans (by simp [go_sem])), (hW.frozen (p := ⟨w.heap.size + 1 + 1, 1, none⟩) (by simp; omega)).trans ((hb.frozen (p := ⟨w.heap.size + 1 + 1, 1, none⟩) (by first | (simp; done) | (simp; omega))).trans (by simp [go_sem])), (hW.frozen (p := ⟨w.heap.size + 1 + 1, 2, none⟩) (by simp; omega)).trans ((hb.frozen (p := ⟨w.heap.size + 1 + 1, 2, none⟩) (by first | (simp; done) | (simp; omega))).trans (by simp [go_sem])), hW.size⟩
  have P := hid P0
  clear P0
  have HP := hid hb
  clear hb
  have K := fun o => P.out (w1.alloc o) (below_a (Below.refl _ _) o)
  have k4 := fun o => (K o).2.2.2.2.1
  have k5 := fun o => (K o).2.2.2.2.2.1
  have k6 := fun o => (K o).2.2.2.2.2.2.1
  have k7 := fun o => (K o).2.2.2.2.2.2.2.1
  have k8 := fun o => (K o).2.2.2.2.2.2.2.2.1
  have k9 := fun o => (K o).2.2.2.2.2.2.2.2.2.1
  clear K
  go_wp2
  exact bodyPost_ret (v := .agg #[.int .i64 N, .int .i64 D, .int .i64 E]) (by simp [results, Tryz.results16, k4, k5, k6, go_sem]) rfl ⟨rfl, (((((((((Below.refl _ _).alloc (by first | exact Nat.le_refl _ | (simp; done) | (simp; omega) | omega | (simp [World.drewN]; omega)) _).alloc (by first | exact Nat.le_refl _ | (simp; done) | (simp; omega) | omega | (simp [World.drewN]; omega)) _).alloc (by first | exact Nat.le_refl _ | (simp; done) | (simp; omega) | omega | (simp [World.drewN]; omega)) _).trans (HP.out.mono (by first | exact Nat.le_refl _ | (simp; done) | (simp; omega) | omega | (simp [World.drewN]; omega)))).alloc (by first | exact Nat.le_refl _ | (simp; done) | (simp; omega) | omega | (simp [World.drewN]; omega)) _).setCell (by first | exact Nat.le_refl _ | (simp; done) | (simp; omega) | omega | (simp [World.drewN]; omega)) _).setCell (by first | exact Nat.le_refl _ | (simp; done) | (simp; omega) | omega | (simp [World.drewN]; omega)) _).setCell (by first | exact Nat.le_refl _ | (simp; done) | (simp; omega) | omega | (simp [World.drewN]; omega)) _)⟩

set_option maxHeartbeats 1000000 in
theorem total_law (s : Value) (N D E : Int) (C : ∀ w : World, Calls Tryz.prog 45 #[s] w fun e w' => e = .returned (.tuple #[.agg #[.int .i64 N, .int .i64 D], .int .i64 E]) ∧ Below w.heap.size w w') (w : World) :
    Calls Tryz.prog 20 #[s] w fun e w' => e = .returned (.agg #[.int .i64 N, .int .i64 D, .int .i64 E]) ∧ Below w.heap.size w w' := by
  have C := hid C
  go_enter Tryz.func20, Tryz.ntmps20
  go_wp2_with fail
  refine (C.out _).mono ?_
  rintro e w1 ⟨rfl, hb⟩
  have hzP : w.heap.size + 1 ≤ w1.heap.size := by have := hb.size; simp at this; omega
  have P0 : ∀ W, Below w1.heap.size w1 W → W.cell? ⟨w.heap.size, 0, none⟩ = some (.int .i64 0) ∧ W.cell? ⟨w.heap.size, 1, none⟩ = some (.int .i64 0) ∧ W.cell? ⟨w.heap.size, 2, none⟩ = some (.int .i64 0) ∧ W.frozen? ⟨w.heap.size, 0, none⟩ = false ∧ W.frozen? ⟨w.heap.size, 1, none⟩ = false ∧ W.frozen? ⟨w.heap.size, 2, none⟩ = false ∧ w1.heap.size ≤ W.heap.size := by
    intro W hW
    exact ⟨cell_below hW (cell_below hb (by simp [go_sem])), cell_below hW (cell_below hb (by simp [go_sem])), cell_below hW (cell_below hb (by simp [go_sem])), (hW.frozen (p := ⟨w.heap.size, 0, none⟩) (by simp; omega)).trans ((hb.frozen (p := ⟨w.heap.size, 0, none⟩) (by first | (simp; done) | (simp; omega))).trans (by simp [go_sem])), (hW.frozen (p := ⟨w.heap.size, 1, none⟩) (by simp; omega)).trans ((hb.frozen (p := ⟨w.heap.size, 1, none⟩) (by first | (simp; done) | (simp; omega))).trans (by simp [go_sem])), (hW.frozen (p := ⟨w.heap.size, 2, none⟩) (by simp; omega)).trans ((hb.frozen (p := ⟨w.heap.size, 2, none⟩) (by first | (simp; done) | (simp; omega))).trans (by simp [go_sem])), hW.size⟩
  have P := hid P0
  clear P0
  have HP := hid hb
  clear hb
  have K := fun o => P.out (w1.alloc o) (below_a (Below.refl _ _) o)
  have k0 := fun o => (K o).1
  have k1 := fun o => (K o).2.1
  have k2 := fun o => (K o).2.2.1
  have k3 := fun o => (K o).2.2.2.1
  have k4 := fun o => (K o).2.2.2.2.1
  have k5 := fun o => (K o).2.2.2.2.2.1
  clear K
  go_wp2
  exact bodyPost_ret (v := .agg #[.int .i64 N, .int .i64 D, .int .i64 E]) (by simp [results, Tryz.results20, k0, k1, k2, go_sem]) rfl ⟨rfl, (((((((Below.refl _ _).alloc (by first | exact Nat.le_refl _ | (simp; done) | (simp; omega) | omega | (simp [World.drewN]; omega)) _).trans (HP.out.mono (by first | exact Nat.le_refl _ | (simp; done) | (simp; omega) | omega | (simp [World.drewN]; omega)))).alloc (by first | exact Nat.le_refl _ | (simp; done) | (simp; omega) | omega | (simp [World.drewN]; omega)) _).setCell (by first | exact Nat.le_refl _ | (simp; done) | (simp; omega) | omega | (simp [World.drewN]; omega)) _).setCell (by first | exact Nat.le_refl _ | (simp; done) | (simp; omega) | omega | (simp [World.drewN]; omega)) _).setCell (by first | exact Nat.le_refl _ | (simp; done) | (simp; omega) | omega | (simp [World.drewN]; omega)) _)⟩

set_option maxHeartbeats 1000000 in
theorem parsed_law (s : ByteArray) (N D E : Int) (C : ∀ w : World, Calls Tryz.prog 48 #[.string s] w fun e w' => e = .returned (.tuple #[.agg #[.int .i64 N, .int .i64 D], .int .i64 E]) ∧ Below w.heap.size w w') (w : World) :
    Calls Tryz.prog 28 #[.string s] w fun e w' => e = .returned (.agg #[.int .i64 N, .int .i64 D, .int .i64 E]) ∧ Below w.heap.size w w' := by
  have C := hid C
  go_enter Tryz.func28, Tryz.ntmps28
  go_wp2_with fail
  refine (C.out _).mono ?_
  rintro e w1 ⟨rfl, hb⟩
  have hzP : w.heap.size + 1 ≤ w1.heap.size := by have := hb.size; simp at this; omega
  have P0 : ∀ W, Below w1.heap.size w1 W → W.cell? ⟨w.heap.size, 0, none⟩ = some (.int .i64 0) ∧ W.cell? ⟨w.heap.size, 1, none⟩ = some (.int .i64 0) ∧ W.cell? ⟨w.heap.size, 2, none⟩ = some (.int .i64 0) ∧ W.frozen? ⟨w.heap.size, 0, none⟩ = false ∧ W.frozen? ⟨w.heap.size, 1, none⟩ = false ∧ W.frozen? ⟨w.heap.size, 2, none⟩ = false ∧ w1.heap.size ≤ W.heap.size := by
    intro W hW
    exact ⟨cell_below hW (cell_below hb (by simp [go_sem])), cell_below hW (cell_below hb (by simp [go_sem])), cell_below hW (cell_below hb (by simp [go_sem])), (hW.frozen (p := ⟨w.heap.size, 0, none⟩) (by simp; omega)).trans ((hb.frozen (p := ⟨w.heap.size, 0, none⟩) (by first | (simp; done) | (simp; omega))).trans (by simp [go_sem])), (hW.frozen (p := ⟨w.heap.size, 1, none⟩) (by simp; omega)).trans ((hb.frozen (p := ⟨w.heap.size, 1, none⟩) (by first | (simp; done) | (simp; omega))).trans (by simp [go_sem])), (hW.frozen (p := ⟨w.heap.size, 2, none⟩) (by simp; omega)).trans ((hb.frozen (p := ⟨w.heap.size, 2, none⟩) (by first | (simp; done) | (simp; omega))).trans (by simp [go_sem])), hW.size⟩
  have P := hid P0
  clear P0
  have HP := hid hb
  clear hb
  have K := fun o => P.out (w1.alloc o) (below_a (Below.refl _ _) o)
  have k0 := fun o => (K o).1
  have k1 := fun o => (K o).2.1
  have k2 := fun o => (K o).2.2.1
  have k3 := fun o => (K o).2.2.2.1
  have k4 := fun o => (K o).2.2.2.2.1
  have k5 := fun o => (K o).2.2.2.2.2.1
  clear K
  go_wp2
  exact bodyPost_ret (v := .agg #[.int .i64 N, .int .i64 D, .int .i64 E]) (by simp [results, Tryz.results28, k0, k1, k2, go_sem]) rfl ⟨rfl, (((((((Below.refl _ _).alloc (by first | exact Nat.le_refl _ | (simp; done) | (simp; omega) | omega | (simp [World.drewN]; omega)) _).trans (HP.out.mono (by first | exact Nat.le_refl _ | (simp; done) | (simp; omega) | omega | (simp [World.drewN]; omega)))).alloc (by first | exact Nat.le_refl _ | (simp; done) | (simp; omega) | omega | (simp [World.drewN]; omega)) _).setCell (by first | exact Nat.le_refl _ | (simp; done) | (simp; omega) | omega | (simp [World.drewN]; omega)) _).setCell (by first | exact Nat.le_refl _ | (simp; done) | (simp; omega) | omega | (simp [World.drewN]; omega)) _).setCell (by first | exact Nat.le_refl _ | (simp; done) | (simp; omega) | omega | (simp [World.drewN]; omega)) _)⟩

set_option maxHeartbeats 1000000 in
theorem is_any (n d : Int) (w : World) :
    Calls Tryz.prog 27 #[.int .i64 n, .int .i64 d] w fun e w' => e = .returned (.agg #[.int .i64 n, .int .i64 d, .int .i64 0]) ∧ Below w.heap.size w w' := by
  go_enter Tryz.func27, Tryz.ntmps27
  go_wp2
  exact bodyPost_ret (v := .agg #[.int .i64 n, .int .i64 d, .int .i64 0]) (by simp [results, Tryz.results27, go_sem]) rfl ⟨rfl, by repeat (first | exact Below.refl _ _ | refine Below.setCell ?_ (by first | exact Nat.le_refl _ | (simp; done) | (simp; omega) | omega | (simp [World.drewN]; omega)) _ | refine Below.alloc ?_ (by first | exact Nat.le_refl _ | (simp; done) | (simp; omega) | omega | (simp [World.drewN]; omega)) _)⟩

theorem most_any (w : World) : Calls Tryz.prog 26 #[] w fun e w' => e = .returned (.int .i64 4611686018427387904) ∧ w' = w := by
  go_enter Tryz.func26, Tryz.ntmps26
  go_wp2
  go_ret
  exact ⟨rfl, rfl⟩
theorem size_any (n : Int) (h : -9223372036854775807 ≤ n) (h1 : n ≤ 9223372036854775807) (w : World) :
    Calls Tryz.prog 31 #[.int .i64 n] w fun e w' => e = .returned (.int .i64 (n.natAbs : Int)) ∧ w' = w := by
  by_cases hn : n < 0
  · have e1 : -n = (n.natAbs : Int) := by omega
    go_enter Tryz.func31, Tryz.ntmps31
    go_wp2
    go_ret
    exact ⟨rfl, rfl⟩
  · have e1 : (n.natAbs : Int) = n := by omega
    rw [e1]
    go_enter Tryz.func31, Tryz.ntmps31
    go_wp2
    go_ret
    exact ⟨rfl, rfl⟩
end Go.Proofs.YtffcnkkgbhhfnaaGreatDoor


import Derived.Test.YtffcnkkgbhhfnaaGreatDoorRs
namespace Go.Proofs.YtffcnkkgbhhfnaaGreatDoor
open Go.RowKit Go.Instr
set_option linter.unusedVariables false

def nN (n d : Int) : Int := if d = 0 then 0 else numR (Rat.divInt n d)
def nD (n d : Int) : Int := if d = 0 then 0 else denR (Rat.divInt n d)
def nE (n d : Int) : Int := if d = 0 then 20 else errR (Rat.divInt n d)
theorem newV_eq (n d : Int) : newV n d = .tuple #[.agg #[.int .i64 (nN n d), .int .i64 (nD n d)], .int .i64 (nE n d)] := by
  unfold newV nN nD nE; split <;> rfl

set_option maxHeartbeats 1000000 in
theorem newin_zero (n : Int) (w : World) :
    Calls Tryz.prog 6 #[.int .i64 n, .int .i64 0] w fun e w' => e = .returned (.agg #[.int .i64 0, .int .i64 0, .int .i64 20]) ∧ Below w.heap.size w w' := by
  go_enter Tryz.func6, Tryz.ntmps6
  go_wp2
  exact bodyPost_ret (v := .agg #[.int .i64 0, .int .i64 0, .int .i64 20]) (by simp [results, Tryz.results6, go_sem]) rfl ⟨rfl, by repeat (first | exact Below.refl _ _ | refine Below.setCell ?_ (by first | exact Nat.le_refl _ | (simp; done) | (simp; omega) | omega | (simp [World.drewN]; omega)) _ | refine Below.alloc ?_ (by first | exact Nat.le_refl _ | (simp; done) | (simp; omega) | omega | (simp [World.drewN]; omega)) _)⟩
theorem newin_any (n d : Int) (h1 : I64 n) (h2 : I64 d) (w : World) :
    Calls Tryz.prog 6 #[.int .i64 n, .int .i64 d] w fun e w' => e = .returned (.agg #[.int .i64 (nN n d), .int .i64 (nD n d), .int .i64 (nE n d)]) ∧ Below w.heap.size w w' := by
  unfold nN nD nE
  by_cases hd : d = 0
  · rw [if_pos hd, if_pos hd, if_pos hd]; subst hd; exact newin_zero n w
  · rw [if_neg hd, if_neg hd, if_neg hd]; exact newin_some n d h1 h2 hd w

theorem nE_zero {n d : Int} (h : nE n d = 0) : Fr (nN n d) (nD n d) := by
  unfold nE at h
  unfold nN nD
  split at h
  · omega
  · rename_i hd
    rw [if_neg hd, if_neg hd]
    have : okR (Rat.divInt n d) = true := by
      unfold errR at h
      split at h
      · assumption
      · omega
    exact (okR_fr this).1
theorem nE_num0 (d : Int) (hd : d ≠ 0) : nE 0 d = 0 := by
  unfold nE; rw [if_neg hd, show Rat.divInt 0 d = 0 by simp]; decide +kernel

def msr (n d : Int) : Nat := n.natAbs + (if d = 0 then 1 else 0)
theorem set3_other {W : World} {v : Value} (B m o : Nat) (x y z : Value) (h : B ≠ m) (hc : W.cell? ⟨m, o, none⟩ = some v) : (((W.setCell ⟨B, 0, none⟩ x).setCell ⟨B, 1, none⟩ y).setCell ⟨B, 2, none⟩ z).cell? ⟨m, o, none⟩ = some v :=
  ((World.cell?_setCell_other _ _ _ _ (fun h' => h (congrArg Addr.block h'))).trans ((World.cell?_setCell_other _ _ _ _ (fun h' => h (congrArg Addr.block h'))).trans (World.cell?_setCell_other _ _ _ _ (fun h' => h (congrArg Addr.block h'))))).trans hc
def SomeFr (w : World) (e : Ending) (w' : World) : Prop := ∃ N D : Int, Fr N D ∧ e = .returned (.agg #[.int .i64 N, .int .i64 D]) ∧ Below w.heap.size w w'

set_option maxHeartbeats 4000000 in
theorem made_any (n d : Int) (h1 : I64 n) (h2 : I64 d) (w : World) : Calls Tryz.prog 9 #[.int .i64 n, .int .i64 d] w (SomeFr w) := by
  have H1 := hid h1
  have H2 := hid h2
  have C := hid (fun w => newin_any n d h1 h2 w)
  clear h1 h2
  go_enter Tryz.func9, Tryz.ntmps9
  go_wp2_with fail
  refine (C.out _).mono ?_
  rintro e w1 ⟨rfl, hb⟩
  have hzP : w.heap.size + 1 ≤ w1.heap.size := by have := hb.size; simp at this; omega
  have P0 : ∀ W, Below w1.heap.size w1 W → W.cell? ⟨w.heap.size, 0, none⟩ = some (.int .i64 0) ∧ W.cell? ⟨w.heap.size, 1, none⟩ = some (.int .i64 0) ∧ W.frozen? ⟨w.heap.size, 0, none⟩ = false ∧ W.frozen? ⟨w.heap.size, 1, none⟩ = false ∧ w1.heap.size ≤ W.heap.size := by
    intro W hW
    exact ⟨cell_below hW (cell_below hb (by simp [go_sem])), cell_below hW (cell_below hb (by simp [go_sem])), (hW.frozen (p := ⟨w.heap.size, 0, none⟩) (by simp; omega)).trans ((hb.frozen (p := ⟨w.heap.size, 0, none⟩) (by first | (simp; done) | (simp; omega))).trans (by simp [go_sem])), (hW.frozen (p := ⟨w.heap.size, 1, none⟩) (by simp; omega)).trans ((hb.frozen (p := ⟨w.heap.size, 1, none⟩) (by first | (simp; done) | (simp; omega))).trans (by simp [go_sem])), hW.size⟩
  have P := hid P0
  clear P0
  have HP := hid hb
  clear hb
  have hz : w.heap.size < w1.heap.size := by omega
  go_wp2_with fail
  go_loopw [0, 1] (fun s0 s1 wr => ∃ n d : Int, s0 = .int .i64 n ∧ s1 = .int .i64 d ∧ I64 n ∧ I64 d ∧ wr.cell? ⟨w1.heap.size, 0, none⟩ = some (.int .i64 (nN n d)) ∧ wr.cell? ⟨w1.heap.size, 1, none⟩ = some (.int .i64 (nD n d)) ∧ wr.cell? ⟨w1.heap.size, 2, none⟩ = some (.int .i64 (nE n d)) ∧ wr.frozen? ⟨w1.heap.size, 0, none⟩ = false ∧ wr.frozen? ⟨w1.heap.size, 1, none⟩ = false ∧ wr.frozen? ⟨w1.heap.size, 2, none⟩ = false ∧ wr.cell? ⟨w.heap.size, 0, none⟩ = some (.int .i64 0) ∧ wr.cell? ⟨w.heap.size, 1, none⟩ = some (.int .i64 0) ∧ wr.frozen? ⟨w.heap.size, 0, none⟩ = false ∧ wr.frozen? ⟨w.heap.size, 1, none⟩ = false ∧ w1.heap.size < wr.heap.size ∧ Below w.heap.size w wr) (fun s0 s1 _ => msr (intOf s0) (intOf s1))
  case atStart =>
    obtain ⟨p0, p1, p2, p3, zp⟩ := P.out _ (below_a (Below.refl _ _) (.cells #[.int .i64 (nN n d), .int .i64 (nD n d), .int .i64 (nE n d)] 28))
    exact ⟨n, d, rfl, rfl, H1.out, H2.out, by simp [go_sem], by simp [go_sem], by simp [go_sem], by simp [go_sem], by simp [go_sem], by simp [go_sem], p0, p1, p2, p3, by simp, ((((Below.refl _ _).alloc (by first | exact Nat.le_refl _ | (simp; done) | (simp; omega) | omega | (simp [World.drewN]; omega)) _).trans (HP.out.mono (by first | exact Nat.le_refl _ | (simp; done) | (simp; omega) | omega | (simp [World.drewN]; omega)))).alloc (by first | exact Nat.le_refl _ | (simp; done) | (simp; omega) | omega | (simp [World.drewN]; omega)) _)⟩
  case round =>
    obtain ⟨n, d, rfl, rfl, h1, h2, r0, r1, r2, r3, r4, r5, r6, r7, r8, r9, rz, rb⟩ := hrel
    by_cases hE : nE n d = 0
    · have HF := hid (nE_zero hE)
      have e1 : (nE n d == 0) = true := by simpa using hE
      rw [hE] at r2
      have RB := hid rb
      clear h1 h2 hE rb
      go_wp2
      exact bodyPost_ret (v := .agg #[.int .i64 (nN n d), .int .i64 (nD n d)]) (by simp [results, Tryz.results9, r6, r7, go_sem]) rfl ⟨_, _, HF.out, rfl, ((RB.out.setCell (by first | exact Nat.le_refl _ | (simp; done) | (simp; omega) | omega | (simp [World.drewN]; omega)) _).setCell (by first | exact Nat.le_refl _ | (simp; done) | (simp; omega) | omega | (simp [World.drewN]; omega)) _)⟩
    · have e1 : (nE n d == 0) = false := by simpa using hE
      have hn0 : d ≠ 0 → n ≠ 0 := by
        rintro hd rfl
        exact hE (nE_num0 d hd)
      obtain ⟨q, hq⟩ : ∃ q, n.tdiv 2 = q := ⟨_, rfl⟩
      have hqa : q.natAbs = n.natAbs / 2 := by rw [← hq, Int.natAbs_tdiv]; rfl
      obtain ⟨p, hp⟩ : ∃ q, d.tdiv 2 = q := ⟨_, rfl⟩
      have hpa : p.natAbs = d.natAbs / 2 := by rw [← hp, Int.natAbs_tdiv]; rfl
      have h1' := h1
      have h2' := h2
      unfold I64 at h1' h2'
      have iq : I64 q := by unfold I64; omega
      have ip : I64 p := by unfold I64; omega
      have b1 : -9223372036854775808 ≤ q := iq.1
      have b2 : q ≤ 9223372036854775807 := iq.2
      have b3 : -9223372036854775808 ≤ p := ip.1
      have b4 : p ≤ 9223372036854775807 := ip.2
      obtain ⟨E, hEE⟩ : ∃ E, nE n d = E := ⟨_, rfl⟩
      rw [hEE] at r2 e1
      have HR := hid (show _ ∧ _ from ⟨rb, rz⟩)
      clear h1 h2 h1' h2' hE hEE rb
      by_cases hp0 : p = 0
      · have C2 := hid (fun w => newin_any q 1 iq (by unfold I64; omega) w)
        have MS := hid (show msr q 1 < msr n d by
          unfold msr
          rw [if_neg (by omega)]
          split
          · omega
          · rename_i h; have := hn0 h; omega)
        have IQ := hid iq
        have e2 : (p == 0) = true := by simpa using hp0
        clear hp0 hn0 hqa hpa iq ip
        go_wp2_with fail
        refine (C2.out _).mono ?_
        rintro e w2 ⟨rfl, hy⟩
        have t0 := cell_below hy r0
        have t1 := cell_below hy r1
        have t2 := cell_below hy r2
        have t3 := (hy.frozen (p := ⟨w1.heap.size, 0, none⟩) rz).trans r3
        have t4 := (hy.frozen (p := ⟨w1.heap.size, 1, none⟩) rz).trans r4
        have t5 := (hy.frozen (p := ⟨w1.heap.size, 2, none⟩) rz).trans r5
        have t6 := cell_below hy r6
        have t7 := cell_below hy r7
        have t8 := (hy.frozen (p := ⟨w.heap.size, 0, none⟩) (by simp; omega)).trans r8
        have t9 := (hy.frozen (p := ⟨w.heap.size, 1, none⟩) (by simp; omega)).trans r9
        have tz := hy.size
        have HY := hid hy
        clear hy r0 r1 r2 r3 r4 r5 r6 r7 r8 r9
        go_wp2
        go_roundw
        case rel =>
          exact ⟨q, 1, rfl, rfl, IQ.out, by unfold I64; omega, by simp [go_sem, t0], by simp [go_sem, t1], by simp [go_sem, t2], by simp [go_sem, t3], by simp [go_sem, t4], by simp [go_sem, t5],
            set3_other _ _ _ _ _ _ (by omega) t6, set3_other _ _ _ _ _ _ (by omega) t7, by simp [go_sem, t8], by simp [go_sem, t9], by simp; omega, ((((HR.out.1.trans (HY.out.mono HR.out.1.size)).setCell (by first | exact Nat.le_refl _ | (simp; done) | (simp; omega) | omega | (simp [World.drewN]; omega)) _).setCell (by first | exact Nat.le_refl _ | (simp; done) | (simp; omega) | omega | (simp [World.drewN]; omega)) _).setCell (by first | exact Nat.le_refl _ | (simp; done) | (simp; omega) | omega | (simp [World.drewN]; omega)) _)⟩
        case measure => exact MS.out

      · have C2 := hid (fun w => newin_any q p iq ip w)
        have MS := hid (show msr q p < msr n d by
          unfold msr
          rw [if_neg hp0]
          split
          · rename_i h; subst h; simp at hpa; omega
          · rename_i h; have := hn0 h; omega)
        have IQ := hid iq
        have IP := hid ip
        have e2 : (p == 0) = false := by simpa using hp0
        clear hp0 hn0 hqa hpa iq ip
        go_wp2_with fail
        refine (C2.out _).mono ?_
        rintro e w2 ⟨rfl, hy⟩
        have t0 := cell_below hy r0
        have t1 := cell_below hy r1
        have t2 := cell_below hy r2
        have t3 := (hy.frozen (p := ⟨w1.heap.size, 0, none⟩) rz).trans r3
        have t4 := (hy.frozen (p := ⟨w1.heap.size, 1, none⟩) rz).trans r4
        have t5 := (hy.frozen (p := ⟨w1.heap.size, 2, none⟩) rz).trans r5
        have t6 := cell_below hy r6
        have t7 := cell_below hy r7
        have t8 := (hy.frozen (p := ⟨w.heap.size, 0, none⟩) (by simp; omega)).trans r8
        have t9 := (hy.frozen (p := ⟨w.heap.size, 1, none⟩) (by simp; omega)).trans r9
        have tz := hy.size
        have HY := hid hy
        clear hy r0 r1 r2 r3 r4 r5 r6 r7 r8 r9
        go_wp2
        go_roundw
        case rel =>
          exact ⟨q, p, rfl, rfl, IQ.out, IP.out, by simp [go_sem, t0], by simp [go_sem, t1], by simp [go_sem, t2], by simp [go_sem, t3], by simp [go_sem, t4], by simp [go_sem, t5],
            set3_other _ _ _ _ _ _ (by omega) t6, set3_other _ _ _ _ _ _ (by omega) t7, by simp [go_sem, t8], by simp [go_sem, t9], by simp; omega, ((((HR.out.1.trans (HY.out.mono HR.out.1.size)).setCell (by first | exact Nat.le_refl _ | (simp; done) | (simp; omega) | omega | (simp [World.drewN]; omega)) _).setCell (by first | exact Nat.le_refl _ | (simp; done) | (simp; omega) | omega | (simp [World.drewN]; omega)) _).setCell (by first | exact Nat.le_refl _ | (simp; done) | (simp; omega) | omega | (simp [World.drewN]; omega)) _)⟩
        case measure => exact MS.out

end Go.Proofs.YtffcnkkgbhhfnaaGreatDoor


import Derived.Test.YtffcnkkgbhhfnaaGreatDoorRh
namespace Go.Proofs.YtffcnkkgbhhfnaaGreatDoor
open Go.RowKit Go.Instr
set_option linter.unusedVariables false

/-! 'rat.Mul' and 'rat.Add': a fraction in lowest terms, or the error that it does not fit. -/
theorem res_ok {r : Rat} {n d : Int} (hn : r.num = n) (hd : (r.den : Int) = d) :
    (if decide (n.natAbs ≤ 4611686018427387904) && decide (d.natAbs ≤ 4611686018427387904) then (.tuple #[.agg #[.int .i64 n, .int .i64 d], .int .i64 0] : Value) else .tuple #[.agg #[.int .i64 0, .int .i64 0], .int .i64 2]) =
      .tuple #[.agg #[.int .i64 (numR r), .int .i64 (denR r)], .int .i64 (errR r)] := by
  have e : okR r = (decide (n.natAbs ≤ 4611686018427387904) && decide (d.natAbs ≤ 4611686018427387904)) := by
    unfold okR
    rw [hn, ← hd]
    rfl
  unfold numR denR errR
  rw [e]
  split
  · rename_i h; rw [hn, hd]
  · rfl

theorem fraction_any (n d : Int) (hn : n.natAbs ≤ 85070591730234615865843651857942052864) (hd : d.natAbs ≤ 85070591730234615865843651857942052864) (h0 : d ≠ 0) (hc : Nat.gcd n.natAbs d.natAbs = 1) (w : World) :
    Calls Tryz.prog 53 #[.agg #[.int .u64 (hiW n), .int .u64 (loW n)], .agg #[.int .u64 (hiW d), .int .u64 (loW d)]] w fun e w' =>
      e = .returned (.tuple #[.agg #[.int .i64 (numR (Rat.divInt n d)), .int .i64 (denR (Rat.divInt n d))], .int .i64 (errR (Rat.divInt n d))]) ∧ Below w.heap.size w w' := by
  by_cases h : d < 0
  · obtain ⟨l1, l2⟩ := low_neg h hc
    have k := fraction_neg n d hn hd h w
    have e := res_ok l1 l2
    rw [show (-n).natAbs = n.natAbs by omega, show (-d).natAbs = d.natAbs by omega] at e
    rw [e] at k
    exact k
  · obtain ⟨l1, l2⟩ := low_pos (show 0 < d by omega) hc
    have k := fraction_pos n d hn hd (by omega) w
    have e := res_ok l1 l2
    rw [e] at k
    exact k

theorem gcd2 (a b : Int) : gcdL [a, b] = Nat.gcd a.natAbs b.natAbs := by simp [gcdL]
theorem gcd3 (a b c : Int) : gcdL [a, b, c] = Nat.gcd (Nat.gcd a.natAbs b.natAbs) c.natAbs := by simp [gcdL]
theorem tdiv_le (v : Int) (g : Nat) (B : Nat) (h : v.natAbs ≤ B) : (v.tdiv g).natAbs ≤ B := Nat.le_trans (Int.natAbs_tdiv_le_natAbs v g) h

set_option maxHeartbeats 4000000 in
theorem mul_any (aN aD bN bD : Int) (h1 : I64 aN) (h2 : I64 aD) (h3 : I64 bN) (h4 : I64 bD) (ha : aD ≠ 0) (hb0 : bD ≠ 0) (ca : Nat.gcd aN.natAbs aD.natAbs = 1) (cb : Nat.gcd bN.natAbs bD.natAbs = 1) (w : World) :
    Calls Tryz.prog 41 #[.agg #[.int .i64 aN, .int .i64 aD], .agg #[.int .i64 bN, .int .i64 bD]] w fun e w' =>
      e = .returned (.tuple #[.agg #[.int .i64 (numR (Rat.divInt aN aD * Rat.divInt bN bD)), .int .i64 (denR (Rat.divInt aN aD * Rat.divInt bN bD))], .int .i64 (errR (Rat.divInt aN aD * Rat.divInt bN bD))]) ∧ Below w.heap.size w w' := by
  have x1 : (aD == 0) = false := by simpa using ha
  have x2 : (bD == 0) = false := by simpa using hb0
  obtain ⟨g, hg⟩ : ∃ g, g = Nat.gcd aN.natAbs bD.natAbs := ⟨_, rfl⟩
  obtain ⟨h, hh⟩ : ∃ h, h = Nat.gcd bN.natAbs aD.natAbs := ⟨_, rfl⟩
  obtain ⟨m1, m2, m3, m4, m5⟩ := mul_low aN aD bN bD ha hb0 ca cb g h hg hh
  have G1 := hid (fun (l : List Int) (hl : l = [aN, bD]) b w (hr : rowAt w l b 0) => gcd_any l b 0 2 w (by rw [hl]; simp) (by rw [hl]; simp) hr (by rw [hl]; intro n hn; simp at hn; rcases hn with rfl | rfl; exact h1; exact h4))
  have G2 := hid (fun (l : List Int) (hl : l = [bN, aD]) b w (hr : rowAt w l b 0) => gcd_any l b 0 2 w (by rw [hl]; simp) (by rw [hl]; simp) hr (by rw [hl]; intro n hn; simp at hn; rcases hn with rfl | rfl; exact h3; exact h2))
  go_enter Tryz.func41, Tryz.ntmps41
  go_upto_region 3 with fail
  have hs := Below.refl (((w.alloc (.cells #[.int .i64 aN, .int .i64 aD] 25)).alloc (.cells #[.int .i64 bN, .int .i64 bD] 25)).alloc (.cells #[.int .i64 0, .int .i64 0] 25)).heap.size (((w.alloc (.cells #[.int .i64 aN, .int .i64 aD] 25)).alloc (.cells #[.int .i64 bN, .int .i64 bD] 25)).alloc (.cells #[.int .i64 0, .int .i64 0] 25))
  have hsd := hs.drew
  have a0 : (((w.alloc (.cells #[.int .i64 aN, .int .i64 aD] 25)).alloc (.cells #[.int .i64 bN, .int .i64 bD] 25)).alloc (.cells #[.int .i64 0, .int .i64 0] 25)).cell? ⟨w.heap.size, 0, none⟩ = some (.int .i64 aN) := by simp [go_sem]
  have a1 : (((w.alloc (.cells #[.int .i64 aN, .int .i64 aD] 25)).alloc (.cells #[.int .i64 bN, .int .i64 bD] 25)).alloc (.cells #[.int .i64 0, .int .i64 0] 25)).cell? ⟨w.heap.size, 1, none⟩ = some (.int .i64 aD) := by simp [go_sem]
  have a2 : (((w.alloc (.cells #[.int .i64 aN, .int .i64 aD] 25)).alloc (.cells #[.int .i64 bN, .int .i64 bD] 25)).alloc (.cells #[.int .i64 0, .int .i64 0] 25)).cell? ⟨w.heap.size + 1, 0, none⟩ = some (.int .i64 bN) := by simp [go_sem]
  have a3 : (((w.alloc (.cells #[.int .i64 aN, .int .i64 aD] 25)).alloc (.cells #[.int .i64 bN, .int .i64 bD] 25)).alloc (.cells #[.int .i64 0, .int .i64 0] 25)).cell? ⟨w.heap.size + 1, 1, none⟩ = some (.int .i64 bD) := by simp [go_sem]
  go_cut [6, 7] (fun s6 s7 wx => s6 = .int .u64 (g : Int) ∧ s7 = .int .u64 (h : Int) ∧ Below (((w.alloc (.cells #[.int .i64 aN, .int .i64 aD] 25)).alloc (.cells #[.int .i64 bN, .int .i64 bD] 25)).alloc (.cells #[.int .i64 0, .int .i64 0] 25)).heap.size (((w.alloc (.cells #[.int .i64 aN, .int .i64 aD] 25)).alloc (.cells #[.int .i64 bN, .int .i64 bD] 25)).alloc (.cells #[.int .i64 0, .int .i64 0] 25)) wx)
  case first =>
    go_region_held3 (fun W => W.cell? ⟨w.heap.size, 0, none⟩ = some (.int .i64 aN) ∧ W.cell? ⟨w.heap.size, 1, none⟩ = some (.int .i64 aD) ∧ W.cell? ⟨w.heap.size + 1, 0, none⟩ = some (.int .i64 bN) ∧ W.cell? ⟨w.heap.size + 1, 1, none⟩ = some (.int .i64 bD))
      (go_keep)
      (first
        | (go_at_call 49; refine (G1.out [aN, bD] rfl _ _ ?_).mono ?_; (intro i hi; rcases (show i = 0 ∨ i = 1 by simp at hi; omega) with rfl | rfl <;> (simp [go_sem]; done)); rintro e w5 ⟨rfl, k5, rfl⟩)
        | (go_at_call 49; refine (G2.out [bN, aD] rfl _ _ ?_).mono ?_; (intro i hi; rcases (show i = 0 ∨ i = 1 by simp at hi; omega) with rfl | rfl <;> (simp [go_sem]; done)); rintro e w6 ⟨rfl, k6, rfl⟩))
    all_goals
      go_wp2_with fail
      go_meet
      refine ⟨by rw [gcd2, hg], by rw [gcd2, hh], ?_⟩
      repeat (first | exact Below.refl _ _ | apply below_drewN | refine Below.alloc ?_ (by first | exact Nat.le_refl _ | (simp; done) | (simp; omega) | omega | (simp [World.drewN]; omega)) _)
  case rest =>
  clear hs hsd a0 a1 a2 a3 G1 G2
  have gle : g < 18446744073709551616 := by
    have := Nat.gcd_le_right aN.natAbs (show 0 < bD.natAbs by omega)
    unfold I64 at h4; omega
  have hle : h < 18446744073709551616 := by
    have := Nat.gcd_le_right bN.natAbs (show 0 < aD.natAbs by omega)
    unfold I64 at h2; omega
  have bn := mul_bd h1 h3
  have bd := mul_bd h2 h4
  have bn1 := tdiv_le _ g _ bn
  have bd1 := tdiv_le _ g _ bd
  have bn2 := tdiv_le _ h _ bn1
  have bd2 := tdiv_le _ h _ bd1
  have PN := hid (fun w => product_any aN bN h1 h3 w)
  have PD := hid (fun w => product_any aD bD h2 h4 w)
  have N1 := hid (fun w => over_any (aN * bN) g (by unfold Fit128; omega) m1 gle w)
  have N2 := hid (fun w => over_any ((aN * bN).tdiv g) h (by unfold Fit128; omega) m2 hle w)
  have D1 := hid (fun w => over_any (aD * bD) g (by unfold Fit128; omega) m1 gle w)
  have D2 := hid (fun w => over_any ((aD * bD).tdiv g) h (by unfold Fit128; omega) m2 hle w)
  have FR := hid (fun w => fraction_any _ _ bn2 bd2 m3 m4 w)
  rw [m5] at FR
  clear hg hh m1 m2 m3 m4 m5 gle hle bn bd bn1 bd1 bn2 bd2 ha hb0 ca cb h1 h2 h3 h4
  generalize ((aN * bN).tdiv g).tdiv h = n2 at *
  generalize ((aD * bD).tdiv g).tdiv h = d2 at *
  generalize (aN * bN).tdiv g = n1 at *
  generalize (aD * bD).tdiv g = d1 at *
  generalize aN * bN = n0 at *
  generalize aD * bD = d0 at *
  obtain ⟨rfl, rfl, hb⟩ := hcut
  have hzP : w.heap.size + 3 ≤ wc.heap.size := by have := hb.size; simp at this; omega
  have P0 : ∀ W, Below wc.heap.size wc W → W.cell? ⟨w.heap.size, 0, none⟩ = some (.int .i64 aN) ∧ W.cell? ⟨w.heap.size, 1, none⟩ = some (.int .i64 aD) ∧ W.cell? ⟨w.heap.size + 1, 0, none⟩ = some (.int .i64 bN) ∧ W.cell? ⟨w.heap.size + 1, 1, none⟩ = some (.int .i64 bD) ∧ W.cell? ⟨w.heap.size + 1 + 1, 0, none⟩ = some (.int .i64 0) ∧ W.cell? ⟨w.heap.size + 1 + 1, 1, none⟩ = some (.int .i64 0) ∧ W.frozen? ⟨w.heap.size + 1 + 1, 0, none⟩ = false ∧ W.frozen? ⟨w.heap.size + 1 + 1, 1, none⟩ = false ∧ wc.heap.size ≤ W.heap.size := by
    intro W hW
    exact ⟨cell_below hW (cell_below hb (by simp [go_sem])), cell_below hW (cell_below hb (by simp [go_sem])), cell_below hW (cell_below hb (by simp [go_sem])), cell_below hW (cell_below hb (by simp [go_sem])), cell_below hW (cell_below hb (by simp [go_sem])), cell_below hW (cell_below hb (by simp [go_sem])), (hW.frozen (p := ⟨w.heap.size + 1 + 1, 0, none⟩) (by simp; omega)).trans ((hb.frozen (p := ⟨w.heap.size + 1 + 1, 0, none⟩) (by first | (simp; done) | (simp; omega))).trans (by simp [go_sem])), (hW.frozen (p := ⟨w.heap.size + 1 + 1, 1, none⟩) (by simp; omega)).trans ((hb.frozen (p := ⟨w.heap.size + 1 + 1, 1, none⟩) (by first | (simp; done) | (simp; omega))).trans (by simp [go_sem])), hW.size⟩
  have P := hid P0
  clear P0
  have HP := hid hb
  clear hb
  obtain ⟨a0, a1, a2, a3, a4, a5, a6, a7, za⟩ := P.out wc (Below.refl _ _)
  go_wp2_with fail
  refine (PN.out _).mono ?_
  rintro e y1 ⟨rfl, hb⟩
  have B1 := hid (hb)
  clear hb
  clear a0 a1 a2 a3 a4 a5 a6 a7
  go_wp2_with fail
  refine (N1.out _).mono ?_
  rintro e y2 ⟨rfl, hb⟩
  have B2 := hid (below_step B1.out hb)
  clear hb
  go_wp2_with fail
  refine (N2.out _).mono ?_
  rintro e y3 ⟨rfl, hb⟩
  have B3 := hid (below_step B2.out hb)
  clear hb
  have l1 := fun o => (P.out _ (B3.out.alloc B3.out.size o)).2.1
  have l3 := fun o => (P.out _ (B3.out.alloc B3.out.size o)).2.2.2.1
  have A3 := hid (fun o => B3.out.alloc B3.out.size o)
  go_wp2_with fail
  refine (PD.out _).mono ?_
  rintro e y4 ⟨rfl, hb⟩
  have B4 := hid (hb)
  clear hb
  clear l1 l3
  go_wp2_with fail
  refine (D1.out _).mono ?_
  rintro e y5 ⟨rfl, hb⟩
  have B5 := hid (below_step B4.out hb)
  clear hb
  go_wp2_with fail
  refine (D2.out _).mono ?_
  rintro e y6 ⟨rfl, hb⟩
  have B6 := hid (below_step B5.out hb)
  clear hb
  have z3 : y3.heap.size < y6.heap.size := by have := B6.out.size; simp at this; omega
  have k0 := cell_below B6.out (x := .int .u64 (hiW n2)) (a := ⟨y3.heap.size, 0, none⟩) (by simp [go_sem])
  have k1 := cell_below B6.out (x := .int .u64 (loW n2)) (a := ⟨y3.heap.size, 1, none⟩) (by simp [go_sem])
  have A6 := hid (fun o => (below_step (A3.out _) B6.out).alloc ((below_step (A3.out _) B6.out).size) o)
  go_wp2_with fail
  refine (FR.out _).mono ?_
  rintro e y7 ⟨rfl, hb⟩
  have B7 := hid (below_step (A6.out _) hb)
  clear hb
  obtain ⟨-, -, -, -, c4, c5, c6, c7, zc⟩ := P.out y7 B7.out
  clear k0 k1
  go_wp2
  exact bodyPost_ret (v := .tuple #[.agg #[.int .i64 (numR (Rat.divInt aN aD * Rat.divInt bN bD)), .int .i64 (denR (Rat.divInt aN aD * Rat.divInt bN bD))], .int .i64 (errR (Rat.divInt aN aD * Rat.divInt bN bD))]) (by simp [results, Tryz.results41, c4, c5, go_sem]) rfl ⟨rfl, ((((((((Below.refl _ _).alloc (by first | exact Nat.le_refl _ | (simp; done) | (simp; omega) | omega | (simp [World.drewN]; omega)) _).alloc (by first | exact Nat.le_refl _ | (simp; done) | (simp; omega) | omega | (simp [World.drewN]; omega)) _).alloc (by first | exact Nat.le_refl _ | (simp; done) | (simp; omega) | omega | (simp [World.drewN]; omega)) _).trans (HP.out.mono (by first | exact Nat.le_refl _ | (simp; done) | (simp; omega) | omega | (simp [World.drewN]; omega)))).trans (B7.out.mono (by first | exact Nat.le_refl _ | (simp; done) | (simp; omega) | omega | (simp [World.drewN]; omega)))).setCell (by first | exact Nat.le_refl _ | (simp; done) | (simp; omega) | omega | (simp [World.drewN]; omega)) _).setCell (by first | exact Nat.le_refl _ | (simp; done) | (simp; omega) | omega | (simp [World.drewN]; omega)) _)⟩
end Go.Proofs.YtffcnkkgbhhfnaaGreatDoor

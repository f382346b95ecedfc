
import Derived.Test.YtffcnkkgbhhfnaaGreatDoorRr
namespace Go.Proofs.YtffcnkkgbhhfnaaGreatDoor
open Go.RowKit Go.Instr
set_option linter.unusedVariables false

/-- Where the halving ends. -/
def Halved (n d a b : Int) : Prop := I64 a ∧ I64 b ∧ b ≠ 0 ∧ Rat.divInt a b = Rat.divInt n d
theorem halved_next {n d a b : Int} (h : Halved n d (2 * a) (2 * b)) : Halved n d a b := by
  obtain ⟨h1, h2, h3, h4⟩ := h
  unfold I64 at h1 h2
  refine ⟨⟨by omega, by omega⟩, ⟨by omega, by omega⟩, by omega, ?_⟩
  rw [← h4, Rat.divInt_mul_left (by decide)]
theorem gcd_odd_pow (b : Nat) (h : b % 2 = 1) : Nat.gcd 9223372036854775808 b = 1 := by
  rw [show (9223372036854775808 : Nat) = 2 ^ 63 from rfl]
  apply Nat.Coprime.pow_left
  rw [Nat.coprime_iff_gcd_eq_one, Nat.gcd_rec, h]; rfl

/-- What 'NewIn' returns. -/
def newIn (n d : Int) : Value := if d = 0 then .agg #[.int .i64 (0), .int .i64 (0), .int .i64 (20)] else .agg #[.int .i64 (numR (Rat.divInt n d)), .int .i64 (denR (Rat.divInt n d)), .int .i64 (errR (Rat.divInt n d))]

theorem val_zero {n d b : Int} (h : Rat.divInt 0 b = Rat.divInt n d) : numR (Rat.divInt n d) = 0 ∧ denR (Rat.divInt n d) = 1 ∧ errR (Rat.divInt n d) = 0 := by
  have e : Rat.divInt n d = 0 := by rw [← h]; simp
  rw [e]; decide +kernel
theorem val_bad {r : Rat} (h : okR r = false) : numR r = 0 ∧ denR r = 0 ∧ errR r = 2 := by
  unfold numR denR errR; rw [h]; simp
theorem val_ok {r : Rat} (h : okR r = true) : numR r = r.num ∧ denR r = (r.den : Int) ∧ errR r = 0 := by
  unfold numR denR errR; rw [h]; simp

set_option maxRecDepth 100000 in
set_option maxHeartbeats 8000000 in
theorem newin_some (n d : Int) (h1 : I64 n) (h2 : I64 d) (hd : d ≠ 0) (w : World) :
    Calls Tryz.prog 6 #[.int .i64 n, .int .i64 d] w fun e w' => e = .returned (.agg #[.int .i64 (numR (Rat.divInt n d)), .int .i64 (denR (Rat.divInt n d)), .int .i64 (errR (Rat.divInt n d))]) ∧ Below w.heap.size w w' := by
  have x0 : (d == 0) = false := by simpa using hd
  have H0 := hid (show Halved n d n d from ⟨h1, h2, hd, rfl⟩)
  clear h1 h2 hd
  go_enter Tryz.func6, Tryz.ntmps6
  go_upto_block 0 with fail
  go_cut [5, 6] from 16 to 31 (fun sa sb wx => w.alloc (.cells #[.int .i64 0, .int .i64 0, .int .i64 0] 28) = wx ∧ ∃ a b : Int, sa = .int .i64 a ∧ sb = .int .i64 b ∧ Halved n d a b ∧ (a = 0 ∨ a % 2 = 1 ∨ b % 2 = 1))
  case first =>
    go_wp2_with fail
    go_loop [5, 6] (fun sa sb => ∃ a b : Int, sa = .int .i64 a ∧ sb = .int .i64 b ∧ Halved n d a b) (fun sa _ => (intOf sa).natAbs)
    case atStart => exact ⟨n, d, rfl, rfl, H0.out⟩
    case round =>
      obtain ⟨a, b, rfl, rfl, hh⟩ := hrel
      have hb1 := hh.1
      have hb2 := hh.2.1
      unfold I64 at hb1 hb2
      have HH := hid hh
      clear hh
      by_cases hz : a = 0
      · subst hz
        have c1 : ((0 : Int).tmod 2 == 0) = true := by decide
        by_cases hb3 : b % 2 = 0
        · have c2 : (b.tmod 2 == 0) = true := by rw [beq_iff_eq]; exact Int.tmod_eq_zero_of_dvd (by omega)
          clear hb3
          go_wp2
          go_meet
          exact ⟨rfl, 0, b, rfl, rfl, HH.out, Or.inl rfl⟩
        · have c2 : (b.tmod 2 == 0) = false := by rw [beq_eq_false_iff_ne]; intro h; have := Int.dvd_of_tmod_eq_zero h; omega
          clear hb3
          go_wp2
          go_meet
          exact ⟨rfl, 0, b, rfl, rfl, HH.out, Or.inl rfl⟩
      by_cases ha2 : a % 2 = 0
      · obtain ⟨a', rfl⟩ : ∃ a', a = 2 * a' := ⟨a / 2, by omega⟩
        have c1 : ((2 * a').tmod 2 == 0) = true := by simp
        by_cases hb3 : b % 2 = 0
        · obtain ⟨b', rfl⟩ : ∃ b', b = 2 * b' := ⟨b / 2, by omega⟩
          have c2 : ((2 * b').tmod 2 == 0) = true := by simp
          · have c3 : ((2 * a') == 0) = false := by simp; omega
            have c3' : (2 * a' != 0) = true := by simp; omega
            have c4 : (2 * a').tdiv 2 = a' := by rw [Int.mul_tdiv_cancel_left _ (by decide)]
            have c5 : (2 * b').tdiv 2 = b' := by rw [Int.mul_tdiv_cancel_left _ (by decide)]
            have HM := hid (show a'.natAbs < (2 * a').natAbs by omega)
            have k1 : -9223372036854775808 ≤ a' ∧ a' ≤ 9223372036854775807 := by omega
            have k2 : -9223372036854775808 ≤ b' ∧ b' ≤ 9223372036854775807 := by omega
            obtain ⟨k1, k1'⟩ := k1
            obtain ⟨k2, k2'⟩ := k2
            clear ha2 hb3 hz hb1 hb2
            go_wp2
            go_round
            case rel => exact ⟨a', b', rfl, rfl, halved_next HH.out⟩
            case measure => exact HM.out
        · have c2 : (b.tmod 2 == 0) = false := by
            rw [beq_eq_false_iff_ne]; intro h; have := Int.dvd_of_tmod_eq_zero h; omega
          have HE := hid (show 2 * a' = 0 ∨ (2 * a') % 2 = 1 ∨ b % 2 = 1 from Or.inr (Or.inr (by omega)))
          clear ha2 hb3
          go_wp2
          go_meet
          exact ⟨rfl, 2 * a', b, rfl, rfl, HH.out, HE.out⟩
      · have c1 : (a.tmod 2 == 0) = false := by
          rw [beq_eq_false_iff_ne]; intro h; have := Int.dvd_of_tmod_eq_zero h; omega
        have HE := hid (show a = 0 ∨ a % 2 = 1 ∨ b % 2 = 1 from Or.inr (Or.inl (by omega)))
        clear ha2
        go_wp2
        go_meet
        exact ⟨rfl, a, b, rfl, rfl, HH.out, HE.out⟩
  case rest =>
  obtain ⟨rfl, a, b, rfl, rfl, hh, he⟩ := hcut
  obtain ⟨hb1, hb2, hb0, hr⟩ := hh
  unfold I64 at hb1 hb2
  by_cases ha0 : a = 0
  · subst ha0
    obtain ⟨v1, v2, v3⟩ := val_zero hr
    have V := hid (show _ ∧ _ ∧ _ from ⟨v1, v2, v3⟩)
    clear he hb1 hb2 hb0 hr v1 v2 v3
    go_wp2
    exact bodyPost_ret (v := .agg #[.int .i64 (0), .int .i64 (1), .int .i64 (0)]) (by simp [results, Tryz.results6, go_sem]) rfl ⟨by obtain ⟨v1, v2, v3⟩ := V.out; rw [v1, v2, v3], by repeat (first | exact Below.refl _ _ | refine Below.setCell ?_ (by first | exact Nat.le_refl _ | (simp; done) | (simp; omega) | omega | (simp [World.drewN]; omega)) _ | refine Below.alloc ?_ (by first | exact Nat.le_refl _ | (simp; done) | (simp; omega) | omega | (simp [World.drewN]; omega)) _)⟩
  have d0 : (a == 0) = false := by simpa using ha0
  have hpar : a % 2 = 1 ∨ b % 2 = 1 := by rcases he with h | h; exact absurd h ha0; exact h
  obtain ⟨g, hg⟩ : ∃ g, g = Nat.gcd a.natAbs b.natAbs := ⟨_, rfl⟩
  obtain ⟨g0, p1, p2, p3⟩ := rat_parts hb0 ha0 g hg
  rw [hr] at p1 p2 p3
  by_cases hal : a = -9223372036854775808
  · have hbad : okR (Rat.divInt n d) = false := by
      apply okR_false_num
      rw [p1]
      have : g = 1 := by rw [hg, hal]; exact gcd_odd_pow _ (by omega)
      rw [this, hal]; decide
    obtain ⟨v1, v2, v3⟩ := val_bad hbad
    have V := hid (show _ ∧ _ ∧ _ from ⟨v1, v2, v3⟩)
    have d1 : (a == -9223372036854775808) = true := by simpa using hal
    clear he hb1 hb2 hb0 hr hbad v1 v2 v3 p1 p2 p3 hg g0 hpar ha0 hal
    go_wp2
    exact bodyPost_ret (v := .agg #[.int .i64 (0), .int .i64 (0), .int .i64 (2)]) (by simp [results, Tryz.results6, go_sem]) rfl ⟨by obtain ⟨v1, v2, v3⟩ := V.out; rw [v1, v2, v3], by repeat (first | exact Below.refl _ _ | refine Below.setCell ?_ (by first | exact Nat.le_refl _ | (simp; done) | (simp; omega) | omega | (simp [World.drewN]; omega)) _ | refine Below.alloc ?_ (by first | exact Nat.le_refl _ | (simp; done) | (simp; omega) | omega | (simp [World.drewN]; omega)) _)⟩
  have d1 : (a == -9223372036854775808) = false := by simpa using hal
  by_cases hbl : b = -9223372036854775808
  · have hbad : okR (Rat.divInt n d) = false := by
      apply okR_false_den
      rw [p2]
      have : g = 1 := by rw [hg, hbl, Nat.gcd_comm]; exact gcd_odd_pow _ (by omega)
      rw [this, hbl]; decide
    obtain ⟨v1, v2, v3⟩ := val_bad hbad
    have V := hid (show _ ∧ _ ∧ _ from ⟨v1, v2, v3⟩)
    have d2 : (b == -9223372036854775808) = true := by simpa using hbl
    clear he hb1 hb2 hb0 hr hbad v1 v2 v3 p1 p2 p3 hg g0 hpar ha0 hal hbl
    go_wp2
    exact bodyPost_ret (v := .agg #[.int .i64 (0), .int .i64 (0), .int .i64 (2)]) (by simp [results, Tryz.results6, go_sem]) rfl ⟨by obtain ⟨v1, v2, v3⟩ := V.out; rw [v1, v2, v3], by repeat (first | exact Below.refl _ _ | refine Below.setCell ?_ (by first | exact Nat.le_refl _ | (simp; done) | (simp; omega) | omega | (simp [World.drewN]; omega)) _ | refine Below.alloc ?_ (by first | exact Nat.le_refl _ | (simp; done) | (simp; omega) | omega | (simp [World.drewN]; omega)) _)⟩
  have d2 : (b == -9223372036854775808) = false := by simpa using hbl
  have gle : g ≤ 9223372036854775807 := by
    have := Nat.gcd_le_right a.natAbs (show 0 < b.natAbs by omega)
    omega
  have C1 := hid (fun w => size_any a (by omega) (by omega) w)
  have C2 := hid (fun w => size_any b (by omega) (by omega) w)
  have C3 := hid (fun w => rgcd_any a.natAbs b.natAbs (by omega) (by omega) w)
  have C4 := hid (fun w => half_any a g (by omega) (by omega) g0 gle w)
  have C5 := hid (fun w => half_any b g (by omega) (by omega) g0 gle w)
  have C6 := hid (fun w => most_any w)
  rw [← hg] at C3
  rw [← p1] at C4
  rw [← p2] at C5
  have np : ((Rat.divInt n d).num.natAbs : Int) ≤ 9223372036854775807 := by
    have := Nat.div_le_self a.natAbs g; rw [← p1] at this; omega
  obtain ⟨N, hN⟩ : ∃ N, (Rat.divInt n d).num = N := ⟨_, rfl⟩
  obtain ⟨D, hD⟩ : ∃ D, (Rat.divInt n d).den = D := ⟨_, rfl⟩
  have hok : okR (Rat.divInt n d) = (decide (N.natAbs ≤ 4611686018427387904) && decide (D ≤ 4611686018427387904)) := by unfold okR; rw [hN, hD]
  rw [hN] at C4 p3 np
  rw [hD] at C5
  clear p1 p2 hg g0 gle he hpar hr hal hbl ha0 hb0
  obtain ⟨A, hA⟩ : ∃ A : Nat, a.natAbs = A := ⟨_, rfl⟩
  obtain ⟨B, hB⟩ : ∃ B : Nat, b.natAbs = B := ⟨_, rfl⟩
  rw [hA] at C1 C3
  rw [hB] at C2 C3
  clear hA hB
  by_cases hs : N.natAbs ≤ 4611686018427387904
  · by_cases ht : D ≤ 4611686018427387904
    · rw [decide_eq_true hs, decide_eq_true ht, Bool.true_and] at hok
      obtain ⟨v1, v2, v3⟩ := val_ok hok
      rw [hN] at v1
      rw [hD] at v2
      have d3 : decide ((4611686018427387904 : Int) < (N.natAbs : Int)) = false := by simp; omega
      have d4 : decide ((4611686018427387904 : Int) < (D : Int)) = false := by simp; omega
      obtain ⟨M, hM⟩ : ∃ M, N.natAbs = M := ⟨_, rfl⟩
      rw [hM] at C4 d3 hs
      have hsn : (decide (a < 0) != decide (b < 0)) = true → N = -(M : Int) := fun h => by have := p3.2 h; omega
      have hsp : (decide (a < 0) != decide (b < 0)) = false → N = (M : Int) := fun h => by
        have : ¬ N < 0 := fun h' => by rw [p3.1 h'] at h; cases h
        omega
      have HS := hid hsn
      have HP := hid hsp
      have V := hid (show _ ∧ _ ∧ _ from ⟨v1, v2, v3⟩)
      clear hok hN hD v1 v2 v3 p3 ht hb1 hb2 hM np hsn hsp
      by_cases sa : a < 0
      · by_cases sb : b < 0
        · skip
          have f1 : decide (a < 0) = true := by simp; omega
          have f2 : decide (b < 0) = true := by simp; omega
          have HN := hid (HP.out (by rw [f1, f2]; rfl))
          clear sa sb HS HP
          go_wp2_with fail
          refine (C1.out _).mono ?_
          rintro e w1 ⟨rfl, hw1⟩
          rw [hw1]
          clear hw1
          go_wp2_with fail
          refine (C2.out _).mono ?_
          rintro e w2 ⟨rfl, hw2⟩
          rw [hw2]
          clear hw2
          go_wp2_with fail
          refine (C3.out _).mono ?_
          rintro e w3 ⟨rfl, hw3⟩
          rw [hw3]
          clear hw3
          go_wp2_with fail
          refine (C4.out _).mono ?_
          rintro e w4 ⟨rfl, hw4⟩
          rw [hw4]
          clear hw4
          go_wp2_with fail
          refine (C5.out _).mono ?_
          rintro e w5 ⟨rfl, hw5⟩
          rw [hw5]
          clear hw5
          go_wp2_with fail
          refine (C6.out _).mono ?_
          rintro e w6 ⟨rfl, hw6⟩
          rw [hw6]
          clear hw6
          go_wp2_with fail
          refine (C6.out _).mono ?_
          rintro e w7 ⟨rfl, hw7⟩
          rw [hw7]
          clear hw7
          go_wp2_with fail
          exact bodyPost_ret (v := .agg #[.int .i64 ((M : Int)), .int .i64 ((D : Int)), .int .i64 (0)]) (by simp [results, Tryz.results6, go_sem]) rfl ⟨by obtain ⟨v1, v2, v3⟩ := V.out; rw [v1, v2, v3, HN.out], by repeat (first | exact Below.refl _ _ | refine Below.setCell ?_ (by first | exact Nat.le_refl _ | (simp; done) | (simp; omega) | omega | (simp [World.drewN]; omega)) _ | refine Below.alloc ?_ (by first | exact Nat.le_refl _ | (simp; done) | (simp; omega) | omega | (simp [World.drewN]; omega)) _)⟩
        · skip
          have f1 : decide (a < 0) = true := by simp; omega
          have f2 : decide (b < 0) = false := by simp; omega
          have HN := hid (HS.out (by rw [f1, f2]; rfl))
          clear sa sb HS HP
          go_wp2_with fail
          refine (C1.out _).mono ?_
          rintro e w1 ⟨rfl, hw1⟩
          rw [hw1]
          clear hw1
          go_wp2_with fail
          refine (C2.out _).mono ?_
          rintro e w2 ⟨rfl, hw2⟩
          rw [hw2]
          clear hw2
          go_wp2_with fail
          refine (C3.out _).mono ?_
          rintro e w3 ⟨rfl, hw3⟩
          rw [hw3]
          clear hw3
          go_wp2_with fail
          refine (C4.out _).mono ?_
          rintro e w4 ⟨rfl, hw4⟩
          rw [hw4]
          clear hw4
          go_wp2_with fail
          refine (C5.out _).mono ?_
          rintro e w5 ⟨rfl, hw5⟩
          rw [hw5]
          clear hw5
          go_wp2_with fail
          refine (C6.out _).mono ?_
          rintro e w6 ⟨rfl, hw6⟩
          rw [hw6]
          clear hw6
          go_wp2_with fail
          refine (C6.out _).mono ?_
          rintro e w7 ⟨rfl, hw7⟩
          rw [hw7]
          clear hw7
          go_wp2_with fail
          exact bodyPost_ret (v := .agg #[.int .i64 (-(M : Int)), .int .i64 ((D : Int)), .int .i64 (0)]) (by simp [results, Tryz.results6, go_sem]) rfl ⟨by obtain ⟨v1, v2, v3⟩ := V.out; rw [v1, v2, v3, HN.out], by repeat (first | exact Below.refl _ _ | refine Below.setCell ?_ (by first | exact Nat.le_refl _ | (simp; done) | (simp; omega) | omega | (simp [World.drewN]; omega)) _ | refine Below.alloc ?_ (by first | exact Nat.le_refl _ | (simp; done) | (simp; omega) | omega | (simp [World.drewN]; omega)) _)⟩
      · by_cases sb : b < 0
        · skip
          have f1 : decide (a < 0) = false := by simp; omega
          have f2 : decide (b < 0) = true := by simp; omega
          have HN := hid (HS.out (by rw [f1, f2]; rfl))
          clear sa sb HS HP
          go_wp2_with fail
          refine (C1.out _).mono ?_
          rintro e w1 ⟨rfl, hw1⟩
          rw [hw1]
          clear hw1
          go_wp2_with fail
          refine (C2.out _).mono ?_
          rintro e w2 ⟨rfl, hw2⟩
          rw [hw2]
          clear hw2
          go_wp2_with fail
          refine (C3.out _).mono ?_
          rintro e w3 ⟨rfl, hw3⟩
          rw [hw3]
          clear hw3
          go_wp2_with fail
          refine (C4.out _).mono ?_
          rintro e w4 ⟨rfl, hw4⟩
          rw [hw4]
          clear hw4
          go_wp2_with fail
          refine (C5.out _).mono ?_
          rintro e w5 ⟨rfl, hw5⟩
          rw [hw5]
          clear hw5
          go_wp2_with fail
          refine (C6.out _).mono ?_
          rintro e w6 ⟨rfl, hw6⟩
          rw [hw6]
          clear hw6
          go_wp2_with fail
          refine (C6.out _).mono ?_
          rintro e w7 ⟨rfl, hw7⟩
          rw [hw7]
          clear hw7
          go_wp2_with fail
          exact bodyPost_ret (v := .agg #[.int .i64 (-(M : Int)), .int .i64 ((D : Int)), .int .i64 (0)]) (by simp [results, Tryz.results6, go_sem]) rfl ⟨by obtain ⟨v1, v2, v3⟩ := V.out; rw [v1, v2, v3, HN.out], by repeat (first | exact Below.refl _ _ | refine Below.setCell ?_ (by first | exact Nat.le_refl _ | (simp; done) | (simp; omega) | omega | (simp [World.drewN]; omega)) _ | refine Below.alloc ?_ (by first | exact Nat.le_refl _ | (simp; done) | (simp; omega) | omega | (simp [World.drewN]; omega)) _)⟩
        · skip
          have f1 : decide (a < 0) = false := by simp; omega
          have f2 : decide (b < 0) = false := by simp; omega
          have HN := hid (HP.out (by rw [f1, f2]; rfl))
          clear sa sb HS HP
          go_wp2_with fail
          refine (C1.out _).mono ?_
          rintro e w1 ⟨rfl, hw1⟩
          rw [hw1]
          clear hw1
          go_wp2_with fail
          refine (C2.out _).mono ?_
          rintro e w2 ⟨rfl, hw2⟩
          rw [hw2]
          clear hw2
          go_wp2_with fail
          refine (C3.out _).mono ?_
          rintro e w3 ⟨rfl, hw3⟩
          rw [hw3]
          clear hw3
          go_wp2_with fail
          refine (C4.out _).mono ?_
          rintro e w4 ⟨rfl, hw4⟩
          rw [hw4]
          clear hw4
          go_wp2_with fail
          refine (C5.out _).mono ?_
          rintro e w5 ⟨rfl, hw5⟩
          rw [hw5]
          clear hw5
          go_wp2_with fail
          refine (C6.out _).mono ?_
          rintro e w6 ⟨rfl, hw6⟩
          rw [hw6]
          clear hw6
          go_wp2_with fail
          refine (C6.out _).mono ?_
          rintro e w7 ⟨rfl, hw7⟩
          rw [hw7]
          clear hw7
          go_wp2_with fail
          exact bodyPost_ret (v := .agg #[.int .i64 ((M : Int)), .int .i64 ((D : Int)), .int .i64 (0)]) (by simp [results, Tryz.results6, go_sem]) rfl ⟨by obtain ⟨v1, v2, v3⟩ := V.out; rw [v1, v2, v3, HN.out], by repeat (first | exact Below.refl _ _ | refine Below.setCell ?_ (by first | exact Nat.le_refl _ | (simp; done) | (simp; omega) | omega | (simp [World.drewN]; omega)) _ | refine Below.alloc ?_ (by first | exact Nat.le_refl _ | (simp; done) | (simp; omega) | omega | (simp [World.drewN]; omega)) _)⟩
    · have d5 : ¬ D ≤ 4611686018427387904 := ht
      rw [decide_eq_true hs, decide_eq_false ht, Bool.true_and] at hok
      obtain ⟨v1, v2, v3⟩ := val_bad hok
      have V := hid (show _ ∧ _ ∧ _ from ⟨v1, v2, v3⟩)
      have d3 : decide ((4611686018427387904 : Int) < (N.natAbs : Int)) = false := by simp; omega
      have d4 : decide ((4611686018427387904 : Int) < (D : Int)) = true := by simp; omega
      generalize N.natAbs = M at *
      clear hok hN hD v1 v2 v3 p3 hs ht d5 hb1 hb2
      go_wp2_with fail
      refine (C1.out _).mono ?_
      rintro e w1 ⟨rfl, hw1⟩
      rw [hw1]
      clear hw1
      go_wp2_with fail
      refine (C2.out _).mono ?_
      rintro e w2 ⟨rfl, hw2⟩
      rw [hw2]
      clear hw2
      go_wp2_with fail
      refine (C3.out _).mono ?_
      rintro e w3 ⟨rfl, hw3⟩
      rw [hw3]
      clear hw3
      go_wp2_with fail
      refine (C4.out _).mono ?_
      rintro e w4 ⟨rfl, hw4⟩
      rw [hw4]
      clear hw4
      go_wp2_with fail
      refine (C5.out _).mono ?_
      rintro e w5 ⟨rfl, hw5⟩
      rw [hw5]
      clear hw5
      go_wp2_with fail
      refine (C6.out _).mono ?_
      rintro e w6 ⟨rfl, hw6⟩
      rw [hw6]
      clear hw6
      go_wp2_with fail
      refine (C6.out _).mono ?_
      rintro e w7 ⟨rfl, hw7⟩
      rw [hw7]
      clear hw7
      go_wp2_with fail
      exact bodyPost_ret (v := .agg #[.int .i64 (0), .int .i64 (0), .int .i64 (2)]) (by simp [results, Tryz.results6, go_sem]) rfl ⟨by obtain ⟨v1, v2, v3⟩ := V.out; rw [v1, v2, v3], by repeat (first | exact Below.refl _ _ | refine Below.setCell ?_ (by first | exact Nat.le_refl _ | (simp; done) | (simp; omega) | omega | (simp [World.drewN]; omega)) _ | refine Below.alloc ?_ (by first | exact Nat.le_refl _ | (simp; done) | (simp; omega) | omega | (simp [World.drewN]; omega)) _)⟩
  · rw [decide_eq_false hs, Bool.false_and] at hok
    obtain ⟨v1, v2, v3⟩ := val_bad hok
    have V := hid (show _ ∧ _ ∧ _ from ⟨v1, v2, v3⟩)
    have d3 : decide ((4611686018427387904 : Int) < (N.natAbs : Int)) = true := by simp; omega
    generalize N.natAbs = M at *
    clear hok hN hD v1 v2 v3 p3 hs hb1 hb2
    go_wp2_with fail
    refine (C1.out _).mono ?_
    rintro e w1 ⟨rfl, hw1⟩
    rw [hw1]
    clear hw1
    go_wp2_with fail
    refine (C2.out _).mono ?_
    rintro e w2 ⟨rfl, hw2⟩
    rw [hw2]
    clear hw2
    go_wp2_with fail
    refine (C3.out _).mono ?_
    rintro e w3 ⟨rfl, hw3⟩
    rw [hw3]
    clear hw3
    go_wp2_with fail
    refine (C4.out _).mono ?_
    rintro e w4 ⟨rfl, hw4⟩
    rw [hw4]
    clear hw4
    go_wp2_with fail
    refine (C5.out _).mono ?_
    rintro e w5 ⟨rfl, hw5⟩
    rw [hw5]
    clear hw5
    go_wp2_with fail
    refine (C6.out _).mono ?_
    rintro e w6 ⟨rfl, hw6⟩
    rw [hw6]
    clear hw6
    go_wp2_with fail
    exact bodyPost_ret (v := .agg #[.int .i64 (0), .int .i64 (0), .int .i64 (2)]) (by simp [results, Tryz.results6, go_sem]) rfl ⟨by obtain ⟨v1, v2, v3⟩ := V.out; rw [v1, v2, v3], by repeat (first | exact Below.refl _ _ | refine Below.setCell ?_ (by first | exact Nat.le_refl _ | (simp; done) | (simp; omega) | omega | (simp [World.drewN]; omega)) _ | refine Below.alloc ?_ (by first | exact Nat.le_refl _ | (simp; done) | (simp; omega) | omega | (simp [World.drewN]; omega)) _)⟩
end Go.Proofs.YtffcnkkgbhhfnaaGreatDoor

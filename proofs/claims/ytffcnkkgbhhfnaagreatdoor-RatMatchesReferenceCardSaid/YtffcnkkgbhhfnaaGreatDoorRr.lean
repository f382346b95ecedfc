
import Derived.Test.YtffcnkkgbhhfnaaGreatDoorRq
namespace Go.Proofs.YtffcnkkgbhhfnaaGreatDoor
open Go.RowKit Go.Instr
set_option linter.unusedVariables false

/-! The reference's 'Gcd', 'half', 'NewIn', 'Made'. -/
set_option maxHeartbeats 1000000 in
theorem rgcd_any (a b : Nat) (ha : a ≤ 9223372036854775807) (hb : b ≤ 9223372036854775807) (w : World) :
    Calls Tryz.prog 30 #[.int .i64 (a : Int), .int .i64 (b : Int)] w fun e w' => e = .returned (.int .i64 (Nat.gcd a b : Int)) ∧ w' = w := by
  obtain ⟨g, hg⟩ : ∃ g, Nat.gcd a b = g := ⟨_, rfl⟩
  rw [hg]
  have HG := hid hg
  clear hg
  go_enter Tryz.func30, Tryz.ntmps30
  go_wp2
  go_loop [0, 1] (fun x y => ∃ c d : Nat, x = .int .i64 (c : Int) ∧ y = .int .i64 (d : Int) ∧ c ≤ 9223372036854775807 ∧ d ≤ 9223372036854775807 ∧ Nat.gcd c d = g) (fun _ y => (intOf y).toNat)
  case atStart => exact ⟨a, b, rfl, rfl, ha, hb, HG.out⟩
  case round =>
    obtain ⟨c, d, rfl, rfl, hc, hd, he⟩ := hrel
    by_cases h0 : d = 0
    · subst h0
      have hgc : c = g := by rw [← he, Nat.gcd_zero_right]
      have HC := hid hgc
      clear he hgc
      go_wp2
      go_ret
      exact ⟨by rw [HC.out]; rfl, rfl⟩
    · obtain ⟨z, hz⟩ : ∃ z, c % d = z := ⟨_, rfl⟩
      have hz2 : (c : Int) % (d : Int) = (z : Int) := by rw [← hz, Int.natCast_emod]
      have hzd : z < d := by rw [← hz]; exact Nat.mod_lt _ (by omega)
      have hgz : Nat.gcd d z = g := by rw [← hz, Nat.gcd_comm, ← Nat.gcd_rec, Nat.gcd_comm]; exact he
      have HZ := hid hgz
      have h1 : ¬ (d : Int) = 0 := by omega
      have h2 : ((d : Int) == 0) = false := by simp; omega
      have hp : 1 ≤ d := by omega
      clear hz hgz he
      go_wp2
      go_round
      case rel => exact ⟨d, z, rfl, by rw [hz2], hd, by omega, HZ.out⟩
      case measure => simp [intOf]; omega

set_option maxHeartbeats 1000000 in
theorem half_any (n : Int) (g : Nat) (h1 : -9223372036854775807 ≤ n) (h2 : n ≤ 9223372036854775807) (hg0 : 0 < g) (hg : g ≤ 9223372036854775807) (w : World) :
    Calls Tryz.prog 32 #[.int .i64 n, .int .i64 (g : Int)] w fun e w' => e = .returned (.int .i64 ((n.natAbs / g : Nat) : Int)) ∧ w' = w := by
  obtain ⟨q, hq⟩ : ∃ q, n.tdiv g = q := ⟨_, rfl⟩
  have hqa : q.natAbs = n.natAbs / g := by rw [← hq, Int.natAbs_tdiv]; rfl
  have hle : q.natAbs ≤ n.natAbs := by rw [hqa]; exact Nat.div_le_self _ _
  have C := hid (fun w => size_any q (by omega) (by omega) w)
  rw [hqa] at C
  have e1 : wrap64 (n.tdiv g) = q := by rw [hq]; unfold wrap64; omega
  have x1 : ¬ (g : Int) = 0 := by omega
  have x2 : ((g : Int) == 0) = false := by simp; omega
  have x3 : ¬ g = 0 := by omega
  generalize ((n.natAbs / g : Nat) : Int) = r at *
  have hb1 : -9223372036854775808 ≤ q := by omega
  have hb2 : q ≤ 9223372036854775807 := by omega
  clear hqa hle
  by_cases hn : 0 ≤ n
  · have e2 : n / (g : Int) = q := by rw [← hq, Int.tdiv_eq_ediv_of_nonneg hn]
    clear hq
    go_enter Tryz.func32, Tryz.ntmps32
    go_wp2_with fail
    refine (C.out _).mono ?_
    rintro e w1 ⟨rfl, rfl⟩
    go_wp2
    go_ret
    exact ⟨rfl, rfl⟩
  · have b1 : -9223372036854775808 ≤ q := hb1
    have b2 : q ≤ 9223372036854775807 := hb2
    clear e1 hb1 hb2
    go_enter Tryz.func32, Tryz.ntmps32
    go_wp2_with fail
    refine (C.out _).mono ?_
    rintro e w1 ⟨rfl, rfl⟩
    go_wp2
    go_ret
    exact ⟨rfl, rfl⟩

theorem okR_false_num {r : Rat} (h : 4611686018427387904 < r.num.natAbs) : okR r = false := by
  unfold okR; rw [Bool.and_eq_false_iff]; left; simp; omega
theorem okR_false_den {r : Rat} (h : 4611686018427387904 < r.den) : okR r = false := by
  unfold okR; rw [Bool.and_eq_false_iff]; right; simp; omega

/-- What is left of a quotient by the greatest common divisor. -/
theorem rat_parts {a b : Int} (hb : b ≠ 0) (ha : a ≠ 0) (g : Nat) (hg : g = Nat.gcd a.natAbs b.natAbs) :
    0 < g ∧ (Rat.divInt a b).num.natAbs = a.natAbs / g ∧ (Rat.divInt a b).den = b.natAbs / g ∧ ((Rat.divInt a b).num < 0 ↔ (decide (a < 0) != decide (b < 0)) = true) := by
  have hg0 : 0 < g := hg ▸ Nat.gcd_pos_of_pos_right _ (by omega)
  have hgi : b.gcd a = g := by rw [hg, Int.gcd, Nat.gcd_comm]
  obtain ⟨m, hm⟩ : (g : Int) ∣ a := Int.ofNat_dvd_left.mpr (hg ▸ Nat.gcd_dvd_left _ _)
  have hmv : a / (g : Int) = m := by rw [hm, Int.mul_ediv_cancel_left _ (by omega)]
  have hmn : m.natAbs = a.natAbs / g := by rw [hm, Int.natAbs_mul]; simp; rw [Nat.mul_div_cancel_left _ hg0]
  have hms : (m < 0 ↔ a < 0) := by
    have hgp : (0 : Int) < g := by omega
    rw [hm]
    constructor
    · intro h; exact Int.mul_neg_of_pos_of_neg hgp h
    · intro h
      rcases Int.lt_or_le m 0 with h' | h'
      · exact h'
      · have := Int.mul_nonneg (Int.le_of_lt hgp) h'; omega
  have hm0 : m ≠ 0 := by rintro rfl; simp at hm; exact ha hm
  refine ⟨hg0, ?_, ?_, ?_⟩
  · rw [Rat.num_divInt, hgi]
    rcases Int.lt_or_lt_of_ne hb with h | h
    · rw [Int.sign_eq_neg_one_of_neg h, Int.neg_one_mul, Int.neg_ediv_of_dvd ⟨m, hm⟩, hmv, Int.natAbs_neg, hmn]
    · rw [Int.sign_eq_one_of_pos h, Int.one_mul, hmv, hmn]
  · rw [Rat.den_divInt, if_neg hb, hgi]
  · rw [Rat.num_divInt, hgi]
    rcases Int.lt_or_lt_of_ne hb with h | h
    · rw [Int.sign_eq_neg_one_of_neg h, Int.neg_one_mul, Int.neg_ediv_of_dvd ⟨m, hm⟩, hmv, decide_eq_true h]
      by_cases h2 : a < 0 <;> simp [h2] <;> omega
    · rw [Int.sign_eq_one_of_pos h, Int.one_mul, hmv, show decide (b < 0) = false by simp; omega]
      by_cases h2 : a < 0 <;> simp [h2] <;> omega
end Go.Proofs.YtffcnkkgbhhfnaaGreatDoor

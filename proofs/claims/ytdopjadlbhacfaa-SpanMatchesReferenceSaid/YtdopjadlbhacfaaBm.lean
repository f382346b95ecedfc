import Derived.Test.YtdopjadlbhacfaaAa
namespace Go.Proofs.Ytdopjadlbhacfaa
open Go Sp
set_option linter.unusedVariables false
set_option linter.unusedSimpArgs false

/-! The greatest power of 2 that divides a number, by its bits. -/
theorem odd_part : ∀ (n m : Nat), m < n → 0 < m → ∃ k j, m = 2 ^ k * (2 * j + 1)
  | 0, m, h, _ => by omega
  | n + 1, m, h, h0 => by
    rcases Nat.mod_two_eq_zero_or_one m with e | e
    · obtain ⟨k, j, hkj⟩ := odd_part n (m / 2) (by omega) (by omega)
      refine ⟨k + 1, j, ?_⟩
      have : m = 2 * (m / 2) := by omega
      rw [this, hkj, Nat.pow_succ]
      rw [Nat.mul_comm (2 ^ k) 2, Nat.mul_assoc]
    · exact ⟨0, m / 2, by omega⟩
theorem and_neg_nat (k j : Nat) (h : 2 ^ k * (2 * j + 1) < 2 ^ 64) : (2 ^ k * (2 * j + 1)) &&& (2 ^ 64 - 2 ^ k * (2 * j + 1)) = 2 ^ k := by
  apply Nat.eq_of_testBit_eq
  intro i
  have hp : 0 < 2 ^ k := Nat.two_pow_pos k
  have e : 2 ^ k * (2 * j + 1) = (2 ^ k * (2 * j) + (2 ^ k - 1)) + 1 := by
    rw [Nat.mul_add, Nat.mul_one]; omega
  have e2 : 2 ^ 64 - 2 ^ k * (2 * j + 1) = 2 ^ 64 - ((2 ^ k * (2 * j) + (2 ^ k - 1)) + 1) := by rw [← e]
  rw [Nat.testBit_and, e2, Nat.testBit_two_pow_sub_succ (by omega), Nat.testBit_two_pow_mul, Nat.testBit_two_pow]
  rw [Nat.testBit_two_pow_mul_add _ (show 2 ^ k - 1 < 2 ^ k by omega)]
  rw [Nat.testBit_two_pow_sub_one]
  have hk : k < 64 := by
    rcases Nat.lt_or_ge k 64 with c | c
    · exact c
    · exfalso
      have := Nat.pow_le_pow_right (show 0 < 2 by omega) c
      have := Nat.mul_le_mul_left (2 ^ k) (show 1 ≤ 2 * j + 1 by omega)
      omega
  rcases Nat.lt_trichotomy i k with c | c | c
  · have : ¬ i ≥ k := by omega
    have : ¬ k = i := by omega
    simp_all
  · subst c
    simp [hk]
  · have h1 : i ≥ k := by omega
    have h2 : ¬ k = i := by omega
    have h3 : ¬ i < k := by omega
    have h4 : i - k = (i - k - 1) + 1 := by omega
    rw [h4]
    simp only [h1, h2, h3, decide_true, decide_false, Bool.true_and, if_false]
    rw [Nat.testBit_succ, Nat.testBit_succ]
    rw [show (2 * j + 1) / 2 = j by omega, show 2 * j / 2 = j by omega]
    cases Nat.testBit j (i - k - 1) <;> simp
theorem toNat_pos {m : Int} (h : 0 < m) (h2 : m ≤ 9223372036854775807) : (BitVec.ofInt 64 m).toNat = m.toNat := by
  rw [BitVec.toNat_ofInt]; omega
theorem toNat_neg {m : Int} (h : 0 < m) (h2 : m ≤ 9223372036854775807) : (BitVec.ofInt 64 (-m)).toNat = 2 ^ 64 - m.toNat := by
  rw [BitVec.toNat_ofInt]; omega
theorem pw_of (k j : Nat) : pw ((2 : Int) ^ k * (2 * j + 1)) = if 4294967296 < (2 : Int) ^ k then 4294967296 else 2 ^ k := by
  obtain ⟨_, _, a, b, i, hi, e⟩ := pwF_ok ((2 : Int) ^ k * (2 * j + 1)) 32 0 1 rfl rfl (Int.one_dvd _)
  show pwF _ 32 1 = _
  have ik : i ≤ k := by
    rcases Nat.lt_or_ge k i with c | c
    · exfalso
      rw [e] at a
      obtain ⟨d, rfl⟩ : ∃ d, i = k + 1 + d := ⟨i - k - 1, by omega⟩
      obtain ⟨q, hq⟩ := a
      rw [Int.pow_add, Int.pow_succ, Int.mul_assoc, Int.mul_assoc] at hq
      have hp : (2 : Int) ^ k ≠ 0 := by have := p2_pos k; omega
      have := Int.eq_of_mul_eq_mul_left hp hq
      generalize (2 : Int) ^ d * q = z at this
      omega
    · exact c
  by_cases c : k ≤ 32
  · have d := b k c (Int.dvd_mul_right _ _)
    rw [e] at d
    have ki : k ≤ i := by
      rcases Nat.lt_or_ge i k with g | g
      · exfalso
        have := Int.le_of_dvd (by have := p2_pos i; omega) d
        have := Int.pow_lt_pow_of_lt (show (1 : Int) < 2 by decide) g
        omega
      · exact g
    have : i = k := by omega
    subst this
    rw [e, if_neg]
    have : (2 : Int) ^ i ≤ 2 ^ 32 := by
      rcases Nat.lt_or_ge i 32 with g | g
      · have := Int.pow_lt_pow_of_lt (show (1 : Int) < 2 by decide) g
        omega
      · have : i = 32 := by omega
        rw [this]; exact Int.le_refl _
    have e32 : (2 : Int) ^ 32 = 4294967296 := by decide
    omega
  · have d := b 32 (by omega) (Int.dvd_trans (p2_dvd (by omega)) (Int.dvd_mul_right _ _))
    rw [e] at d
    have ki : 32 ≤ i := by
      rcases Nat.lt_or_ge i 32 with g | g
      · exfalso
        have := Int.le_of_dvd (by have := p2_pos i; omega) d
        have := Int.pow_lt_pow_of_lt (show (1 : Int) < 2 by decide) g
        omega
      · exact g
    have : i = 32 := by omega
    subst this
    rw [e, if_pos]
    · decide
    · have := Int.pow_lt_pow_of_lt (show (1 : Int) < 2 by decide) (show 32 < k by omega)
      have e32 : (2 : Int) ^ 32 = 4294967296 := by decide
      omega
theorem low_bit (m : Int) (h : 0 < m) (h2 : m ≤ 9223372036854775807) : (if 4294967296 < bits .and .i64 m (-m) then 4294967296 else bits .and .i64 m (-m)) = pw m := by
  obtain ⟨k, j, hm⟩ := odd_part (m.toNat + 1) m.toNat (by omega) (by omega)
  have e : bits .and .i64 m (-m) = 2 ^ k := by
    have x : (BitVec.ofInt 64 m &&& BitVec.ofInt 64 (-m)).toNat = 2 ^ k := by
      rw [BitVec.toNat_and, toNat_pos h h2, toNat_neg h h2, hm]
      exact and_neg_nat k j (by rw [← hm]; omega)
    show IntKind.i64.wrap ((BitVec.ofInt 64 m &&& BitVec.ofInt 64 (-m)).toNat : Int) = _
    rw [x, IntKind.wrap_i64]
    have l : 2 ^ k ≤ m.toNat := by
      rw [hm]
      have := Nat.mul_le_mul_left (2 ^ k) (show 1 ≤ 2 * j + 1 by omega)
      omega
    have c : ((2 ^ k : Nat) : Int) = (2 : Int) ^ k := by simp
    rw [c]
    have : (2 : Int) ^ k ≤ m := by rw [← c]; omega
    have := p2_pos k
    omega
  have em : m = (2 : Int) ^ k * (2 * j + 1) := by
    have : m = (m.toNat : Int) := by omega
    rw [this, hm]
    simp
  rw [e]
  conv => rhs; rw [em]
  exact (pw_of k j).symm
end Go.Proofs.Ytdopjadlbhacfaa

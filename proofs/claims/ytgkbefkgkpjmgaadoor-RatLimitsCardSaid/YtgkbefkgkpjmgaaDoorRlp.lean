import Derived.Test.YtgkbefkgkpjmgaaDoorRlm
namespace Go.Proofs.YtgkbefkgkpjmgaaDoor
open Go.RowKit Go.Instr
set_option linter.unusedVariables false

/-! 'power'. -/
theorem wrap_pow (k : Nat) (h2 : k ≤ 62) : wrap64 (2 ^ k) = ((2 ^ k : Nat) : Int) := by
  have hp : 2 ^ k ≤ 4611686018427387904 := Nat.pow_le_pow_right (show 0 < 2 by omega) h2
  rw [show ((2 : Int) ^ k) = ((2 ^ k : Nat) : Int) by simp]
  generalize 2 ^ k = m at hp
  unfold wrap64
  omega
set_option maxHeartbeats 1000000 in
theorem power_neg (k : Nat) (h1 : 0 < k) (h2 : k ≤ 62) (w : World) :
    Calls Tryd.prog 26 #[.int .i64 (-(k : Int))] w fun e w' => e = .returned (.agg #[.int .i64 1, .int .i64 ((2 ^ k : Nat) : Int)]) ∧ Below w.heap.size w w' := by
  have t1 : decide (-(k : Int) < 0) = true := by simp; omega
  have HP := hid (wrap_pow k h2)
  go_enter Tryd.func26, Tryd.ntmps26
  go_wp2
  exact bodyPost_ret (v := .agg #[.int .i64 1, .int .i64 (wrap64 (2 ^ k))]) (by simp [results, Tryd.results26, go_sem]) rfl ⟨by rw [HP.out], below_a (Below.refl _ _) _⟩
set_option maxHeartbeats 1000000 in
theorem power_pos (k : Nat) (h2 : k ≤ 62) (w : World) :
    Calls Tryd.prog 26 #[.int .i64 (k : Int)] w fun e w' => e = .returned (.agg #[.int .i64 ((2 ^ k : Nat) : Int), .int .i64 1]) ∧ Below w.heap.size w w' := by
  have t1 : decide ((k : Int) < 0) = false := by simp
  have HP := hid (wrap_pow k h2)
  go_enter Tryd.func26, Tryd.ntmps26
  go_wp2
  exact bodyPost_ret (v := .agg #[.int .i64 (wrap64 (2 ^ k)), .int .i64 1]) (by simp [results, Tryd.results26, go_sem]) rfl ⟨by rw [HP.out], below_a (Below.refl _ _) _⟩
theorem power_any (n : Int) (h1 : -62 ≤ n) (h2 : n ≤ 62) (w : World) :
    Calls Tryd.prog 26 #[.int .i64 n] w fun e w' => e = .returned (.agg #[.int .i64 (pwN n), .int .i64 (pwD n)]) ∧ Below w.heap.size w w' := by
  unfold pwN pwD
  by_cases h : n < 0
  · rw [if_pos h, if_pos h]
    obtain ⟨k, hk⟩ : ∃ k : Nat, n = -(k : Int) := ⟨(-n).toNat, by omega⟩
    subst hk
    have := power_neg k (by omega) (by omega) w
    rw [show (- -(k : Int)).toNat = k by omega, show ((2 : Int) ^ k) = ((2 ^ k : Nat) : Int) by simp]
    exact this
  · rw [if_neg h, if_neg h]
    obtain ⟨k, hk⟩ : ∃ k : Nat, n = (k : Int) := ⟨n.toNat, by omega⟩
    subst hk
    have := power_pos k (by omega) w
    rw [show ((k : Int)).toNat = k by omega, show ((2 : Int) ^ k) = ((2 ^ k : Nat) : Int) by simp]
    exact this
theorem fr_pw (n : Int) (h : -62 ≤ n ∧ n ≤ 62) : Fr (pwN n) (pwD n) ∧ pwN n ≠ 0 := by
  have := frB_any n h
  unfold frB at this
  simp only [Bool.and_eq_true, decide_eq_true_eq] at this
  obtain ⟨⟨⟨⟨h1, h2⟩, h3⟩, h4⟩, h5⟩ := this
  exact ⟨⟨by omega, h4, by omega, by omega, h2⟩, by omega⟩
theorem errR_cases (r : Rat) : errR r = 0 ∨ errR r = 2 := by
  unfold errR
  split
  · exact Or.inl rfl
  · exact Or.inr rfl
/-- What a product or a quotient of powers is. -/
theorem chkE_use {r : Rat} {n N D E : Int} (h : chkE r n = true) (T : Trip r N D E) : (E = 0 ∧ -62 ≤ n ∧ n ≤ 62 ∧ N = pwN n ∧ D = pwD n) ∨ (E = 2 ∧ (n < -62 ∨ 62 < n)) := by
  obtain ⟨rfl, rfl, rfl⟩ := T
  unfold chkE at h
  simp only [Bool.and_eq_true, Bool.or_eq_true, Bool.not_eq_true', beq_iff_eq] at h
  obtain ⟨h1, h2⟩ := h
  rcases errR_cases r with he | he
  · left
    rw [he] at h1 h2
    have h3 : inR n = true := by rw [← h1]; rfl
    unfold inR at h3
    simp only [Bool.and_eq_true, decide_eq_true_eq] at h3
    rcases h2 with h2 | h2
    · exact absurd h2 (by decide)
    · exact ⟨he, h3.1, h3.2, h2.1, h2.2⟩
  · right
    rw [he] at h1
    have h3 : inR n = false := by rw [← h1]; rfl
    unfold inR at h3
    refine ⟨he, ?_⟩
    by_cases h4 : -62 ≤ n
    · by_cases h5 : n ≤ 62
      · simp [h4, h5] at h3
      · right; omega
    · left; omega
theorem fits_use {a b N D E : Int} (ha : -62 ≤ a ∧ a ≤ 62) (hb : -62 ≤ b ∧ b ≤ 62) (T : Trip (pw a + pw b) N D E) : (E == 0) = fitsB a b ∧ (E = 0 ∨ E = 2) := by
  obtain ⟨rfl, rfl, rfl⟩ := T
  have := chk_any a b ha hb
  unfold chk at this
  simp only [Bool.and_eq_true, beq_iff_eq] at this
  exact ⟨this.2, errR_cases _⟩
theorem mul_use {a b N D E : Int} (ha : -62 ≤ a ∧ a ≤ 62) (hb : -62 ≤ b ∧ b ≤ 62) (T : Trip (pw a * pw b) N D E) : (E = 0 ∧ -62 ≤ a + b ∧ a + b ≤ 62 ∧ N = pwN (a + b) ∧ D = pwD (a + b)) ∨ (E = 2 ∧ (a + b < -62 ∨ 62 < a + b)) := by
  have := chk_any a b ha hb
  unfold chk at this
  simp only [Bool.and_eq_true] at this
  exact chkE_use this.1.1 T
theorem div_use {a b N D E : Int} (ha : -62 ≤ a ∧ a ≤ 62) (hb : -62 ≤ b ∧ b ≤ 62) (T : Trip (pw a / pw b) N D E) : (E = 0 ∧ -62 ≤ a - b ∧ a - b ≤ 62 ∧ N = pwN (a - b) ∧ D = pwD (a - b)) ∨ (E = 2 ∧ (a - b < -62 ∨ 62 < a - b)) := by
  have := chk_any a b ha hb
  unfold chk at this
  simp only [Bool.and_eq_true] at this
  exact chkE_use this.1.2 T
end Go.Proofs.YtgkbefkgkpjmgaaDoor


import Derived.Test.YtffcnkkgbhhfnaaGreatDoorRtp
import Derived.Deep.QuietTactic
import Derived.BigQuiet
namespace Go.Proofs.YtffcnkkgbhhfnaaGreatDoor
open Go.RowKit Go.Instr
set_option linter.unusedVariables false

/-! The reference's texts. -/
theorem dig_slice : ∀ n : Nat, n < 10 → ((⟨#[48, 49, 50, 51, 52, 53, 54, 55, 56, 57]⟩ : ByteArray).extract n (n + 1)) = ⟨(Lib.decDigits n).toArray⟩ := by
  intro n hn
  rw [dec_small hn]
  rcases n with _ | _ | _ | _ | _ | _ | _ | _ | _ | _ | n <;> first | rfl | omega
set_option maxRecDepth 100000 in
set_option maxHeartbeats 1000000 in
theorem rdigits_any (n : Nat) (hn : n ≤ 9223372036854775807) (w : World) :
    Calls Tryz.prog 47 #[.int .i64 (n : Int)] w fun e w' => e = .returned (.string ⟨(Lib.decDigits n).toArray⟩) ∧ w' = w := by
  induction n using Nat.strongRecOn generalizing w with
  | _ n ih =>
    by_cases h : n < 10
    · have hs := dig_slice n h
      obtain ⟨T, hT⟩ : ∃ T : ByteArray, (⟨(Lib.decDigits n).toArray⟩ : ByteArray) = T := ⟨_, rfl⟩
      rw [hT] at hs ⊢
      clear hT ih
      have t1 : (n : Int) < 10 := by omega
      go_enter Tryz.func47, Tryz.ntmps47
      go_wp2_with fail
      go_ret
      exact ⟨rfl, rfl⟩
    · have I1 := hid (fun w => ih (n / 10) (by omega) (by omega) w)
      have I2 := hid (fun w => ih (n % 10) (by omega) (by omega) w)
      have e1 := hid (show ((n : Int) / 10) = ((n / 10 : Nat) : Int) by omega)
      have e2 := hid (show ((n : Int) % 10) = ((n % 10 : Nat) : Int) by omega)
      have t0 : (0 : Int) ≤ (n : Int) := by omega
      have t2 : (n : Int) ≤ 9223372036854775807 := by omega
      have hz : (⟨(Lib.decDigits n).toArray⟩ : ByteArray) = ⟨(Lib.decDigits (n / 10)).toArray⟩ ++ ⟨(Lib.decDigits (n % 10)).toArray⟩ := by
        apply ByteArray.ext
        rw [dec_big h, dec_small (Nat.mod_lt n (by omega))]
        simp [ByteArray.data_append]
      have l1 : (⟨(Lib.decDigits (n / 10)).toArray⟩ : ByteArray).size ≤ 20 := by
        simp only [ByteArray.size, List.size_toArray, Lib.decDigits_length]
        have := dec_len 18 (n / 10) (by omega)
        omega
      have l2 : (⟨(Lib.decDigits (n % 10)).toArray⟩ : ByteArray).size ≤ 20 := by
        simp only [ByteArray.size, List.size_toArray, Lib.decDigits_length]
        have := dec_len 18 (n % 10) (by omega)
        omega
      rw [hz]
      obtain ⟨T1, hT1⟩ : ∃ T : ByteArray, (⟨(Lib.decDigits (n / 10)).toArray⟩ : ByteArray) = T := ⟨_, rfl⟩
      obtain ⟨T2, hT2⟩ : ∃ T : ByteArray, (⟨(Lib.decDigits (n % 10)).toArray⟩ : ByteArray) = T := ⟨_, rfl⟩
      rw [hT1] at I1 l1 ⊢
      rw [hT2] at I2 l2 ⊢
      have t1 : ¬ (n : Int) < 10 := by omega
      clear ih hz hT1 hT2
      go_enter Tryz.func47, Tryz.ntmps47
      go_wp2_with fail
      rw [e1.out]
      refine (I1.out _).mono ?_
      rintro e w1 ⟨rfl, rfl⟩
      go_wp2_with fail
      rw [e2.out]
      refine (I2.out _).mono ?_
      rintro e w2 ⟨rfl, rfl⟩
      go_wp2_with fail
      go_ret
      exact ⟨rfl, rfl⟩
set_option maxRecDepth 100000 in
set_option maxHeartbeats 4000000 in
theorem rvalid_any (n d : Int) (h1 : -9223372036854775807 ≤ n) (h2 : n ≤ 9223372036854775807) (h3 : 0 ≤ d) (h4 : d ≤ 9223372036854775807) (w : World) :
    Calls Tryz.prog 8 #[.agg #[.int .i64 n, .int .i64 d]] w fun e w' => e = .returned (.bool (validB n d)) ∧ Below w.heap.size w w' := by
  have S := hid (fun w => size_any n h1 h2 w)
  have G := hid (fun w => rgcd_any n.natAbs d.toNat (by omega) (by omega) w)
  rw [show ((d.toNat : Nat) : Int) = d by omega] at G
  obtain ⟨g, hg⟩ : ∃ g, Nat.gcd n.natAbs d.toNat = g := ⟨_, rfl⟩
  rw [hg] at G
  obtain ⟨u, hu⟩ : ∃ u : Int, (n.natAbs : Int) = u := ⟨_, rfl⟩
  rw [hu] at G S
  have V : validB n d = (decide (1 ≤ d) && (decide (d ≤ 4611686018427387904) && (decide (-4611686018427387904 ≤ n) && (decide (n ≤ 4611686018427387904) && ((g : Int) == 1))))) := by
    rw [Bool.eq_iff_iff, valid_iff]
    simp only [Bool.and_eq_true, decide_eq_true_eq, beq_iff_eq]
    constructor
    · intro h
      have := h.cop
      rw [show d.natAbs = d.toNat by have := h.pos; omega, hg] at this
      exact ⟨h.pos, h.le, h.lo, h.hi, by omega⟩
    · rintro ⟨a, b, c, e, f⟩
      exact ⟨a, b, c, e, by rw [show d.natAbs = d.toNat by omega, hg]; omega⟩
  clear hg hu
  rw [V]
  clear V
  cases t1 : decide (1 ≤ d)
  · go_enter Tryz.func8, Tryz.ntmps8
    go_wp2_with fail
    go_quiet (first | (go_at_call 26; exact Calls.quiet_of_same (most_any _)) | (go_at_call 31; exact Calls.quiet_of_same (S.out _)) | (go_at_call 30; exact Calls.quiet_of_same (G.out _)))
    go_wp2_with fail
    go_ret
    exact ⟨rfl, below_drewN (below_a (Below.refl _ _) _) _⟩
  · cases t2 : decide (d ≤ 4611686018427387904)
    · go_enter Tryz.func8, Tryz.ntmps8
      go_wp2_with fail
      go_quiet (first | (go_at_call 26; exact Calls.quiet_of_same (most_any _)) | (go_at_call 31; exact Calls.quiet_of_same (S.out _)) | (go_at_call 30; exact Calls.quiet_of_same (G.out _)))
      go_wp2_with fail
      go_ret
      exact ⟨rfl, below_drewN (below_a (Below.refl _ _) _) _⟩
    · cases t3 : decide (-4611686018427387904 ≤ n)
      · go_enter Tryz.func8, Tryz.ntmps8
        go_wp2_with fail
        go_quiet (first | (go_at_call 26; exact Calls.quiet_of_same (most_any _)) | (go_at_call 31; exact Calls.quiet_of_same (S.out _)) | (go_at_call 30; exact Calls.quiet_of_same (G.out _)))
        go_wp2_with fail
        go_ret
        exact ⟨rfl, below_drewN (below_a (Below.refl _ _) _) _⟩
      · cases t4 : decide (n ≤ 4611686018427387904)
        · go_enter Tryz.func8, Tryz.ntmps8
          go_wp2_with fail
          go_quiet (first | (go_at_call 26; exact Calls.quiet_of_same (most_any _)) | (go_at_call 31; exact Calls.quiet_of_same (S.out _)) | (go_at_call 30; exact Calls.quiet_of_same (G.out _)))
          go_wp2_with fail
          go_ret
          exact ⟨rfl, below_drewN (below_a (Below.refl _ _) _) _⟩
        · cases t5 : ((g : Int) == 1)
          · go_enter Tryz.func8, Tryz.ntmps8
            go_wp2_with fail
            go_quiet (first | (go_at_call 26; exact Calls.quiet_of_same (most_any _)) | (go_at_call 31; exact Calls.quiet_of_same (S.out _)) | (go_at_call 30; exact Calls.quiet_of_same (G.out _)))
            go_wp2_with fail
            go_ret
            exact ⟨rfl, below_drewN (below_a (Below.refl _ _) _) _⟩
          · go_enter Tryz.func8, Tryz.ntmps8
            go_wp2_with fail
            go_quiet (first | (go_at_call 26; exact Calls.quiet_of_same (most_any _)) | (go_at_call 31; exact Calls.quiet_of_same (S.out _)) | (go_at_call 30; exact Calls.quiet_of_same (G.out _)))
            go_wp2_with fail
            go_ret
            exact ⟨rfl, below_drewN (below_a (Below.refl _ _) _) _⟩
/-- The reference's text of a valid fraction. -/
theorem bytes_form (n d : Int) (h : Fr n d) : (⟨(textL n d).toArray⟩ : ByteArray) = (if n < 0 then (⟨#[45]⟩ : ByteArray) ++ ⟨(Lib.decDigits n.natAbs).toArray⟩ else ⟨(Lib.decDigits n.natAbs).toArray⟩) ++ (if d = 1 then (⟨#[]⟩ : ByteArray) else (⟨#[47]⟩ : ByteArray) ++ ⟨(Lib.decDigits d.toNat).toArray⟩) := by
  rw [text_form n d h]
  apply ByteArray.ext
  rw [show d.natAbs = d.toNat by have := h.pos; omega]
  by_cases h1 : n < 0 <;> by_cases h2 : d = 1 <;> simp [h1, h2, ByteArray.data_append]
theorem dec_size (u : Nat) (hu : u ≤ 4611686018427387904) : (⟨(Lib.decDigits u).toArray⟩ : ByteArray).size ≤ 20 := by
  simp only [ByteArray.size, List.size_toArray, Lib.decDigits_length]
  have := dec_len 18 u (by omega)
  omega
set_option maxRecDepth 100000 in
set_option maxHeartbeats 4000000 in
theorem rtext_any (n d : Int) (h : Fr n d) (w : World) :
    Calls Tryz.prog 25 #[.agg #[.int .i64 n, .int .i64 d]] w fun e w' => e = .returned (.string ⟨(textL n d).toArray⟩) ∧ Below w.heap.size w w' := by
  have hlo := h.lo
  have hhi := h.hi
  have hp := h.pos
  have hle := h.le
  rw [bytes_form n d h]
  have S := hid (fun w => size_any n (by omega) (by omega) w)
  have D1 := hid (fun w => rdigits_any n.natAbs (by omega) w)
  have D2 := hid (fun w => rdigits_any d.toNat (by omega) w)
  rw [show ((d.toNat : Nat) : Int) = d by omega] at D2
  have s1 := dec_size n.natAbs (by omega)
  have s2 := dec_size d.toNat (by omega)
  obtain ⟨T1, hT1⟩ : ∃ T : ByteArray, (⟨(Lib.decDigits n.natAbs).toArray⟩ : ByteArray) = T := ⟨_, rfl⟩
  obtain ⟨T2, hT2⟩ : ∃ T : ByteArray, (⟨(Lib.decDigits d.toNat).toArray⟩ : ByteArray) = T := ⟨_, rfl⟩
  obtain ⟨u, hu⟩ : ∃ u : Int, (n.natAbs : Int) = u := ⟨_, rfl⟩
  rw [hT1] at D1 s1 ⊢
  rw [hT2] at D2 s2 ⊢
  rw [hu] at D1 S
  clear hT1 hT2 hu h hlo hhi hle
  have L1 : (⟨#[45]⟩ : ByteArray).size = 1 := rfl
  have L2 : (⟨#[47]⟩ : ByteArray).size = 1 := rfl
  obtain ⟨E, hE⟩ : ∃ E : ByteArray, (if n < 0 then (⟨#[45]⟩ : ByteArray) ++ T1 else T1) ++ (if d = 1 then (⟨#[]⟩ : ByteArray) else (⟨#[47]⟩ : ByteArray) ++ T2) = E := ⟨_, rfl⟩
  rw [hE]
  by_cases hn : n < 0
  · rw [if_pos hn] at hE
    have L3 : ((⟨#[45]⟩ : ByteArray) ++ T1).size = 1 + T1.size := by simp only [ByteArray.size_append, L1]
    by_cases hd : d = 1
    · rw [if_pos hd] at hE
      have EQ := hid (show (⟨#[45]⟩ : ByteArray) ++ T1 = E by rw [← hE]; apply ByteArray.ext; simp [ByteArray.data_append])
      subst hd
      clear hE
      go_enter Tryz.func25, Tryz.ntmps25
      go_wp2_with fail
      refine (S.out _).mono ?_
      rintro e w1 ⟨rfl, rfl⟩
      go_wp2_with fail
      refine (D1.out _).mono ?_
      rintro e w1 ⟨rfl, rfl⟩
      go_wp2_with fail
      go_ret
      exact ⟨by rw [EQ.out]; rfl, below_a (Below.refl _ _) _⟩
    · rw [if_neg hd] at hE
      have L4 : ((⟨#[45]⟩ : ByteArray) ++ T1 ++ (⟨#[47]⟩ : ByteArray)).size = 1 + T1.size + 1 := by simp only [ByteArray.size_append, L1, L2]
      have EQ := hid (show (⟨#[45]⟩ : ByteArray) ++ T1 ++ (⟨#[47]⟩ : ByteArray) ++ T2 = E by rw [← hE]; apply ByteArray.ext; simp [ByteArray.data_append])
      have hd2 : (d == 1) = false := by rw [beq_eq_false_iff_ne]; exact hd
      clear hE hd
      go_enter Tryz.func25, Tryz.ntmps25
      go_wp2_with fail
      refine (S.out _).mono ?_
      rintro e w1 ⟨rfl, rfl⟩
      go_wp2_with fail
      refine (D1.out _).mono ?_
      rintro e w1 ⟨rfl, rfl⟩
      go_wp2_with fail
      refine (D2.out _).mono ?_
      rintro e w1 ⟨rfl, rfl⟩
      go_wp2_with fail
      go_ret
      exact ⟨by rw [EQ.out]; rfl, below_a (Below.refl _ _) _⟩
  · rw [if_neg hn] at hE
    by_cases hd : d = 1
    · rw [if_pos hd] at hE
      have EQ := hid (show T1 = E by rw [← hE]; apply ByteArray.ext; simp [ByteArray.data_append])
      subst hd
      clear hE
      go_enter Tryz.func25, Tryz.ntmps25
      go_wp2_with fail
      refine (S.out _).mono ?_
      rintro e w1 ⟨rfl, rfl⟩
      go_wp2_with fail
      refine (D1.out _).mono ?_
      rintro e w1 ⟨rfl, rfl⟩
      go_wp2_with fail
      go_ret
      exact ⟨by rw [EQ.out]; rfl, below_a (Below.refl _ _) _⟩
    · rw [if_neg hd] at hE
      have L4 : (T1 ++ (⟨#[47]⟩ : ByteArray)).size = T1.size + 1 := by simp only [ByteArray.size_append, L2]
      have EQ := hid (show T1 ++ (⟨#[47]⟩ : ByteArray) ++ T2 = E by rw [← hE]; apply ByteArray.ext; simp [ByteArray.data_append])
      have hd2 : (d == 1) = false := by rw [beq_eq_false_iff_ne]; exact hd
      clear hE hd
      go_enter Tryz.func25, Tryz.ntmps25
      go_wp2_with fail
      refine (S.out _).mono ?_
      rintro e w1 ⟨rfl, rfl⟩
      go_wp2_with fail
      refine (D1.out _).mono ?_
      rintro e w1 ⟨rfl, rfl⟩
      go_wp2_with fail
      refine (D2.out _).mono ?_
      rintro e w1 ⟨rfl, rfl⟩
      go_wp2_with fail
      go_ret
      exact ⟨by rw [EQ.out]; rfl, below_a (Below.refl _ _) _⟩
end Go.Proofs.YtffcnkkgbhhfnaaGreatDoor

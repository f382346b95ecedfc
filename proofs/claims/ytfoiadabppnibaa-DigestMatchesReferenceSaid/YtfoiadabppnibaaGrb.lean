import Derived.Test.YtfoiadabppnibaaGn
import Derived.Test.YtfoiadabppnibaaGra
namespace Go.Proofs.Ytfoiadabppnibaa
open Go.RowKit Go.Instr
set_option linter.unusedVariables false

/-! The reference's 'unshifted', 'inverse', 'Back'. -/
theorem andV (a b : BitVec 64) : bits .and .u64 (a.toNat : Int) (b.toNat : Int) = ((a &&& b).toNat : Int) := by
  rw [bits_and_u64_nat _ _ a.isLt b.isLt, BitVec.toNat_and]
theorem orV2 (a b : BitVec 64) : bits .or .u64 (a.toNat : Int) (b.toNat : Int) = ((a ||| b).toNat : Int) := by
  rw [bits_or_u64_nat _ _ a.isLt b.isLt, BitVec.toNat_or]
theorem shlV (k : Nat) : IntKind.u64.wrap (1 * 2 ^ k) = ((1#64 <<< k).toNat : Int) := by
  rw [BitVec.toNat_shiftLeft, Nat.shiftLeft_eq, show (1 : Int) * 2 ^ k = ((1 * 2 ^ k : Nat) : Int) by simp, wrapU]
  rfl
theorem unsh29 (v : Int) (x : BitVec 64) (e : v = (x.toNat : Int)) (w : World) : Calls Try.prog 29 #[.int .u64 v, .int .i64 29] w fun e w' => e = .returned (.int .u64 ((unfoldB 29 x).toNat : Int)) ∧ w = w' := by
  subst e
  go_enter Try.func29, Try.ntmps29
  go_wp2
  go_loop [5, 6] (fun y i => ∃ k : Nat, k ≤ 64 ∧ i = .int .i64 k ∧ y = .int .u64 ((unshB x 29 k).toNat : Int)) (fun _ i => 64 - (intOf i).toNat)
  case atStart => exact ⟨0, by omega, rfl, rfl⟩
  case round =>
    obtain ⟨k, hk, rfl, rfl⟩ := hrel
    by_cases hlt : k < 64
    · go_wp2
      go_round
      case rel => exact ⟨k + 1, by omega, by go_num, by rw [shrV29, xorV]; rfl⟩
      case measure => simp [intOf]; omega
    · obtain rfl : k = 64 := by omega
      go_wp2
      go_ret
      exact ⟨ret_int (by rw [unsh_two x 29 (by omega) 62]), rfl⟩
theorem unsh32 (v : Int) (x : BitVec 64) (e : v = (x.toNat : Int)) (w : World) : Calls Try.prog 29 #[.int .u64 v, .int .i64 32] w fun e w' => e = .returned (.int .u64 ((unfoldB 32 x).toNat : Int)) ∧ w = w' := by
  subst e
  go_enter Try.func29, Try.ntmps29
  go_wp2
  go_loop [5, 6] (fun y i => ∃ k : Nat, k ≤ 64 ∧ i = .int .i64 k ∧ y = .int .u64 ((unshB x 32 k).toNat : Int)) (fun _ i => 64 - (intOf i).toNat)
  case atStart => exact ⟨0, by omega, rfl, rfl⟩
  case round =>
    obtain ⟨k, hk, rfl, rfl⟩ := hrel
    by_cases hlt : k < 64
    · go_wp2
      go_round
      case rel => exact ⟨k + 1, by omega, by go_num, by rw [shrV32, xorV]; rfl⟩
      case measure => simp [intOf]; omega
    · obtain rfl : k = 64 := by omega
      go_wp2
      go_ret
      exact ⟨ret_int (by rw [unsh_two x 32 (by omega) 62]), rfl⟩
theorem rinv_test (a : BitVec 64) (k : Nat) : bits .and .u64 (IntKind.u64.wrap (((rinv a k).toNat : Int) * (a.toNat : Int)) / 2 ^ k) 1 = ((((rinv a k * a) >>> k) &&& 1#64).toNat : Int) := by
  rw [mulV, shrV]
  exact andV _ 1#64
theorem rinv_f (a : BitVec 64) (k : Nat) (h0 : k ≠ 0) (h : (bits .and .u64 (IntKind.u64.wrap (((rinv a k).toNat : Int) * (a.toNat : Int)) / 2 ^ k) 1 != 0) = false) : ((rinv a k).toNat : Int) = ((rinv a (k + 1)).toNat : Int) := by
  rw [rinv_test, bne_eq_false_iff_eq] at h
  rw [rinv, if_pos]
  rw [if_neg h0]
  apply BitVec.eq_of_toNat_eq
  have : (0#64).toNat = 0 := rfl
  omega
theorem rinv_t (a : BitVec 64) (k : Nat) (h0 : k ≠ 0) (h : (bits .and .u64 (IntKind.u64.wrap (((rinv a k).toNat : Int) * (a.toNat : Int)) / 2 ^ k) 1 != 0) = true) : bits .or .u64 ((rinv a k).toNat : Int) (IntKind.u64.wrap (2 ^ k)) = ((rinv a (k + 1)).toNat : Int) := by
  rw [rinv_test] at h
  rw [rinv, if_neg, ← orV2, ← shlV, Int.one_mul]
  rw [if_neg h0]
  intro e
  rw [e] at h
  exact absurd h (by decide)
theorem rinv_0 (a : BitVec 64) : bits .or .u64 ((rinv a 0).toNat : Int) 1 = ((rinv a 1).toNat : Int) := by
  have e : (rinv a 0 * a) >>> 0 &&& 1#64 = 0#64 := by show (0#64 * a) >>> 0 &&& 1#64 = 0#64; rw [BitVec.zero_mul]; decide
  show _ = (((if ((rinv a 0 * a) >>> 0) &&& 1#64 = (if 0 = 0 then 1#64 else 0#64) then rinv a 0 else rinv a 0 ||| (1#64 <<< 0) : BitVec 64)).toNat : Int)
  rw [e, if_neg (by decide), ← orV2]
  rfl
theorem rinv_0t (a : BitVec 64) : (bits .and .u64 (IntKind.u64.wrap (((rinv a 0).toNat : Int) * (a.toNat : Int))) 1 != 1) = true := by
  show (bits .and .u64 (IntKind.u64.wrap ((((0#64 : BitVec 64)).toNat : Int) * (a.toNat : Int))) 1 != 1) = true
  rw [mulV, BitVec.zero_mul]
  decide
set_option maxHeartbeats 1000000 in
theorem rinv_any (a : BitVec 64) (w : World) : Calls Try.prog 30 #[.int .u64 (a.toNat : Int)] w fun e w' => e = .returned (.int .u64 ((rinv a 64).toNat : Int)) ∧ w = w' := by
  go_enter Try.func30, Try.ntmps30
  go_wp2
  go_loop [3, 4] (fun y i => ∃ k : Nat, k ≤ 64 ∧ i = .int .i64 k ∧ y = .int .u64 ((rinv a k).toNat : Int)) (fun _ i => 64 - (intOf i).toNat)
  case atStart => exact ⟨0, by omega, rfl, rfl⟩
  case round =>
    obtain ⟨k, hk, rfl, rfl⟩ := hrel
    by_cases hlt : k < 64
    · by_cases h0 : k = 0
      · subst h0
        have ht := rinv_0t a
        have HO := hid (rinv_0 a)
        go_wp2
        go_round
        case rel => exact ⟨1, by omega, rfl, by rw [HO.out]⟩
        case measure => simp [intOf]
      · have h1 : ((k : Int) == 0) = false := by rw [beq_eq_false_iff_ne]; omega
        go_wp2
        all_goals
          go_round
          case rel =>
            first
              | (have h : (bits .and .u64 (IntKind.u64.wrap (((rinv a k).toNat : Int) * (a.toNat : Int)) / 2 ^ k) 1 != 0) = true := by assumption
                 exact ⟨k + 1, by omega, by go_num, by rw [rinv_t a k h0 h]⟩)
              | (have h : (bits .and .u64 (IntKind.u64.wrap (((rinv a k).toNat : Int) * (a.toNat : Int)) / 2 ^ k) 1 != 0) = false := by assumption
                 exact ⟨k + 1, by omega, by go_num, by rw [rinv_f a k h0 h]⟩)
          case measure => simp [intOf]; omega
    · obtain rfl : k = 64 := by omega
      go_wp2
      go_ret
      exact ⟨rfl, rfl⟩
end Go.Proofs.Ytfoiadabppnibaa

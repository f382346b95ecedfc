import Derived.Test.YtfoiadabppnibaaGw
import Derived.Laws.CopyOwn
import Derived.Laws.Rows
namespace Go.Proofs.Ytfoiadabppnibaa
open Go.RowKit Go.Instr
set_option linter.unusedVariables false

/-! 'digest.number', 'digest.Bytes'. -/
theorem ix0 (x0 x1 x2 x3 x4 x5 x6 x7 : Value) (w : World) : (Instr.index 41 (.agg #[x0, x1, x2, x3, x4, x5, x6, x7]) (.int .i64 0)).run Try.prog w = .ok x0 w := by kernel_rfl
theorem ix1 (x0 x1 x2 x3 x4 x5 x6 x7 : Value) (w : World) : (Instr.index 41 (.agg #[x0, x1, x2, x3, x4, x5, x6, x7]) (.int .i64 1)).run Try.prog w = .ok x1 w := by kernel_rfl
theorem ix2 (x0 x1 x2 x3 x4 x5 x6 x7 : Value) (w : World) : (Instr.index 41 (.agg #[x0, x1, x2, x3, x4, x5, x6, x7]) (.int .i64 2)).run Try.prog w = .ok x2 w := by kernel_rfl
theorem ix3 (x0 x1 x2 x3 x4 x5 x6 x7 : Value) (w : World) : (Instr.index 41 (.agg #[x0, x1, x2, x3, x4, x5, x6, x7]) (.int .i64 3)).run Try.prog w = .ok x3 w := by kernel_rfl
theorem ix4 (x0 x1 x2 x3 x4 x5 x6 x7 : Value) (w : World) : (Instr.index 41 (.agg #[x0, x1, x2, x3, x4, x5, x6, x7]) (.int .i64 4)).run Try.prog w = .ok x4 w := by kernel_rfl
theorem ix5 (x0 x1 x2 x3 x4 x5 x6 x7 : Value) (w : World) : (Instr.index 41 (.agg #[x0, x1, x2, x3, x4, x5, x6, x7]) (.int .i64 5)).run Try.prog w = .ok x5 w := by kernel_rfl
theorem ix6 (x0 x1 x2 x3 x4 x5 x6 x7 : Value) (w : World) : (Instr.index 41 (.agg #[x0, x1, x2, x3, x4, x5, x6, x7]) (.int .i64 6)).run Try.prog w = .ok x6 w := by kernel_rfl
theorem ix7 (x0 x1 x2 x3 x4 x5 x6 x7 : Value) (w : World) : (Instr.index 41 (.agg #[x0, x1, x2, x3, x4, x5, x6, x7]) (.int .i64 7)).run Try.prog w = .ok x7 w := by kernel_rfl
theorem ix_any (b0 b1 b2 b3 b4 b5 b6 b7 : UInt8) (k : Nat) (hk : k < 8) (w : World) : (Instr.index 41 (.agg #[.int .u8 (b0.toNat : Int), .int .u8 (b1.toNat : Int), .int .u8 (b2.toNat : Int), .int .u8 (b3.toNat : Int), .int .u8 (b4.toNat : Int), .int .u8 (b5.toNat : Int), .int .u8 (b6.toNat : Int), .int .u8 (b7.toNat : Int)]) (.int .i64 (k : Int))).run Try.prog w = .ok (.int .u8 (([b0, b1, b2, b3, b4, b5, b6, b7][k]'hk).toNat : Int)) w := by
  have h : k = 0 ∨ k = 1 ∨ k = 2 ∨ k = 3 ∨ k = 4 ∨ k = 5 ∨ k = 6 ∨ k = 7 := by omega
  rcases h with rfl | rfl | rfl | rfl | rfl | rfl | rfl | rfl
  · exact ix0 ..
  · exact ix1 ..
  · exact ix2 ..
  · exact ix3 ..
  · exact ix4 ..
  · exact ix5 ..
  · exact ix6 ..
  · exact ix7 ..
theorem num_take (l : List UInt8) (k : Nat) (hk : k < l.length) : numL (l.take (k + 1)) = numL (l.take k) + l[k].toNat * 2 ^ (8 * k) := by
  rw [List.take_succ_eq_append_getElem hk, numL_snoc, List.length_take, Nat.min_eq_left (by omega), Nat.pow_mul]
theorem num_take_lt (l : List UInt8) (k : Nat) : numL (l.take k) < 2 ^ (8 * k) := by
  have := numL_lt (l.take k)
  refine Nat.lt_of_lt_of_le this ?_
  rw [Nat.pow_mul]
  exact Nat.pow_le_pow_right (by omega) (by simp; omega)
theorem orV (n k : Nat) (b : UInt8) (hk : k < 8) (h : n < 2 ^ (8 * k)) : bits .or .u64 (n : Int) (IntKind.u64.wrap (IntKind.u64.wrap (b.toNat : Int) * 2 ^ (8 * k))) = ((n + b.toNat * 2 ^ (8 * k) : Nat) : Int) := by
  have hb := b.toNat_lt
  have e1 : IntKind.u64.wrap (b.toNat : Int) = (b.toNat : Int) := by rw [IntKind.wrap_u64]; omega
  have p1 : (2 : Nat) ^ (8 * k) ≤ 2 ^ 56 := Nat.pow_le_pow_right (by omega) (by omega)
  have p2 : b.toNat * 2 ^ (8 * k) ≤ 255 * 2 ^ 56 := Nat.mul_le_mul (by omega) p1
  have e2 : (b.toNat : Int) * 2 ^ (8 * k) = ((b.toNat * 2 ^ (8 * k) : Nat) : Int) := by simp
  rw [e1, e2, wrapU, Nat.mod_eq_of_lt (by omega), bits_or_u64_nat _ _ (by omega) (by omega), or_sum _ _ _ h]
set_option maxHeartbeats 4000000 in
theorem number_any (b0 b1 b2 b3 b4 b5 b6 b7 : UInt8) (w : World) :
    Calls Try.prog 25 #[.agg #[.int .u8 (b0.toNat : Int), .int .u8 (b1.toNat : Int), .int .u8 (b2.toNat : Int), .int .u8 (b3.toNat : Int), .int .u8 (b4.toNat : Int), .int .u8 (b5.toNat : Int), .int .u8 (b6.toNat : Int), .int .u8 (b7.toNat : Int)]] w fun e w' => e = .returned (.int .u64 ((numL [b0, b1, b2, b3, b4, b5, b6, b7] : Nat) : Int)) ∧ Below w.heap.size w w' := by
  have i0 := ix_any b0 b1 b2 b3 b4 b5 b6 b7
  obtain ⟨B, hB⟩ : ∃ B : List UInt8, [b0, b1, b2, b3, b4, b5, b6, b7] = B := ⟨_, rfl⟩
  have hl : 8 ≤ B.length := by rw [← hB]; simp
  have hl2 : B.length ≤ 8 := by rw [← hB]; simp
  have HI := hid (show ∀ (k : Nat) (hk : k < 8) (w : World), (Instr.index 41 (.agg #[.int .u8 (b0.toNat : Int), .int .u8 (b1.toNat : Int), .int .u8 (b2.toNat : Int), .int .u8 (b3.toNat : Int), .int .u8 (b4.toNat : Int), .int .u8 (b5.toNat : Int), .int .u8 (b6.toNat : Int), .int .u8 (b7.toNat : Int)]) (.int .i64 (k : Int))).run Try.prog w = .ok (.int .u8 ((B[k]'(by omega)).toNat : Int)) w by subst hB; exact i0)
  rw [hB]
  clear i0 hB
  go_enter Try.func25, Try.ntmps25
  go_wp2
  go_loop [3, 7] (fun x i => ∃ k : Nat, k ≤ 8 ∧ i = .int .i64 k ∧ x = .int .u64 ((numL (B.take k) : Nat) : Int)) (fun _ i => 8 - (intOf i).toNat)
  case atStart => exact ⟨0, by omega, rfl, rfl⟩
  case round =>
    obtain ⟨k, hk, rfl, rfl⟩ := hrel
    by_cases hlt : k < 8
    · have hi := HI.out k hlt
      obtain ⟨n, hn⟩ : ∃ n : Nat, numL (B.take k) = n := ⟨_, rfl⟩
      rw [hn]
      have HN := hid hn
      clear hn
      go_wp2
      go_round
      case rel => exact ⟨k + 1, by omega, by go_num, by rw [num_take B k (by omega), orV n k _ hlt (by rw [← HN.out]; exact num_take_lt B k), HN.out]⟩
      case measure => simp [intOf]; omega
    · obtain rfl : k = 8 := by omega
      go_wp2
      go_ret
      exact ⟨ret_int (by rw [List.take_of_length_le hl2]), below_a (Below.refl _ _) _⟩
end Go.Proofs.Ytfoiadabppnibaa

import Derived.Test.YtnholabamjodhaaAf
namespace Go.Proofs.Ytnholabamjodhaa
open Go.RowKit Go.Instr Sp
set_option linter.unusedVariables false
set_option linter.unusedSimpArgs false

/-! Small lemmas on numbers, and on a drawn world. -/
theorem cellD {w : World} {a : Addr} {x : Value} (h : w.cell? a = some x) : w.drew.cell? a = some x := h
theorem run_min4 {P : Program} (ts : Array TypeId) (t : TypeId) (p q r s : Int) (w : World) : (Builtin.min_ ts t #[.int .i64 p, .int .i64 q, .int .i64 r, .int .i64 s]).run P w = .ok (.int .i64 (min (min (min p q) r) s)) w := by
  have e : ∀ x y : Int, (if y < x then y else x) = min x y := by intro x y; split <;> omega
  simp [Builtin.min_, Builtin.min2, e]
theorem run_max4 {P : Program} (ts : Array TypeId) (t : TypeId) (p q r s : Int) (w : World) : (Builtin.max_ ts t #[.int .i64 p, .int .i64 q, .int .i64 r, .int .i64 s]).run P w = .ok (.int .i64 (max (max (max p q) r) s)) w := by
  have e : ∀ x y : Int, (if x < y then y else x) = max x y := by intro x y; split <;> omega
  simp [Builtin.max_, Builtin.max2, e]
theorem mul_far1 {x y : Int} (h1 : -2147483647 ≤ x) (h2 : x ≤ 2147483647) (h3 : -2147483648 ≤ y) (h4 : y ≤ 2147483648) : x * y ≤ 4611686016279904256 := by
  have e : (x * y).natAbs ≤ 2147483647 * 2147483648 := by
    rw [Int.natAbs_mul]
    exact Nat.mul_le_mul (by omega) (by omega)
  omega
theorem mul_far {x y : Int} (h1 : -2147483648 ≤ x) (h2 : x ≤ 2147483648) (h3 : -2147483648 ≤ y) (h4 : y ≤ 2147483648) : -4611686018427387904 ≤ x * y ∧ x * y ≤ 4611686018427387904 := by
  have e : (x * y).natAbs ≤ 2147483648 * 2147483648 := by
    rw [Int.natAbs_mul]
    exact Nat.mul_le_mul (by omega) (by omega)
  omega
theorem mul_big {x y : Int} (h1 : 0 ≤ x) (h2 : x ≤ 2147483648) (h3 : 0 ≤ y) (h4 : y ≤ 4294967295) : x * y ≤ 9223372036854775807 := by
  have a := Int.mul_le_mul_of_nonneg_right h2 h3
  have b := Int.mul_le_mul_of_nonneg_left h4 (show (0 : Int) ≤ 2147483648 by omega)
  omega
theorem stp_lt {a : Ab} (A : Val a) : stp a ≤ 4294967295 := by
  obtain ⟨s0, s1, s2, s3⟩ := val_stp A
  by_cases h : stp a = 0
  · omega
  · have h2 := Int.le_of_dvd (by have := (s3 h).2.1; omega) s1
    have := A.l; have := A.h; omega
end Go.Proofs.Ytnholabamjodhaa

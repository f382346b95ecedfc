import Derived.Test.YtpncjepigcnfeaaExa
import Derived.Test.YtpncjepigcnfeaaPost
namespace Go.Proofs.Ytpncjepigcnfeaa
open Go.ChangeShapes Go.WideShapes Go.ChangeAt Go.RowKit
theorem own : ownKnob Try.prog.godebug = none := by kernel_rfl
theorem bd32 {a : Int} (h : (Lit.int .i32 a).wf = true) : -2147483648 ≤ a ∧ a ≤ 2147483647 := by
  have h1 : IntKind.i32.min ≤ a ∧ a ≤ IntKind.i32.max := by simpa [Lit.wf] using h
  exact h1

theorem w32 {a : Int} (h : -2147483648 ≤ a ∧ a ≤ 2147483647) : wrap32 a = a := by unfold wrap32; omega
theorem w32_bd' (a : Int) : -2147483648 ≤ wrap32 a ∧ wrap32 a ≤ 2147483647 := by unfold wrap32; omega
/-- A number and its wrapped form differ by a multiple of 2^32. -/
theorem w32_dvd (a : Int) : ∃ k, wrap32 a = a + 4294967296 * k := ⟨-((a + 2147483648) / 4294967296), by unfold wrap32; omega⟩
/-- Numbers that differ by a multiple of 2^32 have one wrapped form. -/
theorem w32_of (a b k : Int) (h : a = b + 4294967296 * k) : wrap32 a = wrap32 b := by subst h; unfold wrap32; omega

theorem add_assoc32 (a b c : Int) : wrap32 (wrap32 (a + b) + c) = wrap32 (a + wrap32 (b + c)) := by unfold wrap32; omega
theorem mul_left32 (a b : Int) : wrap32 (wrap32 a * b) = wrap32 (a * b) := by
  obtain ⟨k, hk⟩ := w32_dvd a
  exact w32_of _ _ (k * b) (by rw [hk, Int.add_mul, Int.mul_assoc])
theorem mul_right32 (a b : Int) : wrap32 (a * wrap32 b) = wrap32 (a * b) := by rw [Int.mul_comm, mul_left32, Int.mul_comm]
theorem mul_assoc32 (a b c : Int) : wrap32 (wrap32 (a * b) * c) = wrap32 (a * wrap32 (b * c)) := by rw [mul_left32, mul_right32, Int.mul_assoc]
theorem add_left32 (a b : Int) : wrap32 (wrap32 a + b) = wrap32 (a + b) := by unfold wrap32; omega
theorem add_right32 (a b : Int) : wrap32 (a + wrap32 b) = wrap32 (a + b) := by unfold wrap32; omega
theorem dist32 (a b c : Int) : wrap32 (wrap32 (a + b) * c) = wrap32 (wrap32 (a * c) + wrap32 (b * c)) := by
  rw [mul_left32, add_left32, add_right32, Int.add_mul]
theorem sub_add32 (a b : Int) (h : -2147483648 ≤ a ∧ a ≤ 2147483647) : wrap32 (wrap32 (a - b) + b) = a := by
  rw [add_left32, Int.sub_add_cancel, w32 h]
theorem opF4 (a b : Int) : opF 4 a b = wrap32 (wrap32 a + wrap32 b) := rfl
theorem opF5 (a b : Int) : opF 5 a b = wrap32 (wrap32 a - wrap32 b) := rfl
theorem opF6 (a b : Int) : opF 6 a b = wrap32 (wrap32 a * wrap32 b) := rfl

theorem cong_mod {x y : Int} (h : ∃ k, x = y + 4294967296 * k) : (x - y).tmod 4294967296 = 0 := by
  obtain ⟨k, rfl⟩ := h
  rw [show y + 4294967296 * k - y = 4294967296 * k by omega]
  exact Int.mul_tmod_right ..

set_option maxHeartbeats 400000 in
theorem cong_any (x y : Int) (h : ∃ k, x = y + 4294967296 * k) (hlo : -9223372036854775808 ≤ x - y) (hhi : x - y ≤ 9223372036854775807) (w : World) :
    Calls Try.prog 30 #[.int .i64 x, .int .i64 y] w fun e w' => e = .returned (.bool true) ∧ w = w' := by
  have h0 : ((x - y).tmod 4294967296 == 0) = true := by rw [cong_mod h]; rfl
  clear h
  go_enter Try.func30, Try.ntmps30
  go_wp2
  go_ret
  exact ⟨rfl, rfl⟩

theorem mul_bd (a b : Int) (a1 : -2147483648 ≤ a) (a2 : a ≤ 2147483647) (b1 : -2147483648 ≤ b) (b2 : b ≤ 2147483647) : -4611686018427387904 ≤ a * b ∧ a * b ≤ 4611686018427387904 := by
  have h : (a * b).natAbs ≤ 2147483648 * 2147483648 := by
    rw [Int.natAbs_mul]
    exact Nat.mul_le_mul (by omega) (by omega)
  omega
end Go.Proofs.Ytpncjepigcnfeaa

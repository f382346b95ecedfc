import Derived.Test.YtfoiadabppnibaaGm
import Derived.Test.YtfoiadabppnibaaRows
import Derived.WalkKit
import Derived.WalkSpells
import Derived.WalkLawsBesides
import Derived.RegionTactic
import Derived.LoopTactic
import Derived.Deep.QuietTactic
import Derived.BigQuiet
import Derived.Outline
import Derived.Below
import Derived.Deep.Draws
import Derived.Laws.Bits64
import Derived.Laws.Bits64b
import Derived.Laws.BitsAllLaws
namespace Go.Proofs.Ytfoiadabppnibaa
open Go.RowKit Go.Instr
set_option linter.unusedVariables false

/-! The steps of digests: 'digest.fold', 'unfold', 'inverse', 'Step', 'Back', 'Join'. -/
theorem hid {p : Prop} (h : p) : Hid p := h
theorem ret_int {k : IntKind} {a b : Int} (h : a = b) : Ending.returned (.int k a) = .returned (.int k b) := by rw [h]
theorem below_step {w w1 w2 : World} (h : Below w.heap.size w w1) (k : Below w1.heap.size w1 w2) : Below w.heap.size w w2 := h.trans (k.mono h.size)
theorem below_a {w w' : World} (h : Below w.heap.size w w') (o : Obj) : Below w.heap.size w (w'.alloc o) := h.alloc h.size o
theorem wrapU (a : Nat) : IntKind.u64.wrap (a : Int) = ((a % 18446744073709551616 : Nat) : Int) := by rw [IntKind.wrap_u64]; omega
theorem xorV (a b : BitVec 64) : bits .xor .u64 (a.toNat : Int) (b.toNat : Int) = ((a ^^^ b).toNat : Int) := by
  rw [bits_xor_u64_nat _ _ a.isLt b.isLt, BitVec.toNat_xor]
theorem mulV (a b : BitVec 64) : IntKind.u64.wrap ((a.toNat : Int) * (b.toNat : Int)) = ((a * b).toNat : Int) := by
  rw [← Int.natCast_mul, wrapU, BitVec.toNat_mul]
theorem subV (a b : BitVec 64) : IntKind.u64.wrap ((a.toNat : Int) - (b.toNat : Int)) = ((a - b).toNat : Int) := by
  rw [IntKind.wrap_u64, BitVec.toNat_sub]
  have := a.isLt
  have := b.isLt
  omega
theorem shrV (a : BitVec 64) (n : Nat) : (a.toNat : Int) / 2 ^ n = ((a >>> n).toNat : Int) := by
  rw [BitVec.toNat_ushiftRight, Nat.shiftRight_eq_div_pow]
  simp
theorem shrV29 (a : BitVec 64) : (a.toNat : Int) / (536870912 : Int) = ((a >>> 29).toNat : Int) := shrV a 29
theorem shrV32 (a : BitVec 64) : (a.toNat : Int) / (4294967296 : Int) = ((a >>> 32).toNat : Int) := shrV a 32
theorem shrV64 (a : BitVec 64) : (a.toNat : Int) / (18446744073709551616 : Int) = ((a >>> 64).toNat : Int) := shrV a 64
theorem shrV58 (a : BitVec 64) : (a.toNat : Int) / (288230376151711744 : Int) = ((a >>> 58).toNat : Int) := shrV a 58

def invIt (n : BitVec 64) : Nat → BitVec 64
  | 0 => n
  | k + 1 => invIt n k * (2#64 - n * invIt n k)
theorem inv_round (n : BitVec 64) (k : Nat) : IntKind.u64.wrap (((invIt n k).toNat : Int) * IntKind.u64.wrap (2 - IntKind.u64.wrap ((n.toNat : Int) * ((invIt n k).toNat : Int)))) = ((invIt n (k + 1)).toNat : Int) := by
  rw [mulV, show IntKind.u64.wrap (2 - ((n * invIt n k).toNat : Int)) = ((2#64 - n * invIt n k).toNat : Int) from subV 2#64 _, mulV]
  rfl
theorem fold29 (x : BitVec 64) (w : World) : Calls Try.prog 26 #[.int .u64 (x.toNat : Int), .int .i64 29] w fun e w' => e = .returned (.int .u64 ((foldB 29 x).toNat : Int)) ∧ w = w' := by
  go_enter Try.func26, Try.ntmps26
  go_wp2
  go_ret
  exact ⟨ret_int (by rw [shrV29, xorV]; rfl), rfl⟩
theorem fold32 (x : BitVec 64) (w : World) : Calls Try.prog 26 #[.int .u64 (x.toNat : Int), .int .i64 32] w fun e w' => e = .returned (.int .u64 ((foldB 32 x).toNat : Int)) ∧ w = w' := by
  go_enter Try.func26, Try.ntmps26
  go_wp2
  go_ret
  exact ⟨ret_int (by rw [shrV32, xorV]; rfl), rfl⟩
theorem unfold29 (v : Int) (x : BitVec 64) (e : v = (x.toNat : Int)) (w : World) : Calls Try.prog 27 #[.int .u64 v, .int .i64 29] w fun e w' => e = .returned (.int .u64 ((unfoldB 29 x).toNat : Int)) ∧ ∃ n, w' = w.drewN n := by
  subst e
  go_enter Try.func27, Try.ntmps27
  go_wp2
  go_quiet (fail)
  go_wp2
  go_ret
  exact ⟨ret_int (by rw [shrV29, shrV58, xorV, xorV]; rfl), _, rfl⟩
theorem unfold32 (v : Int) (x : BitVec 64) (e : v = (x.toNat : Int)) (w : World) : Calls Try.prog 27 #[.int .u64 v, .int .i64 32] w fun e w' => e = .returned (.int .u64 ((unfoldB 32 x).toNat : Int)) ∧ ∃ n, w' = w.drewN n := by
  subst e
  go_enter Try.func27, Try.ntmps27
  go_wp2
  go_quiet (fail)
  go_wp2
  go_ret
  exact ⟨ret_int (by rw [shrV32, shrV64, xorV, xorV]; rfl), _, rfl⟩
theorem inverse_any (n : BitVec 64) (w : World) : Calls Try.prog 28 #[.int .u64 (n.toNat : Int)] w fun e w' => e = .returned (.int .u64 ((invIt n 5).toNat : Int)) ∧ w = w' := by
  go_enter Try.func28, Try.ntmps28
  go_wp2
  go_loop [3, 5] (fun x i => ∃ k : Nat, k ≤ 5 ∧ i = .int .i64 k ∧ x = .int .u64 ((invIt n k).toNat : Int)) (fun _ i => 5 - (intOf i).toNat)
  case atStart => exact ⟨0, by omega, rfl, rfl⟩
  case round =>
    obtain ⟨k, hk, rfl, rfl⟩ := hrel
    by_cases hlt : k < 5
    · go_wp2
      go_round
      case rel => exact ⟨k + 1, by omega, by go_num, by rw [inv_round]⟩
      case measure => simp [intOf]; omega
    · obtain rfl : k = 5 := by omega
      go_wp2
      go_ret
      exact ⟨rfl, rfl⟩
theorem fold29' (v : Int) (x : BitVec 64) (e : v = (x.toNat : Int)) (w : World) : Calls Try.prog 26 #[.int .u64 v, .int .i64 29] w fun e w' => e = .returned (.int .u64 ((foldB 29 x).toNat : Int)) ∧ w = w' := by subst e; exact fold29 x w
theorem fold32' (v : Int) (x : BitVec 64) (e : v = (x.toNat : Int)) (w : World) : Calls Try.prog 26 #[.int .u64 v, .int .i64 32] w fun e w' => e = .returned (.int .u64 ((foldB 32 x).toNat : Int)) ∧ w = w' := by subst e; exact fold32 x w
theorem step_any (h x : BitVec 64) (w : World) : Calls Try.prog 17 #[.int .u64 (h.toNat : Int), .int .u64 (x.toNat : Int)] w fun e w' => e = .returned (.int .u64 ((stepB h x).toNat : Int)) ∧ w = w' := by
  go_enter Try.func17, Try.ntmps17
  go_wp2_with fail
  refine (fold29' _ ((h ^^^ x) * c1) (by rw [xorV]; exact mulV _ c1) _).mono ?_
  rintro e w' ⟨rfl, rfl⟩
  go_wp2_with fail
  refine (fold32' _ (foldB 29 ((h ^^^ x) * c1) * c2) (mulV _ c2) _).mono ?_
  rintro e w' ⟨rfl, rfl⟩
  go_wp2
  go_ret
  exact ⟨rfl, rfl⟩
theorem join_any (a b : BitVec 64) (w : World) : Calls Try.prog 15 #[.int .u64 (a.toNat : Int), .int .u64 (b.toNat : Int)] w fun e w' => e = .returned (.int .u64 ((joinB a b).toNat : Int)) ∧ w = w' := by
  go_enter Try.func15, Try.ntmps15
  go_wp2_with fail
  refine (step_any c5 a _).mono ?_
  rintro e w' ⟨rfl, rfl⟩
  go_wp2_with fail
  refine (step_any _ b _).mono ?_
  rintro e w' ⟨rfl, rfl⟩
  go_wp2
  go_ret
  exact ⟨rfl, rfl⟩
theorem invIt1 : invIt c1 5 = invB c1 := rfl
theorem invIt2 : invIt c2 5 = invB c2 := rfl
theorem below_drewN {B : Nat} {a w : World} (h : Below B a w) (n : Nat) : Below B a (w.drewN n) := ⟨h.os, h.tape, h.output, h.size, h.block⟩
theorem back_any (h x : BitVec 64) (w : World) : Calls Try.prog 19 #[.int .u64 (h.toNat : Int), .int .u64 (x.toNat : Int)] w fun e w' => e = .returned (.int .u64 ((backB h x).toNat : Int)) ∧ Below w.heap.size w w' := by
  go_enter Try.func19, Try.ntmps19
  go_wp2_with fail
  refine (unfold32 _ x rfl _).mono ?_
  rintro e w1 ⟨rfl, n1, rfl⟩
  go_wp2_with fail
  refine (inverse_any c2 _).mono ?_
  rintro e w2 ⟨rfl, rfl⟩
  go_wp2_with fail
  refine (unfold29 _ (unfoldB 32 x * invIt c2 5) (mulV _ _) _).mono ?_
  rintro e w3 ⟨rfl, n3, rfl⟩
  go_wp2_with fail
  refine (inverse_any c1 _).mono ?_
  rintro e w4 ⟨rfl, rfl⟩
  go_wp2
  go_ret
  exact ⟨ret_int (by rw [mulV, xorV]; rfl), below_drewN (Below.refl _ _) _⟩
end Go.Proofs.Ytfoiadabppnibaa

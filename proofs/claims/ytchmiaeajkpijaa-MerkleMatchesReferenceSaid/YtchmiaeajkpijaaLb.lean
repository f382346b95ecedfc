import Derived.Test.YtchmiaeajkpijaaLm
import Derived.WalkKit
import Derived.WalkSpells
import Derived.WalkLawsBesides
import Derived.RegionTactic
import Derived.LoopTactic
import Derived.Deep.QuietTactic
import Derived.BigQuiet
import Derived.Outline
import Derived.Below
import Derived.Deep.Draws
import Derived.Laws.Bits64
import Derived.Laws.Bits64b
import Derived.Laws.BitsAllLaws
namespace Go.Proofs.Ytchmiaeajkpijaa
open Go.RowKit Go.Instr
set_option linter.unusedVariables false

/-! Steps and pairs of digests, of both packages. -/
theorem hid {p : Prop} (h : p) : Hid p := h
theorem ret_int {k : IntKind} {a b : Int} (h : a = b) : Ending.returned (.int k a) = .returned (.int k b) := by rw [h]
theorem below_step {w w1 w2 : World} (h : Below w.heap.size w w1) (k : Below w1.heap.size w1 w2) : Below w.heap.size w w2 := h.trans (k.mono h.size)
theorem below_a {w w' : World} (h : Below w.heap.size w w') (o : Obj) : Below w.heap.size w (w'.alloc o) := h.alloc h.size o
theorem below_drewN {B : Nat} {a w : World} (h : Below B a w) (n : Nat) : Below B a (w.drewN n) := ⟨h.os, h.tape, h.output, h.size, h.block⟩
theorem wrapU (a : Nat) : IntKind.u64.wrap (a : Int) = ((a % 18446744073709551616 : Nat) : Int) := by rw [IntKind.wrap_u64]; omega
theorem xorV (a b : BitVec 64) : bits .xor .u64 (a.toNat : Int) (b.toNat : Int) = ((a ^^^ b).toNat : Int) := by
  rw [bits_xor_u64_nat _ _ a.isLt b.isLt, BitVec.toNat_xor]
theorem mulV (a b : BitVec 64) : IntKind.u64.wrap ((a.toNat : Int) * (b.toNat : Int)) = ((a * b).toNat : Int) := by
  rw [← Int.natCast_mul, wrapU, BitVec.toNat_mul]
theorem shrV (a : BitVec 64) (n : Nat) : (a.toNat : Int) / 2 ^ n = ((a >>> n).toNat : Int) := by
  rw [BitVec.toNat_ushiftRight, Nat.shiftRight_eq_div_pow]
  simp
theorem shrV29 (a : BitVec 64) : (a.toNat : Int) / (536870912 : Int) = ((a >>> 29).toNat : Int) := shrV a 29
theorem shrV32 (a : BitVec 64) : (a.toNat : Int) / (4294967296 : Int) = ((a >>> 32).toNat : Int) := shrV a 32
theorem fold29' (v : Int) (x : BitVec 64) (e : v = (x.toNat : Int)) (w : World) : Calls Try.prog 38 #[.int .u64 v, .int .i64 29] w fun e w' => e = .returned (.int .u64 ((foldB 29 x).toNat : Int)) ∧ w = w' := by
  subst e
  go_enter Try.func38, Try.ntmps38
  go_wp2
  go_ret
  exact ⟨ret_int (by rw [shrV29, xorV]; rfl), rfl⟩
theorem fold32' (v : Int) (x : BitVec 64) (e : v = (x.toNat : Int)) (w : World) : Calls Try.prog 38 #[.int .u64 v, .int .i64 32] w fun e w' => e = .returned (.int .u64 ((foldB 32 x).toNat : Int)) ∧ w = w' := by
  subst e
  go_enter Try.func38, Try.ntmps38
  go_wp2
  go_ret
  exact ⟨ret_int (by rw [shrV32, xorV]; rfl), rfl⟩
theorem step_any (h x : BitVec 64) (w : World) : Calls Try.prog 29 #[.int .u64 (h.toNat : Int), .int .u64 (x.toNat : Int)] w fun e w' => e = .returned (.int .u64 ((stepB h x).toNat : Int)) ∧ w = w' := by
  go_enter Try.func29, Try.ntmps29
  go_wp2_with fail
  refine (fold29' _ ((h ^^^ x) * c1) (by rw [xorV]; exact mulV _ c1) _).mono ?_
  rintro e w' ⟨rfl, rfl⟩
  go_wp2_with fail
  refine (fold32' _ (foldB 29 ((h ^^^ x) * c1) * c2) (mulV _ c2) _).mono ?_
  rintro e w' ⟨rfl, rfl⟩
  go_wp2
  go_ret
  exact ⟨rfl, rfl⟩
theorem join_any (a b : BitVec 64) (w : World) : Calls Try.prog 14 #[.int .u64 (a.toNat : Int), .int .u64 (b.toNat : Int)] w fun e w' => e = .returned (.int .u64 ((joinB a b).toNat : Int)) ∧ w = w' := by
  go_enter Try.func14, Try.ntmps14
  go_wp2_with fail
  refine (step_any c5 a _).mono ?_
  rintro e w' ⟨rfl, rfl⟩
  go_wp2_with fail
  refine (step_any _ b _).mono ?_
  rintro e w' ⟨rfl, rfl⟩
  go_wp2
  go_ret
  exact ⟨rfl, rfl⟩
theorem join_v {x y : Int} (a b : BitVec 64) (ea : x = (a.toNat : Int)) (eb : y = (b.toNat : Int)) (w : World) : Calls Try.prog 14 #[.int .u64 x, .int .u64 y] w fun e w' => e = .returned (.int .u64 ((joinB a b).toNat : Int)) ∧ w = w' := by subst ea; subst eb; exact join_any a b w
theorem rstep_any (h x : BitVec 64) (w : World) : Calls Try.prog 33 #[.int .u64 (h.toNat : Int), .int .u64 (x.toNat : Int)] w fun e w' => e = .returned (.int .u64 ((stepB h x).toNat : Int)) ∧ w = w' := by
  go_enter Try.func33, Try.ntmps33
  go_wp2
  go_ret
  exact ⟨ret_int (by rw [xorV, show IntKind.u64.wrap (((h ^^^ x).toNat : Int) * 11400714819323198485) = (((h ^^^ x) * c1).toNat : Int) from mulV _ c1, shrV29, xorV, show ∀ y : BitVec 64, IntKind.u64.wrap ((y.toNat : Int) * 13787848793156543929) = ((y * c2).toNat : Int) from fun y => mulV y c2, shrV32, xorV]; rfl), rfl⟩
theorem rjoin_any (a b : BitVec 64) (w : World) : Calls Try.prog 18 #[.int .u64 (a.toNat : Int), .int .u64 (b.toNat : Int)] w fun e w' => e = .returned (.int .u64 ((joinB a b).toNat : Int)) ∧ w = w' := by
  go_enter Try.func18, Try.ntmps18
  go_wp2_with fail
  refine (rstep_any c5 a _).mono ?_
  rintro e w' ⟨rfl, rfl⟩
  go_wp2_with fail
  refine (rstep_any _ b _).mono ?_
  rintro e w' ⟨rfl, rfl⟩
  go_wp2
  go_ret
  exact ⟨rfl, rfl⟩
theorem rjoin_v {x y : Int} (a b : BitVec 64) (ea : x = (a.toNat : Int)) (eb : y = (b.toNat : Int)) (w : World) : Calls Try.prog 18 #[.int .u64 x, .int .u64 y] w fun e w' => e = .returned (.int .u64 ((joinB a b).toNat : Int)) ∧ w = w' := by subst ea; subst eb; exact rjoin_any a b w

/-! The greatest power of 2 below n, in both packages. -/
set_option maxHeartbeats 400000 in
theorem power_any (n : Nat) (h : 2 ≤ n) (hb : n ≤ 1000000) (w : World) : Calls Try.prog 30 #[.int .i64 (n : Int)] w fun e w' => e = .returned (.int .i64 (pw n : Int)) ∧ w = w' := by
  go_enter Try.func30, Try.ntmps30
  go_wp2
  go_loop [3] (fun v => ∃ p : Nat, PwAt n p ∧ p ≤ 1000000 ∧ v = .int .i64 (p : Int)) (fun v => n - (intOf v).toNat)
  case atStart => exact ⟨1, pwAt_1 h, by omega, rfl⟩
  case round =>
    obtain ⟨p, hp, hpb, rfl⟩ := hrel
    have h1 := hp.1
    have h2 := hp.2.1
    by_cases hlt : 2 * p < n
    · have HP := hid (hp.next hlt)
      have d : decide ((p : Int) < (n : Int) - (p : Int)) = true := by simp; omega
      clear hp
      go_wp2
      go_round
      case rel => exact ⟨2 * p, HP.out, by omega, by go_num⟩
      case measure => simp [intOf]; omega
    · have HP := hid (hp.done (by omega))
      have d : decide ((p : Int) < (n : Int) - (p : Int)) = false := by simp; omega
      clear hp
      go_wp2
      go_ret
      exact ⟨ret_int (by rw [HP.out]), rfl⟩
set_option maxHeartbeats 400000 in
theorem half_any (n : Nat) (h : 2 ≤ n) (hb : n ≤ 1000000) (w : World) : Calls Try.prog 32 #[.int .i64 (n : Int)] w fun e w' => e = .returned (.int .i64 (pw n : Int)) ∧ w = w' := by
  go_enter Try.func32, Try.ntmps32
  go_wp2
  go_loop [3] (fun v => ∃ p : Nat, PwAt n p ∧ p ≤ 1000000 ∧ v = .int .i64 (p : Int)) (fun v => n - (intOf v).toNat)
  case atStart => exact ⟨1, pwAt_1 h, by omega, rfl⟩
  case round =>
    obtain ⟨p, hp, hpb, rfl⟩ := hrel
    have h1 := hp.1
    have h2 := hp.2.1
    by_cases hlt : 2 * p < n
    · have HP := hid (hp.next hlt)
      have d : decide ((2 : Int) * (p : Int) < (n : Int)) = true := by simp; omega
      clear hp
      go_wp2
      go_round
      case rel => exact ⟨2 * p, HP.out, by omega, by go_num⟩
      case measure => simp [intOf]; omega
    · have HP := hid (hp.done (by omega))
      have d : decide ((2 : Int) * (p : Int) < (n : Int)) = false := by simp; omega
      clear hp
      go_wp2
      go_ret
      exact ⟨ret_int (by rw [HP.out]), rfl⟩
end Go.Proofs.Ytchmiaeajkpijaa

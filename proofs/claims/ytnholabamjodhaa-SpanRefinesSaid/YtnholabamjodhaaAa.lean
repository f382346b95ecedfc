import Derived.Test.YtnholabamjodhaaAm
import Derived.WalkKit
import Derived.WalkSpells
import Derived.WalkLawsBesides
import Derived.RegionTactic
import Derived.LoopTactic
import Derived.Deep.QuietTactic
import Derived.BigQuiet
import Derived.Outline
import Derived.Below
import Derived.IntWalk
import Derived.Deep.Draws
import Derived.Deep.RegionHeld3
import Derived.Laws.OwnMore
import Derived.Laws.Rows
import Derived.StillTailTactics
import Derived.Lib.Hide
namespace Go.Proofs.Ytnholabamjodhaa
open Go.RowKit Go.Instr Sp
set_option linter.unusedVariables false
set_option linter.unusedSimpArgs false

/-! The reference's arithmetic of sets. -/
theorem hidA {p : Prop} (h : p) : Hid p := h
theorem retA {a b : Int} (h : a = b) : Ending.returned (.int .i64 a) = .returned (.int .i64 b) := by rw [h]
theorem bcell {W w1 : World} (hb : Below W.heap.size W w1) : (∀ b o, b < W.heap.size → w1.cell? ⟨b, o, none⟩ = W.cell? ⟨b, o, none⟩) ∧ (∀ b o, b < W.heap.size → w1.frozen? ⟨b, o, none⟩ = W.frozen? ⟨b, o, none⟩) :=
  ⟨fun b o h => hb.cell (p := ⟨b, o, none⟩) h, fun b o h => hb.frozen (p := ⟨b, o, none⟩) h⟩
/-- Numbers that are far from the ends. -/
structure Far (a : Int) : Prop where
  l : -4611686018427387904 ≤ a
  h : a ≤ 4611686018427387904
theorem tmod_emod (a m : Int) : a.tmod m % m = a % m := by
  have e := Int.tmod_add_mul_tdiv a m
  conv => rhs; rw [← e]
  rw [Int.add_mul_emod_self_left]
theorem tmod_in (a : Int) {m : Int} (hm : 1 ≤ m) : -m < a.tmod m ∧ a.tmod m < m := ⟨Int.lt_tmod_of_pos a (by omega), Int.tmod_lt_of_pos a (by omega)⟩
set_option maxHeartbeats 400000 in
theorem mod_any (a m : Int) (ha : Far a) (hm : 1 ≤ m) (hm2 : m ≤ 4611686018427387904) (w : World) :
    Calls Try.prog 42 #[.int .i64 a, .int .i64 m] w fun e w' => e = .returned (.int .i64 (a % m)) ∧ w = w' := by
  obtain ⟨h1, h2⟩ := tmod_in a hm
  have hz : (m == 0) = false := by simp; omega
  go_enter Try.func42, Try.ntmps42
  go_wp2
  go_ret
  exact ⟨retA (by first | exact tmod_emod a m | (rw [Int.add_emod_right]; exact tmod_emod a m)), rfl⟩
theorem absI_bd {a : Int} (ha : Far a) : 0 ≤ absI a ∧ absI a ≤ 4611686018427387904 := by
  have := ha.l; have := ha.h
  unfold absI; omega
set_option maxHeartbeats 400000 in
theorem abs_any (a : Int) (ha : Far a) (w : World) :
    Calls Try.prog 51 #[.int .i64 a] w fun e w' => e = .returned (.int .i64 (absI a)) ∧ w = w' := by
  obtain ⟨h1, h2⟩ := ha
  go_enter Try.func51, Try.ntmps51
  go_wp2
  all_goals
    go_ret
    exact ⟨retA (by first | rfl | (unfold absI; omega)), rfl⟩
set_option maxHeartbeats 400000 in
theorem value_any (a : Int) (w : World) :
    Calls Try.prog 86 #[.int .i64 a] w fun e w' => e = .returned (.bool (decide (inV a))) ∧ w = w' := by
  by_cases h1 : -2147483648 ≤ a
  · by_cases h2 : a ≤ 2147483647
    · have e : decide (inV a) = true := decide_eq_true ⟨h1, h2⟩
      rw [e]
      clear e
      go_enter Try.func86, Try.ntmps86
      go_wp2
      go_ret
      exact ⟨rfl, rfl⟩
    · have e : decide (inV a) = false := decide_eq_false (fun h => h2 h.2)
      rw [e]
      clear e
      go_enter Try.func86, Try.ntmps86
      go_wp2
      go_ret
      exact ⟨rfl, rfl⟩
  · have e : decide (inV a) = false := decide_eq_false (fun h => h1 h.1)
    rw [e]
    clear e
    go_enter Try.func86, Try.ntmps86
    go_wp2
    go_ret
    exact ⟨rfl, rfl⟩
/-- The greatest divisor, by remainders. -/
theorem gc_step {a b : Int} (h : 0 ≤ a) (g : 0 ≤ b) (hb : b ≠ 0) : gc b (a % b) = gc a b := (gc_comm b (a % b)).trans (gc_emod a b)
theorem gc_nil {a : Int} (h : 0 ≤ a) : gc a 0 = a := by unfold gc; rw [Int.gcd_zero_right]; omega
set_option maxHeartbeats 400000 in
theorem gcd_any (a b : Int) (ha : 0 ≤ a) (hb : 0 ≤ b) (ha2 : a ≤ 9223372036854775807) (hb2 : b ≤ 9223372036854775807) (w : World) :
    Calls Try.prog 49 #[.int .i64 a, .int .i64 b] w fun e w' => e = .returned (.int .i64 (gc a b)) ∧ Below w.heap.size w w' := by
  go_enter Try.func49, Try.ntmps49
  go_wp2
  go_loopw [0, 1] (fun s t W => ∃ x y : Int, 0 ≤ x ∧ 0 ≤ y ∧ x ≤ 9223372036854775807 ∧ y ≤ 9223372036854775807 ∧ Hid (gc x y = gc a b) ∧ Below w.heap.size w W ∧ s = .int .i64 x ∧ t = .int .i64 y) (fun _ t _ => (intOf t).toNat)
  case atStart => exact ⟨a, b, ha, hb, ha2, hb2, hidA rfl, Below.refl _ _, rfl, rfl⟩
  case round =>
    obtain ⟨x, y, h1, h2, h3, h4, G, hB, rfl, rfl⟩ := hrel
    have HB := hidA hB
    clear hB
    by_cases hy : y = 0
    · subst hy
      go_wp2
      go_ret
      exact ⟨retA (by rw [← G.out, gc_nil h1]), HB.out⟩
    · have hz : (y == 0) = false := by simpa using hy
      have hz2 : (y != 0) = true := by simpa using hy
      have l1 := Int.emod_nonneg x hy
      have l2 := Int.emod_lt_of_pos x (show 0 < y by omega)
      have G2 := hidA ((gc_step h1 h2 hy).trans G.out)
      have ht : x.tmod y = x % y := Int.tmod_eq_emod_of_nonneg h1
      clear hy
      go_wp2
      go_region
      go_wp2
      go_roundw
      case rel => exact ⟨y, x % y, h2, l1, h4, by omega, G2, HB.out.drew, rfl, by first | rfl | (rw [ht])⟩
      case measure => simp [intOf]; omega
set_option maxHeartbeats 400000 in
theorem power_any (g : Int) (hg : 0 ≤ g) (w : World) :
    Calls Try.prog 87 #[.int .i64 g] w fun e w' => e = .returned (.int .i64 (pw g)) ∧ w = w' := by
  go_enter Try.func87, Try.ntmps87
  go_wp2
  go_loop [3] (fun s => ∃ (p : Int) (n : Nat), 1 ≤ p ∧ p ≤ 4294967296 ∧ Hid (pwF g n p = pw g) ∧ Hid (p * 2 ^ n = 4294967296) ∧ s = .int .i64 p) (fun s => (4294967296 - intOf s).toNat)
  case atStart => exact ⟨1, 32, by omega, by omega, hidA rfl, hidA rfl, rfl⟩
  case round =>
    obtain ⟨p, n, h1, h2, G, P, rfl⟩ := hrel
    cases n with
    | zero =>
      have e : p = 4294967296 := by have := P.out; omega
      subst e
      go_wp2
      go_ret
      exact ⟨retA (by rw [← G.out]; rfl), rfl⟩
    | succ n =>
      have hlt : p < 4294967296 := by
        have := P.out
        rw [Int.pow_succ, ← Int.mul_assoc] at this
        have q := p2_pos n
        have := Int.mul_le_mul_of_nonneg_left q (show 0 ≤ p by omega)
        omega
      have e : p * 2 ^ (n + 1) = 2 * p * 2 ^ n := by rw [Int.pow_succ, Int.mul_comm (2 ^ n), ← Int.mul_assoc, Int.mul_comm p]
      have P2 := hidA (show 2 * p * 2 ^ n = 4294967296 from e.symm.trans P.out)
      clear e
      have hz : (2 * p == 0) = false := by simp; omega
      have ht : g.tmod (2 * p) = g % (2 * p) := Int.tmod_eq_emod_of_nonneg hg
      by_cases c : g % (2 * p) = 0
      · have G2 := hidA (show pwF g n (2 * p) = pw g by rw [← G.out]; unfold pwF; rw [if_pos ⟨hlt, c⟩]; cases n <;> rfl)
        have hc : (g % (2 * p) == 0) = true := by simpa using c
        clear c
        have h3 : 2 * p ≤ 4294967296 := by
          have := P2.out
          have q := p2_pos n
          have := Int.mul_le_mul_of_nonneg_left q (show 0 ≤ 2 * p by omega)
          omega
        go_wp2
        go_round
        case rel => exact ⟨2 * p, n, by omega, by omega, G2, P2, rfl⟩
        case measure => simp [intOf]; omega
      · have G2 := hidA (show p = pw g by rw [← G.out]; unfold pwF; rw [if_neg (fun h => c h.2)])
        have hc : (g % (2 * p) == 0) = false := by simpa using c
        clear c
        go_wp2
        go_ret
        exact ⟨retA G2.out, rfl⟩
end Go.Proofs.Ytnholabamjodhaa

import Derived.Test.YtdopjadlbhacfaaAm
import Derived.WalkKit
import Derived.WalkSpells
import Derived.WalkLawsBesides
import Derived.RegionTactic
import Derived.LoopTactic
import Derived.Deep.QuietTactic
import Derived.BigQuiet
import Derived.Outline
import Derived.Below
import Derived.IntWalk
import Derived.Deep.Draws
import Derived.Deep.RegionHeld3
import Derived.Laws.OwnMore
import Derived.Laws.Rows
import Derived.StillTailTactics
import Derived.Lib.Hide
namespace Go.Proofs.Ytdopjadlbhacfaa
section
open Go.RowKit Go.Instr Sp
set_option linter.unusedVariables false
set_option linter.unusedSimpArgs false

/-! The reference's arithmetic of sets. -/
theorem hidA {p : Prop} (h : p) : Hid p := h
abbrev abF (W : World) (b : Nat) (a : Ab) (X : Prop) : Prop := W.cell? ⟨b, 0, none⟩ = some (.int .i64 a.lo) ∧ W.cell? ⟨b, 1, none⟩ = some (.int .i64 a.hi) ∧ W.cell? ⟨b, 2, none⟩ = some (.int .i64 a.m) ∧ W.cell? ⟨b, 3, none⟩ = some (.int .i64 a.r) ∧ W.cell? ⟨b, 4, none⟩ = some (.int .i64 a.k) ∧ X
theorem alA {w w1 : World} (h : Below w.heap.size w w1) (o : Obj) : Below w.heap.size w (w1.alloc o) := h.alloc h.size o
theorem retA {a b : Int} (h : a = b) : Ending.returned (.int .i64 a) = .returned (.int .i64 b) := by rw [h]
theorem bcell {W w1 : World} (hb : Below W.heap.size W w1) : (∀ b o, b < W.heap.size → w1.cell? ⟨b, o, none⟩ = W.cell? ⟨b, o, none⟩) ∧ (∀ b o, b < W.heap.size → w1.frozen? ⟨b, o, none⟩ = W.frozen? ⟨b, o, none⟩) :=
  ⟨fun b o h => hb.cell (p := ⟨b, o, none⟩) h, fun b o h => hb.frozen (p := ⟨b, o, none⟩) h⟩
/-- Numbers that are far from the ends. -/
structure Far (a : Int) : Prop where
  l : -4611686018427387904 ≤ a
  h : a ≤ 4611686018427387904
theorem tmod_emod (a m : Int) : a.tmod m % m = a % m := by
  have e := Int.tmod_add_mul_tdiv a m
  conv => rhs; rw [← e]
  rw [Int.add_mul_emod_self_left]
theorem tmod_in (a : Int) {m : Int} (hm : 1 ≤ m) : -m < a.tmod m ∧ a.tmod m < m := ⟨Int.lt_tmod_of_pos a (by omega), Int.tmod_lt_of_pos a (by omega)⟩
set_option maxHeartbeats 400000 in
theorem mod_any (a m : Int) (ha : Far a) (hm : 1 ≤ m) (hm2 : m ≤ 4611686018427387904) (w : World) :
    Calls Try.prog 42 #[.int .i64 a, .int .i64 m] w fun e w' => e = .returned (.int .i64 (a % m)) ∧ w = w' := by
  obtain ⟨h1, h2⟩ := tmod_in a hm
  have hz : (m == 0) = false := by simp; omega
  go_enter Try.func42, Try.ntmps42
  go_wp2
  go_ret
  exact ⟨retA (by first | exact tmod_emod a m | (rw [Int.add_emod_right]; exact tmod_emod a m)), rfl⟩
theorem absI_bd {a : Int} (ha : Far a) : 0 ≤ absI a ∧ absI a ≤ 4611686018427387904 := by
  have := ha.l; have := ha.h
  unfold absI; omega
set_option maxHeartbeats 400000 in
theorem abs_any (a : Int) (ha : Far a) (w : World) :
    Calls Try.prog 51 #[.int .i64 a] w fun e w' => e = .returned (.int .i64 (absI a)) ∧ w = w' := by
  obtain ⟨h1, h2⟩ := ha
  go_enter Try.func51, Try.ntmps51
  go_wp2
  all_goals
    go_ret
    exact ⟨retA (by first | rfl | (unfold absI; omega)), rfl⟩
set_option maxHeartbeats 400000 in
theorem value_any (a : Int) (w : World) :
    Calls Try.prog 86 #[.int .i64 a] w fun e w' => e = .returned (.bool (decide (inV a))) ∧ w = w' := by
  by_cases h1 : -2147483648 ≤ a
  · by_cases h2 : a ≤ 2147483647
    · have e : decide (inV a) = true := decide_eq_true ⟨h1, h2⟩
      rw [e]
      clear e
      go_enter Try.func86, Try.ntmps86
      go_wp2
      go_ret
      exact ⟨rfl, rfl⟩
    · have e : decide (inV a) = false := decide_eq_false (fun h => h2 h.2)
      rw [e]
      clear e
      go_enter Try.func86, Try.ntmps86
      go_wp2
      go_ret
      exact ⟨rfl, rfl⟩
  · have e : decide (inV a) = false := decide_eq_false (fun h => h1 h.1)
    rw [e]
    clear e
    go_enter Try.func86, Try.ntmps86
    go_wp2
    go_ret
    exact ⟨rfl, rfl⟩
/-- The greatest divisor, by remainders. -/
theorem gc_step {a b : Int} (h : 0 ≤ a) (g : 0 ≤ b) (hb : b ≠ 0) : gc b (a % b) = gc a b := (gc_comm b (a % b)).trans (gc_emod a b)
theorem gc_nil {a : Int} (h : 0 ≤ a) : gc a 0 = a := by unfold gc; rw [Int.gcd_zero_right]; omega
set_option maxHeartbeats 400000 in
theorem gcd_any (a b : Int) (ha : 0 ≤ a) (hb : 0 ≤ b) (ha2 : a ≤ 9223372036854775807) (hb2 : b ≤ 9223372036854775807) (w : World) :
    Calls Try.prog 49 #[.int .i64 a, .int .i64 b] w fun e w' => e = .returned (.int .i64 (gc a b)) ∧ Below w.heap.size w w' := by
  go_enter Try.func49, Try.ntmps49
  go_wp2
  go_loopw [0, 1] (fun s t W => ∃ x y : Int, 0 ≤ x ∧ 0 ≤ y ∧ x ≤ 9223372036854775807 ∧ y ≤ 9223372036854775807 ∧ Hid (gc x y = gc a b) ∧ Below w.heap.size w W ∧ s = .int .i64 x ∧ t = .int .i64 y) (fun _ t _ => (intOf t).toNat)
  case atStart => exact ⟨a, b, ha, hb, ha2, hb2, hidA rfl, Below.refl _ _, rfl, rfl⟩
  case round =>
    obtain ⟨x, y, h1, h2, h3, h4, G, hB, rfl, rfl⟩ := hrel
    have HB := hidA hB
    clear hB
    by_cases hy : y = 0
    · subst hy
      go_wp2
      go_ret
      exact ⟨retA (by rw [← G.out, gc_nil h1]), HB.out⟩
    · have hz : (y == 0) = false := by simpa using hy
      have hz2 : (y != 0) = true := by simpa using hy
      have l1 := Int.emod_nonneg x hy
      have l2 := Int.emod_lt_of_pos x (show 0 < y by omega)
      have G2 := hidA ((gc_step h1 h2 hy).trans G.out)
      have ht : x.tmod y = x % y := Int.tmod_eq_emod_of_nonneg h1
      clear hy
      go_wp2
      go_region
      go_wp2
      go_roundw
      case rel => exact ⟨y, x % y, h2, l1, h4, by omega, G2, HB.out.drew, rfl, by first | rfl | (rw [ht])⟩
      case measure => simp [intOf]; omega
set_option maxHeartbeats 400000 in
theorem power_any (g : Int) (hg : 0 ≤ g) (w : World) :
    Calls Try.prog 87 #[.int .i64 g] w fun e w' => e = .returned (.int .i64 (pw g)) ∧ w = w' := by
  go_enter Try.func87, Try.ntmps87
  go_wp2
  go_loop [3] (fun s => ∃ (p : Int) (n : Nat), 1 ≤ p ∧ p ≤ 4294967296 ∧ Hid (pwF g n p = pw g) ∧ Hid (p * 2 ^ n = 4294967296) ∧ s = .int .i64 p) (fun s => (4294967296 - intOf s).toNat)
  case atStart => exact ⟨1, 32, by omega, by omega, hidA rfl, hidA rfl, rfl⟩
  case round =>
    obtain ⟨p, n, h1, h2, G, P, rfl⟩ := hrel
    cases n with
    | zero =>
      have e : p = 4294967296 := by have := P.out; omega
      subst e
      go_wp2
      go_ret
      exact ⟨retA (by rw [← G.out]; rfl), rfl⟩
    | succ n =>
      have hlt : p < 4294967296 := by
        have := P.out
        rw [Int.pow_succ, ← Int.mul_assoc] at this
        have q := p2_pos n
        have := Int.mul_le_mul_of_nonneg_left q (show 0 ≤ p by omega)
        omega
      have e : p * 2 ^ (n + 1) = 2 * p * 2 ^ n := by rw [Int.pow_succ, Int.mul_comm (2 ^ n), ← Int.mul_assoc, Int.mul_comm p]
      have P2 := hidA (show 2 * p * 2 ^ n = 4294967296 from e.symm.trans P.out)
      clear e
      have hz : (2 * p == 0) = false := by simp; omega
      have ht : g.tmod (2 * p) = g % (2 * p) := Int.tmod_eq_emod_of_nonneg hg
      by_cases c : g % (2 * p) = 0
      · have G2 := hidA (show pwF g n (2 * p) = pw g by rw [← G.out]; unfold pwF; rw [if_pos ⟨hlt, c⟩]; cases n <;> rfl)
        have hc : (g % (2 * p) == 0) = true := by simpa using c
        clear c
        have h3 : 2 * p ≤ 4294967296 := by
          have := P2.out
          have q := p2_pos n
          have := Int.mul_le_mul_of_nonneg_left q (show 0 ≤ 2 * p by omega)
          omega
        go_wp2
        go_round
        case rel => exact ⟨2 * p, n, by omega, by omega, G2, P2, rfl⟩
        case measure => simp [intOf]; omega
      · have G2 := hidA (show p = pw g by rw [← G.out]; unfold pwF; rw [if_neg (fun h => c h.2)])
        have hc : (g % (2 * p) == 0) = false := by simpa using c
        clear c
        go_wp2
        go_ret
        exact ⟨retA G2.out, rfl⟩
end

section
open Go.RowKit Sp
set_option linter.unusedVariables false
set_option linter.unusedSimpArgs false

/-! Classes as bits of numbers. -/
theorem toNat8 {a : Nat} (h : a < 256) : (BitVec.ofInt 64 (a : Int)).toNat = a := by
  rw [BitVec.ofInt_natCast, BitVec.toNat_ofNat]; exact Nat.mod_eq_of_lt (by omega)
theorem bits_or8 {a b : Nat} (ha : a < 256) (hb : b < 256) : bits .or .i64 (a : Int) (b : Int) = ((a ||| b : Nat) : Int) := by
  have hx : a ||| b < 256 := or_lt ha hb
  show IntKind.i64.wrap ((BitVec.ofInt 64 (a : Int) ||| BitVec.ofInt 64 (b : Int)).toNat : Int) = _
  rw [BitVec.toNat_or, toNat8 ha, toNat8 hb, IntKind.wrap_i64]
  omega
theorem bits_and8 {a b : Nat} (ha : a < 256) (hb : b < 256) : bits .and .i64 (a : Int) (b : Int) = ((a &&& b : Nat) : Int) := by
  have hx : a &&& b < 256 := and_lt ha
  show IntKind.i64.wrap ((BitVec.ofInt 64 (a : Int) &&& BitVec.ofInt 64 (b : Int)).toNat : Int) = _
  rw [BitVec.toNat_and, toNat8 ha, toNat8 hb, IntKind.wrap_i64]
  omega
/-- What is left of any number by a mask. -/
def maskOf (n : Int) (k : Nat) : Nat := (BitVec.ofInt 64 n).toNat &&& k
theorem maskOf_lt {n : Int} {k : Nat} (h : k < 256) : maskOf n k < 256 := Nat.lt_of_le_of_lt Nat.and_le_right h
theorem bits_mask8 (n : Int) {k : Nat} (h : k < 256) : bits .and .i64 n (k : Int) = (maskOf n k : Int) := by
  have hx : maskOf n k < 256 := maskOf_lt h
  show IntKind.i64.wrap ((BitVec.ofInt 64 n &&& BitVec.ofInt 64 (k : Int)).toNat : Int) = _
  rw [BitVec.toNat_and, toNat8 h, IntKind.wrap_i64]
  show _ = (((BitVec.ofInt 64 n).toNat &&& k : Nat) : Int)
  unfold maskOf at hx
  omega
def sbB (a b : Nat) : Bool := decide (a ||| b = b)
theorem sbB_iff (a b : Nat) : sbB a b = true ↔ Sb a b := by
  unfold sbB
  rw [decide_eq_true_eq]
  constructor
  · intro h i hi
    rw [← h, Nat.testBit_or, hi]; rfl
  · intro h
    exact sb_anti (sb_or h (sb_refl b)) (sb_or_r a b)
theorem bits_not8 {a b : Nat} (ha : a < 256) (hb : b < 256) : (bits .andNot .i64 (a : Int) (b : Int) == 0) = sbB a b := by
  have e : bits .andNot .i64 (a : Int) (b : Int) = (((BitVec.ofInt 64 (a : Int) &&& ~~~ BitVec.ofInt 64 (b : Int)).toNat : Nat) : Int) := by
    have hx : (BitVec.ofInt 64 (a : Int) &&& ~~~ BitVec.ofInt 64 (b : Int)).toNat < 256 := by
      rw [BitVec.toNat_and, toNat8 ha]; exact and_lt ha
    show IntKind.i64.wrap ((BitVec.ofInt 64 (a : Int) &&& ~~~ BitVec.ofInt 64 (b : Int)).toNat : Int) = _
    rw [IntKind.wrap_i64]
    omega
  rw [e, Bool.eq_iff_iff, sbB_iff]
  rw [beq_iff_eq]
  have bit : ∀ (c : Nat), c < 256 → ∀ i, i < 64 → (BitVec.ofInt 64 (c : Int)).getLsbD i = c.testBit i := by
    intro c hc i hi
    unfold BitVec.getLsbD
    rw [toNat8 hc]
  constructor
  · intro h i hi
    have h64 : i < 64 := by
      rcases Nat.lt_or_ge i 64 with h1 | h1
      · exact h1
      · rw [Nat.testBit_lt_two_pow (Nat.lt_of_lt_of_le (show a < 2 ^ 64 by omega) (Nat.pow_le_pow_right (by omega) h1))] at hi; cases hi
    have z : (BitVec.ofInt 64 (a : Int) &&& ~~~ BitVec.ofInt 64 (b : Int)) = 0#64 := by
      apply BitVec.eq_of_toNat_eq
      rw [BitVec.toNat_zero]; omega
    have g := congrArg (fun x => x.getLsbD i) z
    simp only [BitVec.getLsbD_and, BitVec.getLsbD_not, bit a ha i h64, bit b hb i h64, hi, h64, BitVec.getLsbD_zero] at g
    simpa using g
  · intro h
    have z : (BitVec.ofInt 64 (a : Int) &&& ~~~ BitVec.ofInt 64 (b : Int)) = 0#64 := by
      apply BitVec.eq_of_getLsbD_eq
      intro i hi
      simp only [BitVec.getLsbD_and, BitVec.getLsbD_not, bit a ha i hi, bit b hb i hi, hi, BitVec.getLsbD_zero]
      cases ha' : a.testBit i
      · rfl
      · rw [h i ha']; rfl
    rw [z]; rfl
end

section
open Go.RowKit Go.Instr Sp
set_option linter.unusedVariables false
set_option linter.unusedSimpArgs false

/-! The reference's sets, by value. -/
structure Near (lo hi m : Int) : Prop where
  l : -8589934592 ≤ lo
  h : hi ≤ 8589934592
  m : m ≤ 9223372036854775807
set_option maxHeartbeats 400000 in
theorem by_zero (lo hi m : Int) (k : Nat) (B : ByOk lo hi m) (N : Near lo hi m) (hm : m = 0) (w : World) :
    Calls Try.prog 46 #[.int .i64 lo, .int .i64 hi, .int .i64 m, .int .i64 k] w fun e w' => e = .returned (.agg #[.int .i64 lo, .int .i64 lo, .int .i64 1, .int .i64 0, .int .i64 k]) ∧ Below w.heap.size w w' := by
  have e := B.z hm
  subst hm e
  obtain ⟨n1, n2, n3⟩ := N
  clear B
  go_enter Try.func46, Try.ntmps46
  go_wp2_with (go_at_call 42; refine (mod_any _ _ ⟨by omega, by omega⟩ (by omega) (by omega) _).mono ?_; rintro e w1 ⟨rfl, rfl⟩)
  exact bodyPost_ret (v := .agg #[.int .i64 lo, .int .i64 lo, .int .i64 1, .int .i64 0, .int .i64 k]) (by simp [results, Try.results46, go_sem]) rfl ⟨by rfl, (by repeat (first | with_reducible exact Below.refl _ _ | with_reducible refine Below.setCell ?_ (by first | omega | (dsimp only; omega) | (simp; omega)) _ | with_reducible refine Below.alloc ?_ (by first | omega | (dsimp only; omega) | (simp; omega)) _ | with_reducible refine Below.drew ?_))⟩
set_option maxHeartbeats 400000 in
theorem by_one (lo hi m : Int) (k : Nat) (B : ByOk lo hi m) (N : Near lo hi m) (hm : 0 < m) (ht : (hi - lo) / m * m = 0) (w : World) :
    Calls Try.prog 46 #[.int .i64 lo, .int .i64 hi, .int .i64 m, .int .i64 k] w fun e w' => e = .returned (.agg #[.int .i64 lo, .int .i64 lo, .int .i64 1, .int .i64 0, .int .i64 k]) ∧ Below w.heap.size w w' := by
  obtain ⟨b1, b2, b3⟩ := B
  obtain ⟨n1, n2, n3⟩ := N
  have q : 0 ≤ (hi - lo) / m := Int.ediv_nonneg (by omega) (by omega)
  have z1 : 0 ≤ (hi - lo) / m * m := Int.mul_nonneg q (by omega)
  have z2 : (hi - lo) / m * m ≤ hi - lo := Int.ediv_mul_le _ (by omega)
  have q2 : (hi - lo) / m ≤ hi - lo := Int.ediv_le_self _ (by omega)
  clear b2 b3
  have hmz : (m == 0) = false := by simp; omega
  obtain ⟨q0, hq⟩ : ∃ q0, (hi - lo) / m = q0 := ⟨_, rfl⟩
  rw [hq] at q z1 z2 q2
  obtain ⟨z, hz⟩ : ∃ z, q0 * m = z := ⟨_, rfl⟩
  rw [hz] at z1 z2
  have z0 : z = 0 := by rw [hq, hz] at ht; exact ht
  subst z0
  clear ht
  go_enter Try.func46, Try.ntmps46
  go_wp2_with (go_at_call 42; refine (mod_any _ _ ⟨by omega, by omega⟩ (by omega) (by omega) _).mono ?_; rintro e w1 ⟨rfl, rfl⟩)
  exact bodyPost_ret (v := .agg #[.int .i64 lo, .int .i64 lo, .int .i64 1, .int .i64 0, .int .i64 k]) (by simp [results, Try.results46, go_sem]) rfl ⟨by rfl, (by repeat (first | with_reducible exact Below.refl _ _ | with_reducible refine Below.setCell ?_ (by first | omega | (dsimp only; omega) | (simp; omega)) _ | with_reducible refine Below.alloc ?_ (by first | omega | (dsimp only; omega) | (simp; omega)) _ | with_reducible refine Below.drew ?_))⟩
set_option maxHeartbeats 400000 in
theorem by_more (lo hi m : Int) (k : Nat) (B : ByOk lo hi m) (N : Near lo hi m) (hm : 0 < m) (ht : (hi - lo) / m * m ≠ 0) (w : World) :
    Calls Try.prog 46 #[.int .i64 lo, .int .i64 hi, .int .i64 m, .int .i64 k] w fun e w' => e = .returned (.agg #[.int .i64 lo, .int .i64 (lo + (hi - lo) / m * m), .int .i64 m, .int .i64 (lo % m), .int .i64 k]) ∧ Below w.heap.size w w' := by
  obtain ⟨b1, b2, b3⟩ := B
  have mz : m ≤ hi - lo := by
    rcases Int.lt_or_le (hi - lo) m with g | g
    · exact absurd (by rw [Int.ediv_eq_zero_of_lt (by omega) g]; simp) ht
    · exact g
  obtain ⟨n1, n2, n3⟩ := N
  have q : 0 ≤ (hi - lo) / m := Int.ediv_nonneg (by omega) (by omega)
  have z1 : 0 ≤ (hi - lo) / m * m := Int.mul_nonneg q (by omega)
  have z2 : (hi - lo) / m * m ≤ hi - lo := Int.ediv_mul_le _ (by omega)
  have q2 : (hi - lo) / m ≤ hi - lo := Int.ediv_le_self _ (by omega)
  clear b2 b3
  have hmz : (m == 0) = false := by simp; omega
  obtain ⟨q0, hq⟩ : ∃ q0, (hi - lo) / m = q0 := ⟨_, rfl⟩
  rw [hq] at q z1 z2 q2
  obtain ⟨z, hz⟩ : ∃ z, q0 * m = z := ⟨_, rfl⟩
  rw [hz] at z1 z2
  have z0 : 0 < z := by rw [hq, hz] at ht; omega
  clear ht
  have ez : (lo == lo + z) = false := by simp; omega
  go_enter Try.func46, Try.ntmps46
  go_wp2_with (go_at_call 42; refine (mod_any _ _ ⟨by omega, by omega⟩ (by omega) (by omega) _).mono ?_; rintro e w1 ⟨rfl, rfl⟩)
  exact bodyPost_ret (v := .agg #[.int .i64 lo, .int .i64 (lo + (hi - lo) / m * m), .int .i64 m, .int .i64 (lo % m), .int .i64 k]) (by simp [results, Try.results46, go_sem, hq, hz]) rfl ⟨by rfl, (by repeat (first | with_reducible exact Below.refl _ _ | with_reducible refine Below.setCell ?_ (by first | omega | (dsimp only; omega) | (simp; omega)) _ | with_reducible refine Below.alloc ?_ (by first | omega | (dsimp only; omega) | (simp; omega)) _ | with_reducible refine Below.drew ?_))⟩
theorem by_any (lo hi m : Int) (k : Nat) (B : ByOk lo hi m) (N : Near lo hi m) (w : World) :
    Calls Try.prog 46 #[.int .i64 lo, .int .i64 hi, .int .i64 m, .int .i64 k] w fun e w' => e = .returned (.agg #[.int .i64 (byA lo hi m k).lo, .int .i64 (byA lo hi m k).hi, .int .i64 (byA lo hi m k).m, .int .i64 (byA lo hi m k).r, .int .i64 (byA lo hi m k).k]) ∧ Below w.heap.size w w' := by
  by_cases hm : 0 < m
  · have et : topOf lo hi m = lo + (hi - lo) / m * m := if_pos hm
    by_cases ht : (hi - lo) / m * m = 0
    · have e : byA lo hi m k = ⟨lo, lo, 1, 0, k⟩ := if_pos (by rw [et]; omega)
      rw [e]; exact by_one lo hi m k B N hm ht w
    · have e : byA lo hi m k = ⟨lo, lo + (hi - lo) / m * m, m, lo % m, k⟩ := by
        unfold byA; rw [et]; exact if_neg (by omega)
      rw [e]; exact by_more lo hi m k B N hm ht w
  · have m0 : m = 0 := by have := B.m0; omega
    have e : byA lo hi m k = ⟨lo, lo, 1, 0, k⟩ := if_pos (by unfold topOf; rw [if_neg hm]; exact B.z m0)
    rw [e]; exact by_zero lo hi m k B N m0 w
end

section
open Go.RowKit Go.Instr Sp
set_option linter.unusedVariables false
set_option linter.unusedSimpArgs false

/-! The reference's sets, by value: steps, members, everything like a number. -/
set_option maxHeartbeats 400000 in
theorem step_one (a : Ab) (h : (a.lo == a.hi) = true) (w : World) :
    Calls Try.prog 50 #[.agg #[.int .i64 a.lo, .int .i64 a.hi, .int .i64 a.m, .int .i64 a.r, .int .i64 a.k]] w fun e w' => e = .returned (.int .i64 0) ∧ Below w.heap.size w w' := by
  go_enter Try.func50, Try.ntmps50
  go_wp2
  go_ret
  exact ⟨rfl, (by repeat (first | with_reducible exact Below.refl _ _ | with_reducible refine Below.setCell ?_ (by first | omega | simp <;> omega) _ | with_reducible refine Below.alloc ?_ (by first | omega | simp <;> omega) _ | with_reducible refine Below.drew ?_))⟩
set_option maxHeartbeats 400000 in
theorem step_more (a : Ab) (h : (a.lo == a.hi) = false) (w : World) :
    Calls Try.prog 50 #[.agg #[.int .i64 a.lo, .int .i64 a.hi, .int .i64 a.m, .int .i64 a.r, .int .i64 a.k]] w fun e w' => e = .returned (.int .i64 a.m) ∧ Below w.heap.size w w' := by
  go_enter Try.func50, Try.ntmps50
  go_wp2
  go_ret
  exact ⟨rfl, (by repeat (first | with_reducible exact Below.refl _ _ | with_reducible refine Below.setCell ?_ (by first | omega | simp <;> omega) _ | with_reducible refine Below.alloc ?_ (by first | omega | simp <;> omega) _ | with_reducible refine Below.drew ?_))⟩
theorem step_any (a : Ab) (w : World) :
    Calls Try.prog 50 #[.agg #[.int .i64 a.lo, .int .i64 a.hi, .int .i64 a.m, .int .i64 a.r, .int .i64 a.k]] w fun e w' => e = .returned (.int .i64 (stp a)) ∧ Below w.heap.size w w' := by
  by_cases h : a.lo = a.hi
  · rw [show stp a = 0 from if_pos h]; exact step_one a (by simpa using h) w
  · rw [show stp a = a.m from if_neg h]; exact step_more a (by simpa using h) w
set_option maxHeartbeats 400000 in
theorem like_any (r m lo hi : Int) (k : Nat) (hr : Far r) (hm : 1 ≤ m) (hm2 : m ≤ 4611686018427387904) (hlo : -2147483648 ≤ lo) (hlo2 : lo ≤ 2147483647) (hhi : hi ≤ 2147483647) (hr2 : Far (r - lo)) (hw : lo + (r - lo) % m ≤ hi) (w : World) :
    Calls Try.prog 55 #[.int .i64 r, .int .i64 m, .int .i64 lo, .int .i64 hi, .int .i64 k] w fun e w' => e = .returned (.agg #[.int .i64 (likeA r m lo hi k).lo, .int .i64 (likeA r m lo hi k).hi, .int .i64 (likeA r m lo hi k).m, .int .i64 (likeA r m lo hi k).r, .int .i64 (likeA r m lo hi k).k]) ∧ Below w.heap.size w w' := by
  obtain ⟨r1, r2⟩ := hr
  have l1 := Int.emod_nonneg (r - lo) (show m ≠ 0 by omega)
  have B : Hid (ByOk (lo + (r - lo) % m) hi m) := hidA ⟨hw, by omega, by omega⟩
  have N : Hid (Near (lo + (r - lo) % m) hi m) := hidA ⟨by omega, by omega, Int.le_trans hm2 (by omega)⟩
  obtain ⟨z, hz⟩ : ∃ z, (r - lo) % m = z := ⟨_, rfl⟩
  rw [hz] at B N l1 hw
  have E : Hid (likeA r m lo hi k = byA (lo + z) hi m k) := hidA (by unfold likeA; rw [hz])
  go_enter Try.func55, Try.ntmps55
  go_wp2_with (first | (go_at_call 42; refine (mod_any _ _ hr2 (by omega) (by omega) _).mono ?_; rintro e w1 ⟨rfl, rfl⟩) | (go_at_call 46; refine (by_any _ _ _ _ B.out N.out _).mono ?_; rintro e w2 ⟨rfl, hb⟩; have HB2 := hidA hb; obtain ⟨hc2, hf2⟩ := bcell hb; have hz20 : w.heap.size < w2.heap.size := (by have := hb.size; simp at this; omega); clear hb))
  exact bodyPost_ret (v := .agg #[.int .i64 (likeA r m lo hi k).lo, .int .i64 (likeA r m lo hi k).hi, .int .i64 (likeA r m lo hi k).m, .int .i64 (likeA r m lo hi k).r, .int .i64 (likeA r m lo hi k).k]) (by simp [results, Try.results55, go_sem, E.out, hz, hc2, hz20]) rfl ⟨by rfl, (by repeat (first | with_reducible exact Below.refl _ _ | with_reducible exact HB2.out | with_reducible refine Below.setCell ?_ (by first | omega | simp <;> omega) _ | with_reducible refine Below.alloc ?_ (by first | omega | simp <;> omega) _ | with_reducible refine Below.drew ?_ | with_reducible refine Below.trans ?_ (HB2.out.mono (by first | omega | simp <;> omega))))⟩
set_option maxHeartbeats 400000 in
theorem of_any (v : Int) (k : Nat) (h : inV v) (w : World) :
    Calls Try.prog 17 #[.agg #[.int .i64 v, .int .i64 k]] w fun e w' => e = .returned (.agg #[.int .i64 (oneA v k).lo, .int .i64 (oneA v k).hi, .int .i64 (oneA v k).m, .int .i64 (oneA v k).r, .int .i64 (oneA v k).k]) ∧ Below w.heap.size w w' := by
  have B : Hid (ByOk v v 0) := hidA ⟨Int.le_refl _, Int.le_refl _, fun _ => rfl⟩
  have N : Hid (Near v v 0) := hidA ⟨by have := h.1; omega, by have := h.2; omega, by omega⟩
  have E : Hid (byA v v 0 k = oneA v k) := hidA (one_is v k)
  clear h
  go_enter Try.func17, Try.ntmps17
  go_wp2_with (go_at_call 46; refine (by_any _ _ _ _ B.out N.out _).mono ?_; rintro e w2 ⟨rfl, hb⟩; have HB2 := hidA hb; obtain ⟨hc2, hf2⟩ := bcell hb; have hz20 : w.heap.size < w2.heap.size := (by have := hb.size; simp at this; omega); have hz21 : w.heap.size + 1 < w2.heap.size := (by have := hb.size; simp at this; omega); clear hb)
  exact bodyPost_ret (v := .agg #[.int .i64 (oneA v k).lo, .int .i64 (oneA v k).hi, .int .i64 (oneA v k).m, .int .i64 (oneA v k).r, .int .i64 (oneA v k).k]) (by simp [results, Try.results17, go_sem, E.out, hc2, hz20, hz21]) rfl ⟨by rfl, (by repeat (first | with_reducible exact Below.refl _ _ | with_reducible exact HB2.out | with_reducible refine Below.setCell ?_ (by first | omega | simp <;> omega) _ | with_reducible refine Below.alloc ?_ (by first | omega | simp <;> omega) _ | with_reducible refine Below.drew ?_ | with_reducible refine Below.trans ?_ (HB2.out.mono (by first | omega | simp <;> omega))))⟩
set_option maxHeartbeats 400000 in
theorem all_any (k : Nat) (w : World) :
    Calls Try.prog 29 #[.int .i64 k] w fun e w' => e = .returned (.agg #[.int .i64 (allA k).lo, .int .i64 (allA k).hi, .int .i64 (allA k).m, .int .i64 (allA k).r, .int .i64 (allA k).k]) ∧ Below w.heap.size w w' := by
  have B : Hid (ByOk (-2147483648) 2147483647 1) := hidA (one_ok (by omega))
  have N : Hid (Near (-2147483648) 2147483647 1) := hidA ⟨by omega, by omega, by omega⟩
  have E : Hid (byA (-2147483648) 2147483647 1 k = allA k) := hidA rfl
  go_enter Try.func29, Try.ntmps29
  go_wp2_with (go_at_call 46; refine (by_any _ _ _ _ B.out N.out _).mono ?_; rintro e w2 ⟨rfl, hb⟩; have HB2 := hidA hb; obtain ⟨hc2, hf2⟩ := bcell hb; have hz20 : w.heap.size < w2.heap.size := (by have := hb.size; simp at this; omega); clear hb)
  exact bodyPost_ret (v := .agg #[.int .i64 (allA k).lo, .int .i64 (allA k).hi, .int .i64 (allA k).m, .int .i64 (allA k).r, .int .i64 (allA k).k]) (by simp [results, Try.results29, go_sem, E.out, hc2, hz20]) rfl ⟨by rfl, (by repeat (first | with_reducible exact Below.refl _ _ | with_reducible exact HB2.out | with_reducible refine Below.setCell ?_ (by first | omega | simp <;> omega) _ | with_reducible refine Below.alloc ?_ (by first | omega | simp <;> omega) _ | with_reducible refine Below.drew ?_ | with_reducible refine Below.trans ?_ (HB2.out.mono (by first | omega | simp <;> omega))))⟩
set_option maxHeartbeats 400000 in
theorem in_any (lo hi : Int) (k : Nat) (h : lo ≤ hi) (h1 : inV lo) (h2 : inV hi) (w : World) :
    Calls Try.prog 27 #[.agg #[.int .i64 lo, .int .i64 hi, .int .i64 k]] w fun e w' => e = .returned (.agg #[.int .i64 (byA lo hi 1 k).lo, .int .i64 (byA lo hi 1 k).hi, .int .i64 (byA lo hi 1 k).m, .int .i64 (byA lo hi 1 k).r, .int .i64 (byA lo hi 1 k).k]) ∧ Below w.heap.size w w' := by
  have B : Hid (ByOk lo hi 1) := hidA (one_ok h)
  have N : Hid (Near lo hi 1) := hidA ⟨by have := h1.1; omega, by have := h2.2; omega, by omega⟩
  clear h h1 h2
  go_enter Try.func27, Try.ntmps27
  go_wp2_with (go_at_call 46; refine (by_any _ _ _ _ B.out N.out _).mono ?_; rintro e w2 ⟨rfl, hb⟩; have HB2 := hidA hb; obtain ⟨hc2, hf2⟩ := bcell hb; have hz20 : w.heap.size < w2.heap.size := (by have := hb.size; simp at this; omega); have hz21 : w.heap.size + 1 < w2.heap.size := (by have := hb.size; simp at this; omega); clear hb)
  exact bodyPost_ret (v := .agg #[.int .i64 (byA lo hi 1 k).lo, .int .i64 (byA lo hi 1 k).hi, .int .i64 (byA lo hi 1 k).m, .int .i64 (byA lo hi 1 k).r, .int .i64 (byA lo hi 1 k).k]) (by simp [results, Try.results27, go_sem, hc2, hz20, hz21]) rfl ⟨by rfl, (by repeat (first | with_reducible exact Below.refl _ _ | with_reducible exact HB2.out | with_reducible refine Below.setCell ?_ (by first | omega | simp <;> omega) _ | with_reducible refine Below.alloc ?_ (by first | omega | simp <;> omega) _ | with_reducible refine Below.drew ?_ | with_reducible refine Below.trans ?_ (HB2.out.mono (by first | omega | simp <;> omega))))⟩
/-- Whether a number is a value of a set, as the reference asks. -/
def withinB (a : Ab) (v : Int) : Bool := decide (a.lo ≤ v) && (decide (v ≤ a.hi) && decide ((v - a.lo) % a.m = 0))
theorem within_iff {a : Ab} (A : Val a) (v : Int) : withinB a v = true ↔ Mem a v := by
  unfold withinB
  rw [mem_m A]
  simp only [Bool.and_eq_true, decide_eq_true_eq]
  rw [← Int.dvd_iff_emod_eq_zero]
structure Wb (a : Ab) : Prop where
  l : -2147483648 ≤ a.lo
  h : a.hi ≤ 2147483647
  m : 1 ≤ a.m
  m2 : a.m ≤ 4294967296
theorem val_wb {a : Ab} (A : Val a) : Wb a := ⟨A.l, A.h, m_pos A, by
  rcases A.s with ⟨_, e, _⟩ | ⟨lt, e, d, _⟩
  · omega
  · have := Int.le_of_dvd (by omega) d
    have := A.l; have := A.h; omega⟩
set_option maxHeartbeats 400000 in
theorem within_no1 (a : Ab) (A : Wb a) (v : Int) (h : ¬ a.lo ≤ v) (w : World) :
    Calls Try.prog 45 #[.agg #[.int .i64 a.lo, .int .i64 a.hi, .int .i64 a.m, .int .i64 a.r, .int .i64 a.k], .int .i64 v] w fun e w' => e = .returned (.bool false) ∧ Below w.heap.size w w' := by
  obtain ⟨a1, a2, a3, a4⟩ := A
  go_enter Try.func45, Try.ntmps45
  go_wp2
  go_ret
  exact ⟨rfl, (by repeat (first | with_reducible exact Below.refl _ _ | with_reducible refine Below.setCell ?_ (by first | omega | simp <;> omega) _ | with_reducible refine Below.alloc ?_ (by first | omega | simp <;> omega) _ | with_reducible refine Below.drew ?_))⟩
set_option maxHeartbeats 400000 in
theorem within_no2 (a : Ab) (A : Wb a) (v : Int) (h : a.lo ≤ v) (h2 : ¬ v ≤ a.hi) (w : World) :
    Calls Try.prog 45 #[.agg #[.int .i64 a.lo, .int .i64 a.hi, .int .i64 a.m, .int .i64 a.r, .int .i64 a.k], .int .i64 v] w fun e w' => e = .returned (.bool false) ∧ Below w.heap.size w w' := by
  obtain ⟨a1, a2, a3, a4⟩ := A
  go_enter Try.func45, Try.ntmps45
  go_wp2
  go_ret
  exact ⟨rfl, (by repeat (first | with_reducible exact Below.refl _ _ | with_reducible refine Below.setCell ?_ (by first | omega | simp <;> omega) _ | with_reducible refine Below.alloc ?_ (by first | omega | simp <;> omega) _ | with_reducible refine Below.drew ?_))⟩
set_option maxHeartbeats 400000 in
theorem within_no3 (a : Ab) (A : Wb a) (v : Int) (h : a.lo ≤ v) (h2 : v ≤ a.hi) (h3 : ((v - a.lo) % a.m == 0) = false) (w : World) :
    Calls Try.prog 45 #[.agg #[.int .i64 a.lo, .int .i64 a.hi, .int .i64 a.m, .int .i64 a.r, .int .i64 a.k], .int .i64 v] w fun e w' => e = .returned (.bool false) ∧ Below w.heap.size w w' := by
  obtain ⟨a1, a2, a3, a4⟩ := A
  go_enter Try.func45, Try.ntmps45
  go_wp2_with (go_at_call 42; refine (mod_any _ _ ⟨by omega, by omega⟩ (by omega) (by omega) _).mono ?_; rintro e w1 ⟨rfl, rfl⟩)
  go_ret
  exact ⟨rfl, (by repeat (first | with_reducible exact Below.refl _ _ | with_reducible refine Below.setCell ?_ (by first | omega | simp <;> omega) _ | with_reducible refine Below.alloc ?_ (by first | omega | simp <;> omega) _ | with_reducible refine Below.drew ?_))⟩
set_option maxHeartbeats 400000 in
theorem within_yes (a : Ab) (A : Wb a) (v : Int) (h : a.lo ≤ v) (h2 : v ≤ a.hi) (h3 : ((v - a.lo) % a.m == 0) = true) (w : World) :
    Calls Try.prog 45 #[.agg #[.int .i64 a.lo, .int .i64 a.hi, .int .i64 a.m, .int .i64 a.r, .int .i64 a.k], .int .i64 v] w fun e w' => e = .returned (.bool true) ∧ Below w.heap.size w w' := by
  obtain ⟨a1, a2, a3, a4⟩ := A
  go_enter Try.func45, Try.ntmps45
  go_wp2_with (go_at_call 42; refine (mod_any _ _ ⟨by omega, by omega⟩ (by omega) (by omega) _).mono ?_; rintro e w1 ⟨rfl, rfl⟩)
  go_ret
  exact ⟨rfl, (by repeat (first | with_reducible exact Below.refl _ _ | with_reducible refine Below.setCell ?_ (by first | omega | simp <;> omega) _ | with_reducible refine Below.alloc ?_ (by first | omega | simp <;> omega) _ | with_reducible refine Below.drew ?_))⟩
theorem within_any (a : Ab) (A : Wb a) (v : Int) (w : World) :
    Calls Try.prog 45 #[.agg #[.int .i64 a.lo, .int .i64 a.hi, .int .i64 a.m, .int .i64 a.r, .int .i64 a.k], .int .i64 v] w fun e w' => e = .returned (.bool (withinB a v)) ∧ Below w.heap.size w w' := by
  by_cases h : a.lo ≤ v
  · by_cases h2 : v ≤ a.hi
    · by_cases h3 : (v - a.lo) % a.m = 0
      · rw [show withinB a v = true by unfold withinB; simp [h, h2, h3]]; exact within_yes a A v h h2 (by simpa using h3) w
      · rw [show withinB a v = false by unfold withinB; simp [h3]]; exact within_no3 a A v h h2 (by simpa using h3) w
    · rw [show withinB a v = false by unfold withinB; simp [h2]]; exact within_no2 a A v h h2 w
  · rw [show withinB a v = false by unfold withinB; simp [h]]; exact within_no1 a A v h w
end

section
open Go.RowKit Go.Instr Sp
set_option linter.unusedVariables false
set_option linter.unusedSimpArgs false

/-! The reference's sets, by value: words, order, joins. -/
set_option maxHeartbeats 400000 in
theorem has_yes (a : Ab) (A : Wb a) (v : Int) (k : Nat) (h : withinB a v = true) (hm : (bits .andNot .i64 (k : Int) (a.k : Int) == 0) = sbB k a.k) (w : World) :
    Calls Try.prog 15 #[.agg #[.int .i64 a.lo, .int .i64 a.hi, .int .i64 a.m, .int .i64 a.r, .int .i64 a.k], .agg #[.int .i64 v, .int .i64 k]] w fun e w' => e = .returned (.bool (sbB k a.k)) ∧ Below w.heap.size w w' := by
  go_enter Try.func15, Try.ntmps15
  go_wp2_with (go_at_call 45; refine (within_any _ A _ _).mono ?_; rintro e w1 ⟨rfl, hb⟩; have HB1 := hidA hb; obtain ⟨hc1, hf1⟩ := bcell hb; have hz10 : w.heap.size < w1.heap.size := (by have := hb.size; simp at this; omega); have hz11 : w.heap.size + 1 < w1.heap.size := (by have := hb.size; simp at this; omega); clear hb)
  go_ret
  exact ⟨rfl, (by repeat (first | with_reducible exact Below.refl _ _ | with_reducible exact HB1.out | with_reducible refine Below.setCell ?_ (by first | omega | simp <;> omega) _ | with_reducible refine Below.alloc ?_ (by first | omega | simp <;> omega) _ | with_reducible refine Below.drew ?_ | with_reducible refine Below.trans ?_ (HB1.out.mono (by first | omega | simp <;> omega))))⟩
set_option maxHeartbeats 400000 in
theorem has_no (a : Ab) (A : Wb a) (v : Int) (k : Nat) (h : withinB a v = false) (w : World) :
    Calls Try.prog 15 #[.agg #[.int .i64 a.lo, .int .i64 a.hi, .int .i64 a.m, .int .i64 a.r, .int .i64 a.k], .agg #[.int .i64 v, .int .i64 k]] w fun e w' => e = .returned (.bool false) ∧ Below w.heap.size w w' := by
  go_enter Try.func15, Try.ntmps15
  go_wp2_with (go_at_call 45; refine (within_any _ A _ _).mono ?_; rintro e w1 ⟨rfl, hb⟩; have HB1 := hidA hb; obtain ⟨hc1, hf1⟩ := bcell hb; have hz10 : w.heap.size < w1.heap.size := (by have := hb.size; simp at this; omega); have hz11 : w.heap.size + 1 < w1.heap.size := (by have := hb.size; simp at this; omega); clear hb)
  go_ret
  exact ⟨rfl, (by repeat (first | with_reducible exact Below.refl _ _ | with_reducible exact HB1.out | with_reducible refine Below.setCell ?_ (by first | omega | simp <;> omega) _ | with_reducible refine Below.alloc ?_ (by first | omega | simp <;> omega) _ | with_reducible refine Below.drew ?_ | with_reducible refine Below.trans ?_ (HB1.out.mono (by first | omega | simp <;> omega))))⟩
/-- Whether a word is in a set. -/
def hasB (a : Ab) (v : Int) (k : Nat) : Bool := withinB a v && sbB k a.k
theorem hasB_iff {a : Ab} (A : Val a) (v : Int) (k : Nat) : hasB a v k = true ↔ Mem a v ∧ Sb k a.k := by
  unfold hasB; rw [Bool.and_eq_true, within_iff A, sbB_iff]
theorem has_any (a : Ab) (A : Wb a) (v : Int) (k : Nat) (hk : k < 256) (hk2 : a.k < 256) (w : World) :
    Calls Try.prog 15 #[.agg #[.int .i64 a.lo, .int .i64 a.hi, .int .i64 a.m, .int .i64 a.r, .int .i64 a.k], .agg #[.int .i64 v, .int .i64 k]] w fun e w' => e = .returned (.bool (hasB a v k)) ∧ Below w.heap.size w w' := by
  unfold hasB
  cases h : withinB a v
  · exact has_no a A v k h w
  · exact has_yes a A v k h (bits_not8 hk hk2) w
set_option maxHeartbeats 400000 in
theorem bounded_in (lo hi m : Int) (k : Nat) (B : ByOk lo hi m) (hm : m ≤ 9223372036854775807) (h1 : decide (inV lo) = true) (h2 : decide (inV hi) = true) (w : World) :
    Calls Try.prog 59 #[.int .i64 lo, .int .i64 hi, .int .i64 m, .int .i64 k] w fun e w' => e = .returned (.agg #[.int .i64 (byA lo hi m k).lo, .int .i64 (byA lo hi m k).hi, .int .i64 (byA lo hi m k).m, .int .i64 (byA lo hi m k).r, .int .i64 (byA lo hi m k).k]) ∧ Below w.heap.size w w' := by
  have N : Hid (Near lo hi m) := hidA ⟨by have := (of_decide_eq_true h1).1; omega, by have := (of_decide_eq_true h2).2; omega, hm⟩
  have B := hidA B
  go_enter Try.func59, Try.ntmps59
  go_wp2_with (first | (go_at_call 86; refine (value_any _ _).mono ?_; rintro e w1 ⟨rfl, rfl⟩) | (go_at_call 46; refine (by_any _ _ _ _ B.out N.out _).mono ?_; rintro e w2 ⟨rfl, hb⟩; have HB2 := hidA hb; obtain ⟨hc2, hf2⟩ := bcell hb; have hz20 : w.heap.size < w2.heap.size := (by have := hb.size; simp at this; omega); clear hb))
  exact bodyPost_ret (v := .agg #[.int .i64 (byA lo hi m k).lo, .int .i64 (byA lo hi m k).hi, .int .i64 (byA lo hi m k).m, .int .i64 (byA lo hi m k).r, .int .i64 (byA lo hi m k).k]) (by simp [results, Try.results59, go_sem, hc2, hz20]) rfl ⟨by rfl, (by repeat (first | with_reducible exact Below.refl _ _ | with_reducible exact HB2.out | with_reducible refine Below.setCell ?_ (by first | omega | simp <;> omega) _ | with_reducible refine Below.alloc ?_ (by first | omega | simp <;> omega) _ | with_reducible refine Below.drew ?_ | with_reducible refine Below.trans ?_ (HB2.out.mono (by first | omega | simp <;> omega))))⟩
set_option maxHeartbeats 400000 in
theorem core_bounded_out1 (lo hi m : Int) (k : Nat) (m0 : 0 ≤ m) (hl : Far lo) (hl2 : lo ≤ 4611686016279904256) (HH : ((decide (inV lo) = false)) ∨ ((decide (inV lo) = true) ∧ (decide (inV hi) = false))) (w : World) :
    Calls Try.prog 59 #[.int .i64 lo, .int .i64 hi, .int .i64 m, .int .i64 k] w fun e w' => e = .returned (.agg #[.int .i64 (likeA lo (pw m) (-2147483648) 2147483647 k).lo, .int .i64 (likeA lo (pw m) (-2147483648) 2147483647 k).hi, .int .i64 (likeA lo (pw m) (-2147483648) 2147483647 k).m, .int .i64 (likeA lo (pw m) (-2147483648) 2147483647 k).r, .int .i64 (likeA lo (pw m) (-2147483648) 2147483647 k).k]) ∧ Below w.heap.size w w' := by
  rcases HH with h1 | ⟨h1, h2⟩
  all_goals
    have P := pw_ok m
    have Q := like_some lo m
    have c1 : Hid (1 ≤ pw m) := hidA P.1
    have c2 : Hid (pw m ≤ 4611686018427387904) := hidA (by have := Int.le_of_dvd (by omega) P.2.1; omega)
    have c3 : Hid (-2147483648 + (lo - -2147483648) % pw m ≤ 2147483647) := hidA (by
      have := (like_mem k P.1 Q (wr lo)).2 Q
      have := this.1; unfold likeA at this; rw [by_lo] at this; have := (wr_range lo).2; omega)
    have c4 : Hid (Far (lo - -2147483648)) := hidA ⟨by have := hl.l; omega, by omega⟩
    have HL := hidA hl
    clear hl P Q
    go_enter Try.func59, Try.ntmps59
    go_wp2_with (first | (go_at_call 86; refine (value_any _ _).mono ?_; rintro e w1 ⟨rfl, rfl⟩) | (go_at_call 87; refine (power_any _ m0 _).mono ?_; rintro e w1 ⟨rfl, rfl⟩) | (go_at_call 55; refine (like_any _ _ _ _ _ HL.out c1.out c2.out (by omega) (by omega) (by omega) c4.out c3.out _).mono ?_; rintro e w2 ⟨rfl, hb⟩; have HB2 := hidA hb; obtain ⟨hc2, hf2⟩ := bcell hb; have hz20 : w.heap.size < w2.heap.size := (by have := hb.size; simp at this; omega); clear hb))
    exact bodyPost_ret (v := .agg #[.int .i64 (likeA lo (pw m) (-2147483648) 2147483647 k).lo, .int .i64 (likeA lo (pw m) (-2147483648) 2147483647 k).hi, .int .i64 (likeA lo (pw m) (-2147483648) 2147483647 k).m, .int .i64 (likeA lo (pw m) (-2147483648) 2147483647 k).r, .int .i64 (likeA lo (pw m) (-2147483648) 2147483647 k).k]) (by simp [results, Try.results59, go_sem, hc2, hz20]) rfl ⟨by rfl, (by repeat (first | with_reducible exact Below.refl _ _ | with_reducible exact HB2.out | with_reducible refine Below.setCell ?_ (by first | omega | simp <;> omega) _ | with_reducible refine Below.alloc ?_ (by first | omega | simp <;> omega) _ | with_reducible refine Below.drew ?_ | with_reducible refine Below.trans ?_ (HB2.out.mono (by first | omega | simp <;> omega))))⟩
theorem bounded_out1 (lo hi m : Int) (k : Nat) (m0 : 0 ≤ m) (hl : Far lo) (hl2 : lo ≤ 4611686016279904256) (h1 : decide (inV lo) = false) (w : World) :
    Calls Try.prog 59 #[.int .i64 lo, .int .i64 hi, .int .i64 m, .int .i64 k] w fun e w' => e = .returned (.agg #[.int .i64 (likeA lo (pw m) (-2147483648) 2147483647 k).lo, .int .i64 (likeA lo (pw m) (-2147483648) 2147483647 k).hi, .int .i64 (likeA lo (pw m) (-2147483648) 2147483647 k).m, .int .i64 (likeA lo (pw m) (-2147483648) 2147483647 k).r, .int .i64 (likeA lo (pw m) (-2147483648) 2147483647 k).k]) ∧ Below w.heap.size w w' :=
  core_bounded_out1 lo hi m k m0 hl hl2 (Or.inl h1) w
set_option maxHeartbeats 400000 in
theorem bounded_out2 (lo hi m : Int) (k : Nat) (m0 : 0 ≤ m) (hl : Far lo) (hl2 : lo ≤ 4611686016279904256) (h1 : decide (inV lo) = true) (h2 : decide (inV hi) = false) (w : World) :
    Calls Try.prog 59 #[.int .i64 lo, .int .i64 hi, .int .i64 m, .int .i64 k] w fun e w' => e = .returned (.agg #[.int .i64 (likeA lo (pw m) (-2147483648) 2147483647 k).lo, .int .i64 (likeA lo (pw m) (-2147483648) 2147483647 k).hi, .int .i64 (likeA lo (pw m) (-2147483648) 2147483647 k).m, .int .i64 (likeA lo (pw m) (-2147483648) 2147483647 k).r, .int .i64 (likeA lo (pw m) (-2147483648) 2147483647 k).k]) ∧ Below w.heap.size w w' :=
  core_bounded_out1 lo hi m k m0 hl hl2 (Or.inr ⟨h1, h2⟩) w
theorem bounded_any (lo hi m : Int) (k : Nat) (B : ByOk lo hi m) (hm : m ≤ 9223372036854775807) (hl : Far lo) (hl2 : lo ≤ 4611686016279904256) (w : World) :
    Calls Try.prog 59 #[.int .i64 lo, .int .i64 hi, .int .i64 m, .int .i64 k] w fun e w' => e = .returned (.agg #[.int .i64 (bdA lo hi m k).lo, .int .i64 (bdA lo hi m k).hi, .int .i64 (bdA lo hi m k).m, .int .i64 (bdA lo hi m k).r, .int .i64 (bdA lo hi m k).k]) ∧ Below w.heap.size w w' := by
  unfold bdA
  cases h1 : decide (inV lo)
  · rw [if_neg (fun h => absurd h.1 (of_decide_eq_false h1))]; exact bounded_out1 lo hi m k B.m0 hl hl2 h1 w
  · cases h2 : decide (inV hi)
    · rw [if_neg (fun h => absurd h.2 (of_decide_eq_false h2))]; exact bounded_out2 lo hi m k B.m0 hl hl2 h1 h2 w
    · rw [if_pos ⟨of_decide_eq_true h1, of_decide_eq_true h2⟩]; exact bounded_in lo hi m k B hm h1 h2 w
end

section
open Go.RowKit Go.Instr Sp
set_option linter.unusedVariables false
set_option linter.unusedSimpArgs false

/-! The reference's joins. -/
theorem cellA {w w' : World} {p : Addr} {x : Value} (hb : Below w.heap.size w w') (h : w.cell? p = some x) : w'.cell? p = some x := (hb.cell (World.block_lt_of_cell? w _ h)).trans h
theorem stepA {w w1 w2 : World} (h : Below w.heap.size w w1) (k : Below w1.heap.size w1 w2) : Below w.heap.size w w2 := h.trans (k.mono h.size)
theorem gc_abs (x y : Int) : gc x (absI y) = gc x y := by
  unfold gc absI
  congr 1
  rcases Int.le_total 0 y with h | h
  · rw [show max y (-y) = y by omega]
  · rw [show max y (-y) = -y by omega, Int.gcd_neg]
theorem stp_bd {a : Ab} (A : Wb a) : 0 ≤ stp a ∧ stp a ≤ 4294967296 := by
  obtain ⟨a1, a2, a3, a4⟩ := A
  unfold stp; split <;> omega
theorem gc_le {a b : Int} (h : 0 ≤ a) (g : 0 ≤ b) {k : Int} (ha : a ≤ k) (hb : b ≤ k) : gc a b ≤ k := by
  by_cases z : a = 0
  · subst z; unfold gc; rw [Int.gcd_zero_left]; omega
  · have := Int.le_of_dvd (by omega) (gc_l a b); omega
set_option maxHeartbeats 4000000 in
theorem join_any (a b : Ab) (A : Val a) (B : Val b) (w : World) :
    Calls Try.prog 19 #[.agg #[.int .i64 a.lo, .int .i64 a.hi, .int .i64 a.m, .int .i64 a.r, .int .i64 a.k], .agg #[.int .i64 b.lo, .int .i64 b.hi, .int .i64 b.m, .int .i64 b.r, .int .i64 b.k]] w fun e w' => e = .returned (.agg #[.int .i64 (joinA a b).lo, .int .i64 (joinA a b).hi, .int .i64 (joinA a b).m, .int .i64 (joinA a b).r, .int .i64 (joinA a b).k]) ∧ Below w.heap.size w w' := by
  have J := hidA (join_ok A B)
  have WA := hidA (val_wb A)
  have WB := hidA (val_wb B)
  have N : Hid (Near (min a.lo b.lo) (max a.hi b.hi) (joinStep a b)) := hidA ⟨by have := A.l; have := B.l; omega, by have := A.h; have := B.h; omega, by
    have := stp_bd WA.out; have := stp_bd WB.out; have := A.l; have := B.l; have := A.o; have := B.o; have := A.h; have := B.h
    unfold joinStep; rw [← gc_abs]; exact gc_le (gc_nn _ _) (by unfold absI; omega) (gc_le (by omega) (by omega) (by omega) (by omega)) (by unfold absI; omega)⟩
  have JJ : Hid (∀ x y, x = min a.lo b.lo → y = max a.hi b.hi → ByOk x y (joinStep a b) ∧ Near x y (joinStep a b)) := hidA (fun x y hx hy => by rw [hx, hy]; exact ⟨J.out, N.out⟩)
  have sa := stp_bd WA.out
  have sb := stp_bd WB.out
  have MK := hidA (bits_or8 A.k B.k)
  have dl : -4294967295 ≤ a.lo - b.lo ∧ a.lo - b.lo ≤ 4294967295 := by have := A.l; have := B.l; have := A.o; have := B.o; have := A.h; have := B.h; omega
  obtain ⟨d1, d2⟩ := dl
  obtain ⟨s1, s2⟩ := sa
  obtain ⟨s3, s4⟩ := sb
  have E : Hid (gc (gc (stp a) (stp b)) (absI (a.lo - b.lo)) = joinStep a b) := hidA (gc_abs _ _)
  have q1 := gc_nn (stp a) (stp b)
  have q2 := gc_le s1 s3 s2 s4
  have ab0 := (absI_bd (a := a.lo - b.lo) ⟨by omega, by omega⟩)
  have hl := A.l; have hl2 := A.o; have hl3 := A.h; have hm := B.l; have hm2 := B.o; have hm3 := B.h
  clear A B
  obtain ⟨w0, hw0⟩ : ∃ w0, (((w.alloc (.cells #[.int .i64 a.lo, .int .i64 a.hi, .int .i64 a.m, .int .i64 a.r, .int .i64 a.k] 27)).alloc (.cells #[.int .i64 b.lo, .int .i64 b.hi, .int .i64 b.m, .int .i64 b.r, .int .i64 b.k] 27)).alloc (.cells #[.int .i64 0, .int .i64 0, .int .i64 0, .int .i64 0, .int .i64 0] 27)) = w0 := ⟨_, rfl⟩
  have B0 : Hid (Below w.heap.size w w0) := hidA (by rw [← hw0]; exact (alA (alA (alA (Below.refl _ _) _) _) _))
  have G0 : Hid (w0.cell? ⟨w.heap.size, 0, none⟩ = some (.int .i64 a.lo)) := hidA (by rw [← hw0]; simp [go_sem])
  have G1 : Hid (w0.cell? ⟨w.heap.size, 1, none⟩ = some (.int .i64 a.hi)) := hidA (by rw [← hw0]; simp [go_sem])
  have G2 : Hid (w0.cell? ⟨w.heap.size, 2, none⟩ = some (.int .i64 a.m)) := hidA (by rw [← hw0]; simp [go_sem])
  have G3 : Hid (w0.cell? ⟨w.heap.size, 3, none⟩ = some (.int .i64 a.r)) := hidA (by rw [← hw0]; simp [go_sem])
  have G4 : Hid (w0.cell? ⟨w.heap.size, 4, none⟩ = some (.int .i64 a.k)) := hidA (by rw [← hw0]; simp [go_sem])
  have G5 : Hid (w0.cell? ⟨w.heap.size + 1, 0, none⟩ = some (.int .i64 b.lo)) := hidA (by rw [← hw0]; simp [go_sem])
  have G6 : Hid (w0.cell? ⟨w.heap.size + 1, 1, none⟩ = some (.int .i64 b.hi)) := hidA (by rw [← hw0]; simp [go_sem])
  have G7 : Hid (w0.cell? ⟨w.heap.size + 1, 2, none⟩ = some (.int .i64 b.m)) := hidA (by rw [← hw0]; simp [go_sem])
  have G8 : Hid (w0.cell? ⟨w.heap.size + 1, 3, none⟩ = some (.int .i64 b.r)) := hidA (by rw [← hw0]; simp [go_sem])
  have G9 : Hid (w0.cell? ⟨w.heap.size + 1, 4, none⟩ = some (.int .i64 b.k)) := hidA (by rw [← hw0]; simp [go_sem])
  have G10 : Hid (w0.cell? ⟨w.heap.size + 1 + 1, 0, none⟩ = some (.int .i64 0)) := hidA (by rw [← hw0]; simp [go_sem])
  have G11 : Hid (w0.cell? ⟨w.heap.size + 1 + 1, 1, none⟩ = some (.int .i64 0)) := hidA (by rw [← hw0]; simp [go_sem])
  have G12 : Hid (w0.cell? ⟨w.heap.size + 1 + 1, 2, none⟩ = some (.int .i64 0)) := hidA (by rw [← hw0]; simp [go_sem])
  have G13 : Hid (w0.cell? ⟨w.heap.size + 1 + 1, 3, none⟩ = some (.int .i64 0)) := hidA (by rw [← hw0]; simp [go_sem])
  have G14 : Hid (w0.cell? ⟨w.heap.size + 1 + 1, 4, none⟩ = some (.int .i64 0)) := hidA (by rw [← hw0]; simp [go_sem])
  have F0 : Hid (∀ i, w0.frozen? ⟨w.heap.size, i, none⟩ = false) := hidA (by intro i; rw [← hw0]; simp [go_sem])
  have F1 : Hid (∀ i, w0.frozen? ⟨w.heap.size + 1, i, none⟩ = false) := hidA (by intro i; rw [← hw0]; simp [go_sem])
  have F2 : Hid (∀ i, w0.frozen? ⟨w.heap.size + 1 + 1, i, none⟩ = false) := hidA (by intro i; rw [← hw0]; simp [go_sem])
  have hsz : w.heap.size + 1 + 1 < w0.heap.size := by rw [← hw0]; simp
  have Hw := hidA hw0; clear hw0
  go_enter Try.func19, Try.ntmps19
  go_wp2_with fail
  rw [Hw.out]
  have hs : Below w0.heap.size w0 w0.drew := (Below.refl _ _).drew
  have g0 := cellA hs G0.out
  have g1 := cellA hs G1.out
  have g2 := cellA hs G2.out
  have g3 := cellA hs G3.out
  have g4 := cellA hs G4.out
  have g5 := cellA hs G5.out
  have g6 := cellA hs G6.out
  have g7 := cellA hs G7.out
  have g8 := cellA hs G8.out
  have g9 := cellA hs G9.out
  have ew : IntKind.i64.wrap (a.lo - b.lo) = a.lo - b.lo := IntWalk.i64_in _ (by omega)
  go_region_held3 (fun w' => w'.cell? ⟨w.heap.size, 0, none⟩ = some (.int .i64 a.lo) ∧ w'.cell? ⟨w.heap.size, 1, none⟩ = some (.int .i64 a.hi) ∧ w'.cell? ⟨w.heap.size, 2, none⟩ = some (.int .i64 a.m) ∧ w'.cell? ⟨w.heap.size, 3, none⟩ = some (.int .i64 a.r) ∧ w'.cell? ⟨w.heap.size, 4, none⟩ = some (.int .i64 a.k) ∧ w'.cell? ⟨w.heap.size + 1, 0, none⟩ = some (.int .i64 b.lo) ∧ w'.cell? ⟨w.heap.size + 1, 1, none⟩ = some (.int .i64 b.hi) ∧ w'.cell? ⟨w.heap.size + 1, 2, none⟩ = some (.int .i64 b.m) ∧ w'.cell? ⟨w.heap.size + 1, 3, none⟩ = some (.int .i64 b.r) ∧ w'.cell? ⟨w.heap.size + 1, 4, none⟩ = some (.int .i64 b.k) ∧ Below w0.heap.size w0 w')
    (first | exact ⟨g0, g1, g2, g3, g4, g5, g6, g7, g8, g9, hs⟩ | exact ⟨cellA (by assumption) G0.out, cellA (by assumption) G1.out, cellA (by assumption) G2.out, cellA (by assumption) G3.out, cellA (by assumption) G4.out, cellA (by assumption) G5.out, cellA (by assumption) G6.out, cellA (by assumption) G7.out, cellA (by assumption) G8.out, cellA (by assumption) G9.out, by assumption⟩)
    (first
      | ((go_at_call 50; refine (step_any _ _).mono ?_; rintro e w1 ⟨rfl, hb1⟩; have hs1 : Below w0.heap.size w0 w1 := stepA (by assumption) hb1))
      | ((go_at_call 51; refine (abs_any _ ⟨by omega, by omega⟩ _).mono ?_; rintro e w1 ⟨rfl, rfl⟩))
      | ((go_at_call 49; refine (gcd_any _ _ (by omega) (by omega) (by omega) (by omega) _).mono ?_; rintro e w1 ⟨rfl, hb1⟩; have hs1 : Below w0.heap.size w0 w1 := stepA (by assumption) hb1)))
  have HS := hidA hs1
  have leHS : w0.heap.size ≤ w1.heap.size := HS.out.size
  clear hs1
  have c0 := cellA HS.out G0.out
  have c1 := cellA HS.out G1.out
  have c2 := cellA HS.out G2.out
  have c3 := cellA HS.out G3.out
  have c4 := cellA HS.out G4.out
  have c5 := cellA HS.out G5.out
  have c6 := cellA HS.out G6.out
  have c7 := cellA HS.out G7.out
  have c8 := cellA HS.out G8.out
  have c9 := cellA HS.out G9.out
  have c10 := cellA HS.out G10.out
  have c11 := cellA HS.out G11.out
  have c12 := cellA HS.out G12.out
  have c13 := cellA HS.out G13.out
  have c14 := cellA HS.out G14.out
  have z0 : w.heap.size < w1.heap.size := by omega
  have z1 : w.heap.size + 1 < w1.heap.size := by omega
  have z2 : w.heap.size + 1 + 1 < w1.heap.size := by omega
  have fr2 : ∀ i, w1.frozen? ⟨w.heap.size + 1 + 1, i, none⟩ = false := fun i => (HS.out.frozen (p := ⟨w.heap.size + 1 + 1, i, none⟩) (show w.heap.size + 1 + 1 < w0.heap.size by omega)).trans (F2.out i)
  have em := MK.out
  have ee := E.out
  go_wp2_with (go_at_call 46; refine (by_any _ _ _ _ (JJ.out _ _ (by omega) (by omega)).1 (JJ.out _ _ (by omega) (by omega)).2 _).mono ?_; rintro e w2 ⟨rfl, hb⟩; have HB2 := hidA hb; obtain ⟨hc2, hf2⟩ := bcell hb; have z20 : w.heap.size + 1 + 1 < w2.heap.size := (by have := hb.size; omega); clear hb)
  all_goals
    exact bodyPost_ret (v := .agg #[.int .i64 (joinA a b).lo, .int .i64 (joinA a b).hi, .int .i64 (joinA a b).m, .int .i64 (joinA a b).r, .int .i64 (joinA a b).k]) (by first | (rw [joinA, show min a.lo b.lo = a.lo by omega, show max a.hi b.hi = a.hi by omega]; simp [results, Try.results19, go_sem, hc2, z20, z2, c10, c11, c12, c13, c14]) | (rw [joinA, show min a.lo b.lo = a.lo by omega, show max a.hi b.hi = b.hi by omega]; simp [results, Try.results19, go_sem, hc2, z20, z2, c10, c11, c12, c13, c14]) | (rw [joinA, show min a.lo b.lo = b.lo by omega, show max a.hi b.hi = a.hi by omega]; simp [results, Try.results19, go_sem, hc2, z20, z2, c10, c11, c12, c13, c14]) | (rw [joinA, show min a.lo b.lo = b.lo by omega, show max a.hi b.hi = b.hi by omega]; simp [results, Try.results19, go_sem, hc2, z20, z2, c10, c11, c12, c13, c14])) rfl ⟨by rfl, (by repeat (first | with_reducible exact Below.refl _ _ | with_reducible exact HB2.out | with_reducible exact HS.out | with_reducible exact B0.out | with_reducible refine Below.setCell ?_ (by first | omega | simp <;> omega) _ | with_reducible refine Below.alloc ?_ (by first | omega | simp <;> omega) _ | with_reducible refine Below.drew ?_ | with_reducible refine Below.trans ?_ (HB2.out.mono (by first | omega | simp <;> omega)) | with_reducible refine Below.trans ?_ (HS.out.mono (by first | omega | simp <;> omega)) | with_reducible refine Below.trans ?_ (B0.out.mono (by first | omega | simp <;> omega))))⟩
end

section
open Go.RowKit Go.Instr Sp
set_option linter.unusedVariables false
set_option linter.unusedSimpArgs false

/-! The reference's 'Wrap', 'Made', 'At'. -/
theorem drewnA {B : Nat} {a w : World} (h : Below B a w) (n : Nat) : Below B a (w.drewN n) := ⟨h.os, h.tape, h.output, h.size, h.block⟩
theorem wr_tmod (v : Int) : ∃ m, v.tmod 4294967296 = m ∧ -4294967296 < m ∧ m < 4294967296 ∧ wr v = if m < -2147483648 then m + 4294967296 else if 2147483647 < m then m - 4294967296 else m := by
  have h1 := Int.tmod_add_mul_tdiv v 4294967296
  have h2 := Int.tmod_lt_of_pos v (b := 4294967296) (by decide)
  have h3 := Int.lt_tmod_of_pos v (b := 4294967296) (by decide)
  refine ⟨_, rfl, h3, h2, ?_⟩
  generalize v.tmod 4294967296 = m at *
  generalize v.tdiv 4294967296 = q at *
  unfold wr
  split
  · omega
  · split <;> omega
set_option maxHeartbeats 400000 in
theorem wrapA (v : Int) (w : World) :
    Calls Try.prog 11 #[.int .i64 v] w fun e w' => e = .returned (.int .i64 (wr v)) ∧ w = w' := by
  obtain ⟨m, hm, h1, h2, hw⟩ := wr_tmod v
  have HW := hidA hw
  clear hw
  have hmw : IntKind.i64.wrap (v.tmod 4294967296) = m := by rw [hm, IntKind.wrap_i64]; omega
  by_cases c1 : m < -2147483648
  · go_enter Try.func11, Try.ntmps11
    go_wp2
    go_ret
    exact ⟨retA (by rw [HW.out]; (try split) <;> (try split) <;> (first | rfl | omega)), rfl⟩
  · by_cases c2 : 2147483647 < m
    · go_enter Try.func11, Try.ntmps11
      go_wp2
      go_ret
      exact ⟨retA (by rw [HW.out]; (try split) <;> (try split) <;> (first | rfl | omega)), rfl⟩
    · go_enter Try.func11, Try.ntmps11
      go_wp2
      go_ret
      exact ⟨retA (by rw [HW.out]; (try split) <;> (try split) <;> (first | rfl | omega)), rfl⟩
def madeM (m : Int) : Int := 1 + m % 1048576
def madeH (lo n m : Int) : Int := min (wr lo + n % 2147483648 / madeM m * madeM m) (2147483647 - (2147483647 - wr lo) % madeM m)
def maskN (k : Int) : Nat := (k % 256).toNat
def madeA (lo n m k : Int) : Ab := byA (wr lo) (madeH lo n m) (madeM m) (maskN k)
theorem maskN_lt (k : Int) : maskN k < 256 := by unfold maskN; omega
theorem maskN_is (k : Int) : (maskN k : Int) = k % 256 := by unfold maskN; omega
theorem madeM_bd (m : Int) : 1 ≤ madeM m ∧ madeM m ≤ 1048576 := by unfold madeM; omega
theorem made_ok (lo n m : Int) : ByOk (wr lo) (madeH lo n m) (madeM m) ∧ madeH lo n m ≤ 2147483647 := by
  have hr := wr_range lo
  have hm := madeM_bd m
  have q : 0 ≤ n % 2147483648 / madeM m := Int.ediv_nonneg (by omega) (by omega)
  have p : 0 ≤ n % 2147483648 / madeM m * madeM m := Int.mul_nonneg q (by omega)
  have e := Int.mul_ediv_add_emod (2147483647 - wr lo) (madeM m)
  have q2 : 0 ≤ (2147483647 - wr lo) / madeM m := Int.ediv_nonneg (by omega) (by omega)
  have p2 := Int.mul_nonneg (show 0 ≤ madeM m by omega) q2
  have l1 := Int.emod_nonneg (2147483647 - wr lo) (show madeM m ≠ 0 by omega)
  unfold madeH
  refine ⟨⟨?_, by omega, by omega⟩, by omega⟩
  generalize n % 2147483648 / madeM m * madeM m = x at *
  omega
theorem made_val (lo n m k : Int) : Val (madeA lo n m k) := by
  obtain ⟨h1, h2⟩ := made_ok lo n m
  exact by_val h1 (wr_range lo).1 h2 (maskN_lt k)
set_option maxHeartbeats 400000 in
theorem mod_all (a m : Int) (hm : 1 ≤ m) (hm2 : m ≤ 4611686018427387904) (w : World) :
    Calls Try.prog 42 #[.int .i64 a, .int .i64 m] w fun e w' => e = .returned (.int .i64 (a % m)) ∧ w = w' := by
  obtain ⟨h1, h2⟩ := tmod_in a hm
  have hz : (m == 0) = false := by simp; omega
  go_enter Try.func42, Try.ntmps42
  go_wp2
  go_ret
  exact ⟨retA (by first | exact tmod_emod a m | (rw [Int.add_emod_right]; exact tmod_emod a m)), rfl⟩
set_option maxHeartbeats 4000000 in
theorem madeR_any (lo n m k : Int) (w : World) :
    Calls Try.prog 40 #[.agg #[.int .i64 lo, .int .i64 n, .int .i64 m, .int .i64 k]] w fun e w' => e = .returned (.agg #[.int .i64 (madeA lo n m k).lo, .int .i64 (madeA lo n m k).hi, .int .i64 (madeA lo n m k).m, .int .i64 (madeA lo n m k).r, .int .i64 (madeA lo n m k).k]) ∧ Below w.heap.size w w' := by
  obtain ⟨O1, O2⟩ := made_ok lo n m
  have hr := wr_range lo
  have hM := madeM_bd m
  have JJ : Hid (∀ x, x = madeH lo n m → ByOk (wr lo) x (madeM m) ∧ Near (wr lo) x (madeM m)) := hidA (fun x hx => by rw [hx]; exact ⟨O1, ⟨by omega, by omega, by omega⟩⟩)
  have EH : Hid (madeH lo n m = min (wr lo + n % 2147483648 / madeM m * madeM m) (2147483647 - (2147483647 - wr lo) % madeM m)) := hidA rfl
  have EA : Hid (madeA lo n m k = byA (wr lo) (madeH lo n m) (madeM m) (maskN k)) := hidA rfl
  have hm1 : 1 + m % 1048576 = madeM m := rfl
  have hk := maskN_is k
  have q : 0 ≤ n % 2147483648 / madeM m := Int.ediv_nonneg (by omega) (by omega)
  have q2 : n % 2147483648 / madeM m ≤ n % 2147483648 := Int.ediv_le_self _ (by omega)
  have p1 : 0 ≤ n % 2147483648 / madeM m * madeM m := Int.mul_nonneg q (by omega)
  have p2 : n % 2147483648 / madeM m * madeM m ≤ n % 2147483648 := Int.ediv_mul_le _ (by omega)
  have l1 := Int.emod_nonneg (2147483647 - wr lo) (show madeM m ≠ 0 by omega)
  have l2 := Int.emod_lt_of_pos (2147483647 - wr lo) (show 0 < madeM m by omega)
  have ET : n % 2147483648 / madeM m = (n % 2147483648).tdiv (madeM m) := (Int.tdiv_eq_ediv_of_nonneg (by omega)).symm
  have hn1 : 0 ≤ n % 2147483648 := by omega
  have hn2 : n % 2147483648 < 2147483648 := by omega
  clear O1 O2
  obtain ⟨L, hL⟩ : ∃ L, wr lo = L := ⟨_, rfl⟩
  obtain ⟨MM, hMM⟩ : ∃ x, madeM m = x := ⟨_, rfl⟩
  obtain ⟨NN, hNN⟩ : ∃ x, n % 2147483648 = x := ⟨_, rfl⟩
  rw [hL, hMM] at JJ
  rw [hL, hMM, hNN] at EH
  rw [hL, hMM] at EA
  rw [hMM] at hm1 hM l2
  rw [hMM, hNN] at q q2 p1 p2 ET
  rw [hL, hMM] at l1
  rw [hL] at hr l2
  rw [hNN] at hn1 hn2
  have HL := hidA hL
  clear hL hMM
  obtain ⟨Q, hQ⟩ : ∃ x, NN / MM = x := ⟨_, rfl⟩
  rw [hQ] at q q2 p1 p2 ET EH
  obtain ⟨P, hP⟩ : ∃ x, Q * MM = x := ⟨_, rfl⟩
  rw [hP] at p1 p2 EH
  obtain ⟨Z, hZ⟩ : ∃ x, (2147483647 - L) % MM = x := ⟨_, rfl⟩
  rw [hZ] at l1 l2 EH
  obtain ⟨h1, h2⟩ := hr
  obtain ⟨h3, h4⟩ := hM
  have hmz : (MM == 0) = false := by simp; omega
  go_enter Try.func40, Try.ntmps40
  go_wp2_with (first | (go_at_call 11; refine (wrapA _ _).mono ?_; rw [HL.out]; rintro e w1 ⟨rfl, rfl⟩) | (go_at_call 42; refine (mod_all _ _ (by omega) (by omega) _).mono ?_; rintro e wm ⟨rfl, rfl⟩))
  have e1 : IntKind.i64.wrap (NN.tdiv MM) = Q := by rw [← ET]; exact IntWalk.i64_in _ (by omega)
  have e2 : IntKind.i64.wrap (Q * MM) = P := by rw [hP]; exact IntWalk.i64_in _ (by omega)
  have e3 : IntKind.i64.wrap (L + P) = L + P := IntWalk.i64_in _ (by omega)
  have e4 : IntKind.i64.wrap (2147483647 - L) = 2147483647 - L := IntWalk.i64_in _ (by omega)
  have e5 : IntKind.i64.wrap (2147483647 - Z) = 2147483647 - Z := IntWalk.i64_in _ (by omega)
  go_quiet ((go_at_call 42; exact Calls.quiet_of_same ((mod_all _ _ (by omega) (by omega) _).mono (fun _ _ h => ⟨h.1, h.2.symm⟩))))
  have e6 : (if 2147483647 - Z < wrap64 (L + wrap64 (NN.tdiv MM * MM)) then 2147483647 - Z else wrap64 (L + wrap64 (NN.tdiv MM * MM))) = madeH lo n m := by
    rw [EH.out, ← ET, hP, show wrap64 P = P from by unfold wrap64; omega, show wrap64 (L + P) = L + P from by unfold wrap64; omega, Int.min_def]
    split <;> split <;> omega
  rw [e6]
  have O := hidA (JJ.out _ rfl)
  clear e1 e2 e3 e4 e5 e6 ET hQ hP hZ hNN JJ EH
  generalize madeH lo n m = H at *
  have B : Hid (ByOk L H MM) := hidA O.out.1
  have N : Hid (Near L H MM) := hidA O.out.2
  go_wp2_with (first | (go_at_call 42; refine (mod_all _ _ (by omega) (by omega) _).mono ?_; rintro e wm ⟨rfl, rfl⟩) | (go_at_call 46; try rw [← hk]; refine (by_any _ _ _ _ B.out N.out _).mono ?_; rintro e w2 ⟨rfl, hb⟩; have HB2 := hidA hb; obtain ⟨hc2, hf2⟩ := bcell hb; have z20 : w.heap.size + 1 < w2.heap.size := (by have := hb.size; simp at this; omega); clear hb))
  exact bodyPost_ret (v := .agg #[.int .i64 (madeA lo n m k).lo, .int .i64 (madeA lo n m k).hi, .int .i64 (madeA lo n m k).m, .int .i64 (madeA lo n m k).r, .int .i64 (madeA lo n m k).k]) (by simp [results, Try.results40, go_sem, hc2, z20, EA.out]) rfl ⟨by rfl, (by repeat (first | with_reducible exact Below.refl _ _ | with_reducible exact HB2.out | with_reducible refine Below.setCell ?_ (by first | omega | simp <;> omega) _ | with_reducible refine Below.alloc ?_ (by first | omega | simp <;> omega) _ | with_reducible refine Below.drew ?_ | with_reducible refine drewnA ?_ _ | with_reducible refine Below.trans ?_ (HB2.out.mono (by first | omega | simp <;> omega))))⟩
end

section
open Go.RowKit Go.Instr Sp
set_option linter.unusedVariables false
set_option linter.unusedSimpArgs false

/-! Equality of sets is decided. -/
theorem ab_eq (a b : Ab) : a = b ↔ a.lo = b.lo ∧ a.hi = b.hi ∧ a.m = b.m ∧ a.r = b.r ∧ a.k = b.k := by
  cases a; cases b; simp
instance (a b : Ab) : Decidable (a = b) := decidable_of_iff _ (ab_eq a b).symm
end

section
open Go.RowKit Go.Instr Sp
set_option linter.unusedVariables false
set_option linter.unusedSimpArgs false

/-! Small lemmas on numbers, and on a drawn world. -/
theorem cellD {w : World} {a : Addr} {x : Value} (h : w.cell? a = some x) : w.drew.cell? a = some x := h
theorem run_min4 {P : Program} (ts : Array TypeId) (t : TypeId) (p q r s : Int) (w : World) : (Builtin.min_ ts t #[.int .i64 p, .int .i64 q, .int .i64 r, .int .i64 s]).run P w = .ok (.int .i64 (min (min (min p q) r) s)) w := by
  have e : ∀ x y : Int, (if y < x then y else x) = min x y := by intro x y; split <;> omega
  simp [Builtin.min_, Builtin.min2, e]
theorem run_max4 {P : Program} (ts : Array TypeId) (t : TypeId) (p q r s : Int) (w : World) : (Builtin.max_ ts t #[.int .i64 p, .int .i64 q, .int .i64 r, .int .i64 s]).run P w = .ok (.int .i64 (max (max (max p q) r) s)) w := by
  have e : ∀ x y : Int, (if x < y then y else x) = max x y := by intro x y; split <;> omega
  simp [Builtin.max_, Builtin.max2, e]
theorem mul_far1 {x y : Int} (h1 : -2147483647 ≤ x) (h2 : x ≤ 2147483647) (h3 : -2147483648 ≤ y) (h4 : y ≤ 2147483648) : x * y ≤ 4611686016279904256 := by
  have e : (x * y).natAbs ≤ 2147483647 * 2147483648 := by
    rw [Int.natAbs_mul]
    exact Nat.mul_le_mul (by omega) (by omega)
  omega
theorem mul_far {x y : Int} (h1 : -2147483648 ≤ x) (h2 : x ≤ 2147483648) (h3 : -2147483648 ≤ y) (h4 : y ≤ 2147483648) : -4611686018427387904 ≤ x * y ∧ x * y ≤ 4611686018427387904 := by
  have e : (x * y).natAbs ≤ 2147483648 * 2147483648 := by
    rw [Int.natAbs_mul]
    exact Nat.mul_le_mul (by omega) (by omega)
  omega
theorem mul_big {x y : Int} (h1 : 0 ≤ x) (h2 : x ≤ 2147483648) (h3 : 0 ≤ y) (h4 : y ≤ 4294967295) : x * y ≤ 9223372036854775807 := by
  have a := Int.mul_le_mul_of_nonneg_right h2 h3
  have b := Int.mul_le_mul_of_nonneg_left h4 (show (0 : Int) ≤ 2147483648 by omega)
  omega
theorem stp_lt {a : Ab} (A : Val a) : stp a ≤ 4294967295 := by
  obtain ⟨s0, s1, s2, s3⟩ := val_stp A
  by_cases h : stp a = 0
  · omega
  · have h2 := Int.le_of_dvd (by have := (s3 h).2.1; omega) s1
    have := A.l; have := A.h; omega
end
end Go.Proofs.Ytdopjadlbhacfaa

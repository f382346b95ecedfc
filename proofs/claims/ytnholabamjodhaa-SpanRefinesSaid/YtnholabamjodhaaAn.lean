import Derived.Test.YtnholabamjodhaaAm
import Derived.WalkKit
namespace Go.Proofs.Ytnholabamjodhaa
open Go.RowKit Sp
set_option linter.unusedVariables false
set_option linter.unusedSimpArgs false

/-! Classes as bits of numbers. -/
theorem toNat8 {a : Nat} (h : a < 256) : (BitVec.ofInt 64 (a : Int)).toNat = a := by
  rw [BitVec.ofInt_natCast, BitVec.toNat_ofNat]; exact Nat.mod_eq_of_lt (by omega)
theorem bits_or8 {a b : Nat} (ha : a < 256) (hb : b < 256) : bits .or .i64 (a : Int) (b : Int) = ((a ||| b : Nat) : Int) := by
  have hx : a ||| b < 256 := or_lt ha hb
  show IntKind.i64.wrap ((BitVec.ofInt 64 (a : Int) ||| BitVec.ofInt 64 (b : Int)).toNat : Int) = _
  rw [BitVec.toNat_or, toNat8 ha, toNat8 hb, IntKind.wrap_i64]
  omega
theorem bits_and8 {a b : Nat} (ha : a < 256) (hb : b < 256) : bits .and .i64 (a : Int) (b : Int) = ((a &&& b : Nat) : Int) := by
  have hx : a &&& b < 256 := and_lt ha
  show IntKind.i64.wrap ((BitVec.ofInt 64 (a : Int) &&& BitVec.ofInt 64 (b : Int)).toNat : Int) = _
  rw [BitVec.toNat_and, toNat8 ha, toNat8 hb, IntKind.wrap_i64]
  omega
/-- What is left of any number by a mask. -/
def maskOf (n : Int) (k : Nat) : Nat := (BitVec.ofInt 64 n).toNat &&& k
theorem maskOf_sb (n : Int) (k : Nat) : Sb (maskOf n k) k := sb_and_r _ _
theorem maskOf_lt {n : Int} {k : Nat} (h : k < 256) : maskOf n k < 256 := Nat.lt_of_le_of_lt Nat.and_le_right h
theorem bits_mask8 (n : Int) {k : Nat} (h : k < 256) : bits .and .i64 n (k : Int) = (maskOf n k : Int) := by
  have hx : maskOf n k < 256 := maskOf_lt h
  show IntKind.i64.wrap ((BitVec.ofInt 64 n &&& BitVec.ofInt 64 (k : Int)).toNat : Int) = _
  rw [BitVec.toNat_and, toNat8 h, IntKind.wrap_i64]
  show _ = (((BitVec.ofInt 64 n).toNat &&& k : Nat) : Int)
  unfold maskOf at hx
  omega
def sbB (a b : Nat) : Bool := decide (a ||| b = b)
theorem sbB_iff (a b : Nat) : sbB a b = true ↔ Sb a b := by
  unfold sbB
  rw [decide_eq_true_eq]
  constructor
  · intro h i hi
    rw [← h, Nat.testBit_or, hi]; rfl
  · intro h
    exact sb_anti (sb_or h (sb_refl b)) (sb_or_r a b)
theorem sbB_false {a b : Nat} (h : ¬ Sb a b) : sbB a b = false := by
  cases e : sbB a b
  · rfl
  · exact absurd ((sbB_iff a b).1 e) h
theorem bits_not8 {a b : Nat} (ha : a < 256) (hb : b < 256) : (bits .andNot .i64 (a : Int) (b : Int) == 0) = sbB a b := by
  have e : bits .andNot .i64 (a : Int) (b : Int) = (((BitVec.ofInt 64 (a : Int) &&& ~~~ BitVec.ofInt 64 (b : Int)).toNat : Nat) : Int) := by
    have hx : (BitVec.ofInt 64 (a : Int) &&& ~~~ BitVec.ofInt 64 (b : Int)).toNat < 256 := by
      rw [BitVec.toNat_and, toNat8 ha]; exact and_lt ha
    show IntKind.i64.wrap ((BitVec.ofInt 64 (a : Int) &&& ~~~ BitVec.ofInt 64 (b : Int)).toNat : Int) = _
    rw [IntKind.wrap_i64]
    omega
  rw [e, Bool.eq_iff_iff, sbB_iff]
  rw [beq_iff_eq]
  have bit : ∀ (c : Nat), c < 256 → ∀ i, i < 64 → (BitVec.ofInt 64 (c : Int)).getLsbD i = c.testBit i := by
    intro c hc i hi
    unfold BitVec.getLsbD
    rw [toNat8 hc]
  constructor
  · intro h i hi
    have h64 : i < 64 := by
      rcases Nat.lt_or_ge i 64 with h1 | h1
      · exact h1
      · rw [Nat.testBit_lt_two_pow (Nat.lt_of_lt_of_le (show a < 2 ^ 64 by omega) (Nat.pow_le_pow_right (by omega) h1))] at hi; cases hi
    have z : (BitVec.ofInt 64 (a : Int) &&& ~~~ BitVec.ofInt 64 (b : Int)) = 0#64 := by
      apply BitVec.eq_of_toNat_eq
      rw [BitVec.toNat_zero]; omega
    have g := congrArg (fun x => x.getLsbD i) z
    simp only [BitVec.getLsbD_and, BitVec.getLsbD_not, bit a ha i h64, bit b hb i h64, hi, h64, BitVec.getLsbD_zero] at g
    simpa using g
  · intro h
    have z : (BitVec.ofInt 64 (a : Int) &&& ~~~ BitVec.ofInt 64 (b : Int)) = 0#64 := by
      apply BitVec.eq_of_getLsbD_eq
      intro i hi
      simp only [BitVec.getLsbD_and, BitVec.getLsbD_not, bit a ha i hi, bit b hb i hi, hi, BitVec.getLsbD_zero]
      cases ha' : a.testBit i
      · rfl
      · rw [h i ha']; rfl
    rw [z]; rfl
end Go.Proofs.Ytnholabamjodhaa

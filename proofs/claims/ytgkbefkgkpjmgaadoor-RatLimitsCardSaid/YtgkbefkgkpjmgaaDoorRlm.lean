import Derived.Test.YtgkbefkgkpjmgaaDoorRc
namespace Go.Proofs.YtgkbefkgkpjmgaaDoor
open Go.RowKit Go.Instr
set_option linter.unusedVariables false

/-! Powers of 2, all of those within the limits. -/
def pwN (n : Int) : Int := if n < 0 then 1 else 2 ^ n.toNat
def pwD (n : Int) : Int := if n < 0 then 2 ^ (-n).toNat else 1
def pw (n : Int) : Rat := Rat.divInt (pwN n) (pwD n)
def inR (n : Int) : Bool := decide (-62 ≤ n) && decide (n ≤ 62)
def chkE (r : Rat) (n : Int) : Bool := ((errR r == 0) == inR n) && (!(errR r == 0) || ((numR r == pwN n) && (denR r == pwD n)))
def fitsB (a b : Int) : Bool := if max a b == min a b then decide (max a b ≤ 61) else decide (max a b ≤ 61) && decide (max a b - min (min a b) 0 ≤ 61)
def chk (a b : Int) : Bool := chkE (pw a * pw b) (a + b) && chkE (pw a / pw b) (a - b) && ((errR (pw a + pw b) == 0) == fitsB a b)
theorem chk1 : ∀ a : Fin 25, ∀ b : Fin 125, chk (a.val - 62) (b.val - 62) = true := by decide +kernel
theorem chk2 : ∀ a : Fin 25, ∀ b : Fin 125, chk (a.val - 37) (b.val - 62) = true := by decide +kernel
theorem chk3 : ∀ a : Fin 25, ∀ b : Fin 125, chk (a.val - 12) (b.val - 62) = true := by decide +kernel
theorem chk4 : ∀ a : Fin 25, ∀ b : Fin 125, chk (a.val + 13) (b.val - 62) = true := by decide +kernel
theorem chk5 : ∀ a : Fin 25, ∀ b : Fin 125, chk (a.val + 38) (b.val - 62) = true := by decide +kernel
theorem chk_any (a b : Int) (ha : -62 ≤ a ∧ a ≤ 62) (hb : -62 ≤ b ∧ b ≤ 62) : chk a b = true := by
  obtain ⟨j, hj⟩ : ∃ j : Fin 125, b = (j.val : Int) - 62 := ⟨⟨(b + 62).toNat, by omega⟩, by simp; omega⟩
  subst hj
  by_cases h1 : a < -37
  · obtain ⟨i, hi⟩ : ∃ i : Fin 25, a = (i.val : Int) - 62 := ⟨⟨(a + 62).toNat, by omega⟩, by simp; omega⟩
    subst hi; exact chk1 i j
  by_cases h2 : a < -12
  · obtain ⟨i, hi⟩ : ∃ i : Fin 25, a = (i.val : Int) - 37 := ⟨⟨(a + 37).toNat, by omega⟩, by simp; omega⟩
    subst hi; exact chk2 i j
  by_cases h3 : a < 13
  · obtain ⟨i, hi⟩ : ∃ i : Fin 25, a = (i.val : Int) - 12 := ⟨⟨(a + 12).toNat, by omega⟩, by simp; omega⟩
    subst hi; exact chk3 i j
  by_cases h4 : a < 38
  · obtain ⟨i, hi⟩ : ∃ i : Fin 25, a = (i.val : Int) + 13 := ⟨⟨(a - 13).toNat, by omega⟩, by simp; omega⟩
    subst hi; exact chk4 i j
  · obtain ⟨i, hi⟩ : ∃ i : Fin 25, a = (i.val : Int) + 38 := ⟨⟨(a - 38).toNat, by omega⟩, by simp; omega⟩
    subst hi; exact chk5 i j
def frB (n : Int) : Bool := decide (0 < pwD n) && decide (Nat.gcd (pwN n).natAbs (pwD n).natAbs = 1) && decide ((pwN n).natAbs ≤ 4611686018427387904) && decide (pwD n ≤ 4611686018427387904) && decide (0 < pwN n)
theorem frB_all : ∀ a : Fin 125, frB (a.val - 62) = true := by decide +kernel
theorem frB_any (a : Int) (ha : -62 ≤ a ∧ a ≤ 62) : frB a = true := by
  obtain ⟨j, hj⟩ : ∃ j : Fin 125, a = (j.val : Int) - 62 := ⟨⟨(a + 62).toNat, by omega⟩, by simp; omega⟩
  subst hj; exact frB_all j
end Go.Proofs.YtgkbefkgkpjmgaaDoor

import Derived.Test.YtfoiadabppnibaaGm
namespace Go.Proofs.Ytfoiadabppnibaa
set_option linter.unusedVariables false
/-! the reference's ways -/
def unshB (y : BitVec 64) (n : Nat) : Nat → BitVec 64
  | 0 => y
  | k + 1 => y ^^^ (unshB y n k >>> n)
theorem unsh_two (y : BitVec 64) (n : Nat) (h : 22 ≤ n) (k : Nat) : unshB y n (k + 2) = unfoldB n y := by
  induction k with
  | zero =>
    simp only [unshB, unfoldB]
    rw [BitVec.ushiftRight_xor_distrib, ← BitVec.shiftRight_add, show n + n = 2 * n by omega, BitVec.xor_assoc]
  | succ k ih =>
    rw [unshB, ih]
    unfold unfoldB
    rw [BitVec.ushiftRight_xor_distrib, BitVec.ushiftRight_xor_distrib, ← BitVec.shiftRight_add, ← BitVec.shiftRight_add]
    have e : y >>> (2 * n + n) = 0#64 := by
      apply BitVec.eq_of_toNat_eq
      rw [BitVec.toNat_ushiftRight, Nat.shiftRight_eq_div_pow]
      have : y.toNat < 2 ^ (2 * n + n) := Nat.lt_of_lt_of_le y.isLt (Nat.pow_le_pow_right (by omega) (by omega))
      rw [Nat.div_eq_of_lt this]; rfl
    rw [e, BitVec.xor_zero, show n + n = 2 * n by omega, BitVec.xor_assoc]
def rinv (a : BitVec 64) : Nat → BitVec 64
  | 0 => 0#64
  | k + 1 => if ((rinv a k * a) >>> k) &&& 1#64 = (if k = 0 then 1#64 else 0#64) then rinv a k else rinv a k ||| (1#64 <<< k)
theorem rinv1 : rinv c1 64 = invB c1 := by decide +kernel
theorem rinv2 : rinv c2 64 = invB c2 := by decide +kernel
theorem text_split (n k : Nat) (h : k < 16) : textN n (16 - k) = hexC (n / 16 ^ (15 - k) % 16) :: textN n (16 - (k + 1)) := by
  rw [show 16 - k = (15 - k) + 1 by omega, textN, show 16 - (k + 1) = 15 - k by omega]
def foldX : Nat → List UInt8 → Nat
  | a, [] => a
  | a, c :: l => foldX (match hexD c with | none => a | some d => a * 16 + d) l
theorem foldX_snoc (l : List UInt8) (c : UInt8) : ∀ a, foldX a (l ++ [c]) = match hexD c with | none => foldX a l | some d => foldX a l * 16 + d := by
  induction l with
  | nil => intro a; rfl
  | cons b l ih => intro a; exact ih _
theorem foldX_lt (l : List UInt8) : foldX 0 l < 16 ^ l.length := by
  generalize hn : l.length = n
  induction n generalizing l with
  | zero => obtain rfl := List.eq_nil_of_length_eq_zero hn; decide
  | succ n ih =>
    obtain ⟨l', c, rfl⟩ : ∃ l' c, l = l' ++ [c] := ⟨l.dropLast, l.getLast (by intro e; simp [e] at hn), (List.dropLast_concat_getLast _).symm⟩
    have h1 := ih l' (by simpa using hn)
    rw [foldX_snoc, Nat.pow_succ]
    cases hc : hexD c with
    | none => show foldX 0 l' < _; omega
    | some d =>
      have := (hexC_hexD hc).2
      show foldX 0 l' * 16 + d < _
      omega
theorem foldX_val (l : List UInt8) : ∀ a v, valF a l = some v → foldX a l = v := by
  induction l with
  | nil => intro a v h; exact Option.some.inj h
  | cons c l ih =>
    intro a v h
    simp only [valF] at h
    cases hc : hexD c with
    | none => rw [hc] at h; cases h
    | some d =>
      rw [hc] at h
      show foldX (match hexD c with | none => a | some d => a * 16 + d) l = v
      rw [hc]
      exact ih _ _ h
/-- The number that the reference finds in a text. -/
def refX (l : List UInt8) : Nat := foldX 0 (l.take 16)
theorem refX_lt (l : List UInt8) : refX l < 18446744073709551616 := by
  have := foldX_lt (l.take 16)
  exact Nat.lt_of_lt_of_le this (by rw [show (18446744073709551616 : Nat) = 16 ^ 16 by decide]; exact Nat.pow_le_pow_right (by omega) (by simp; omega))
theorem ref_iff (l : List UInt8) : textN (refX l) 16 = l ↔ l.length = 16 ∧ valF 0 l = some (refX l) := by
  constructor
  · intro h
    have h2 : l.length = 16 := by rw [← h, textN_length]
    refine ⟨h2, ?_⟩
    have := valF_text 16 (refX l) (refX_lt l)
    rwa [h] at this
  · rintro ⟨h1, h2⟩
    have := (text_valF l _ h2).1
    rwa [h1] at this
theorem ref_some (l : List UInt8) (h : l.length = 16) (v : Nat) (hv : valF 0 l = some v) : refX l = v := by
  unfold refX
  rw [List.take_of_length_le (by omega)]
  exact foldX_val _ _ _ hv
end Go.Proofs.Ytfoiadabppnibaa

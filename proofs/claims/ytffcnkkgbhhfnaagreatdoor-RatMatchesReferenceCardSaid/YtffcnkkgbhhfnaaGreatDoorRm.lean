
import Derived.Lib.ItoaNum
namespace Go.Proofs.YtffcnkkgbhhfnaaGreatDoor
set_option linter.unusedVariables false

/-! The arithmetic of a division of 128 bits by 64, digit by digit, the digits below B = 2^32. -/

structure DigitAt (un32 un1 yn1 yn0 : Nat) : Prop where
  hi : 2147483648 ≤ yn1
  hi2 : yn1 < 4294967296
  lo : yn0 < 4294967296
  u1 : un1 < 4294967296
  lt : un32 < yn1 * 4294967296 + yn0

/-- q is at least the digit, and r is what it leaves of the high part. -/
structure Guess (un32 un1 yn1 yn0 q r : Nat) : Prop where
  eq : q * yn1 + r = un32
  le : q ≤ 4294967297
  up : un32 * 4294967296 + un1 < (q + 1) * (yn1 * 4294967296 + yn0)

theorem guess_first {un32 un1 yn1 yn0 : Nat} (D : DigitAt un32 un1 yn1 yn0) : Guess un32 un1 yn1 yn0 (un32 / yn1) (un32 - un32 / yn1 * yn1) ∧ un32 - un32 / yn1 * yn1 < 4294967296 := by
  obtain ⟨h1, h2, h3, h4, h5⟩ := D
  have e : un32 / yn1 * yn1 + un32 % yn1 = un32 := by rw [Nat.mul_comm]; exact Nat.div_add_mod un32 yn1
  have m := Nat.mod_lt un32 (show yn1 > 0 by omega)
  have hq : un32 / yn1 < 4294967298 := by
    rw [Nat.div_lt_iff_lt_mul (by omega)]; omega
  revert e hq
  generalize un32 / yn1 = q
  intro e hq
  have e2 : (q + 1) * (yn1 * 4294967296 + yn0) = q * yn1 * 4294967296 + q * yn0 + yn1 * 4294967296 + yn0 := by
    rw [Nat.add_mul, Nat.mul_add, ← Nat.mul_assoc]; omega
  refine ⟨⟨by omega, by omega, ?_⟩, by omega⟩
  rw [e2]
  omega

theorem guess_test {un32 un1 yn1 yn0 q r : Nat} (D : DigitAt un32 un1 yn1 yn0) (G : Guess un32 un1 yn1 yn0 q r) :
    (q * (yn1 * 4294967296 + yn0) ≤ un32 * 4294967296 + un1 ↔ q * yn0 ≤ 4294967296 * r + un1) ∧ (4294967296 ≤ q → un32 * 4294967296 + un1 < q * (yn1 * 4294967296 + yn0)) := by
  obtain ⟨h1, h2, h3, h4, h5⟩ := D
  obtain ⟨g1, g2, g3⟩ := G
  have e : q * (yn1 * 4294967296 + yn0) = q * yn1 * 4294967296 + q * yn0 := by rw [Nat.mul_add, ← Nat.mul_assoc]
  refine ⟨?_, fun hq => ?_⟩
  · rw [e]; generalize q * yn1 = p at *; generalize q * yn0 = t at *; omega
  · have := Nat.mul_le_mul_right (yn1 * 4294967296 + yn0) hq
    omega

theorem guess_next {un32 un1 yn1 yn0 q r : Nat} (G : Guess un32 un1 yn1 yn0 q r) (h : un32 * 4294967296 + un1 < q * (yn1 * 4294967296 + yn0)) :
    1 ≤ q ∧ Guess un32 un1 yn1 yn0 (q - 1) (r + yn1) := by
  obtain ⟨g1, g2, g3⟩ := G
  have hq : 1 ≤ q := by
    cases q with
    | zero => omega
    | succ q => omega
  obtain ⟨k, rfl⟩ : ∃ k, q = k + 1 := ⟨q - 1, by omega⟩
  refine ⟨hq, ?_, by omega, ?_⟩
  · rw [Nat.add_sub_cancel]; rw [Nat.add_mul] at g1; omega
  · rw [Nat.add_sub_cancel]; exact h

theorem guess_break {un32 un1 yn1 yn0 q r : Nat} (D : DigitAt un32 un1 yn1 yn0) (G : Guess un32 un1 yn1 yn0 q r) (hq : q ≤ 4294967296) (hr : 4294967296 ≤ r) :
    q * (yn1 * 4294967296 + yn0) ≤ un32 * 4294967296 + un1 := by
  rw [(guess_test D G).1]
  have := Nat.mul_le_mul hq (show yn0 ≤ 4294967295 by have := D.lo; omega)
  omega

theorem guess_digit {un32 un1 yn1 yn0 q r : Nat} (G : Guess un32 un1 yn1 yn0 q r) (h : q * (yn1 * 4294967296 + yn0) ≤ un32 * 4294967296 + un1) :
    q = (un32 * 4294967296 + un1) / (yn1 * 4294967296 + yn0) := by
  obtain ⟨g1, g2, g3⟩ := G
  symm
  exact Nat.div_eq_of_lt_le h g3

theorem digit_lt {un32 un1 yn1 yn0 : Nat} (D : DigitAt un32 un1 yn1 yn0) : (un32 * 4294967296 + un1) / (yn1 * 4294967296 + yn0) < 4294967296 := by
  obtain ⟨h1, h2, h3, h4, h5⟩ := D
  rw [Nat.div_lt_iff_lt_mul (by omega)]; omega

/-- Two digits are the quotient. -/
theorem two_digits {N s y un32 un1 un0 D : Nat} (hD : D = y * 2 ^ s) (hy : 0 < y) (hN : N * 2 ^ s = (un32 * 4294967296 + un1) * 4294967296 + un0) :
    (un32 * 4294967296 + un1) / D * 4294967296 + ((un32 * 4294967296 + un1) % D * 4294967296 + un0) / D = N / y ∧
    ((un32 * 4294967296 + un1) % D * 4294967296 + un0) % D / 2 ^ s = N % y := by
  have hp : 0 < 2 ^ s := Nat.pow_pos (by omega)
  have e1 := Nat.div_add_mod (un32 * 4294967296 + un1) D
  have hq : (un32 * 4294967296 + un1) * 4294967296 + un0 = ((un32 * 4294967296 + un1) % D * 4294967296 + un0) + D * ((un32 * 4294967296 + un1) / D * 4294967296) := by
    rw [← Nat.mul_assoc]
    generalize D * ((un32 * 4294967296 + un1) / D) = p at *
    omega
  have hD0 : 0 < D := by rw [hD]; exact Nat.mul_pos hy hp
  rw [← Nat.mul_div_mul_right N y hp, ← hD, hN]
  constructor
  · rw [hq, Nat.add_mul_div_left _ _ hD0]; exact Nat.add_comm _ _
  · have h1 : ((un32 * 4294967296 + un1) * 4294967296 + un0) % D = ((un32 * 4294967296 + un1) % D * 4294967296 + un0) % D := by
      rw [hq, Nat.add_mul_mod_self_left]
    have h2 : N * 2 ^ s % D = N % y * 2 ^ s := by rw [hD]; exact Nat.mul_mod_mul_right _ _ _
    rw [← h1, show ((un32 * 4294967296 + un1) * 4294967296 + un0) % D = N % y * 2 ^ s from hN ▸ h2]
    exact Nat.mul_div_cancel _ hp

/-! Numbers of 128 bits in two's complement: the halves of an integer. -/
def hiW (v : Int) : Int := v / 18446744073709551616 % 18446744073709551616
def loW (v : Int) : Int := v % 18446744073709551616
/-- What has 128 bits in two's complement. -/
def Fit128 (v : Int) : Prop := -170141183460469231731687303715884105728 ≤ v ∧ v < 170141183460469231731687303715884105728

theorem hiW_bd (v : Int) : 0 ≤ hiW v ∧ hiW v < 18446744073709551616 := by unfold hiW; omega
theorem loW_bd (v : Int) : 0 ≤ loW v ∧ loW v < 18446744073709551616 := by unfold loW; omega

theorem prod_lo (a b A B : Int) (hA : A = a % 18446744073709551616) (hB : B = b % 18446744073709551616) : A * B % 18446744073709551616 = loW (a * b) := by
  rw [hA, hB, loW, ← Int.mul_emod]

theorem prod_pp (a b A B : Int) (hA : A = a % 18446744073709551616) (hB : B = b % 18446744073709551616) (ha : 0 ≤ a) (hb : 0 ≤ b) (ha2 : a < 9223372036854775808) (hb2 : b < 9223372036854775808) :
    A * B / 18446744073709551616 % 18446744073709551616 = hiW (a * b) := by
  have e1 : A = a := by omega
  have e2 : B = b := by omega
  rw [e1, e2]; rfl
theorem prod_np (a b A B : Int) (hA : A = a % 18446744073709551616) (hB : B = b % 18446744073709551616) (ha : a < 0) (hb : 0 ≤ b) (ha2 : -9223372036854775808 ≤ a) (hb2 : b < 9223372036854775808) :
    (A * B / 18446744073709551616 - B) % 18446744073709551616 = hiW (a * b) := by
  have e1 : A = a + 18446744073709551616 := by omega
  have e2 : B = b := by omega
  subst e1; subst e2
  rw [Int.add_mul, hiW]
  generalize a * B = p
  omega
theorem prod_pn (a b A B : Int) (hA : A = a % 18446744073709551616) (hB : B = b % 18446744073709551616) (ha : 0 ≤ a) (hb : b < 0) (ha2 : a < 9223372036854775808) (hb2 : -9223372036854775808 ≤ b) :
    (A * B / 18446744073709551616 - A) % 18446744073709551616 = hiW (a * b) := by
  have e1 : B = b + 18446744073709551616 := by omega
  have e2 : A = a := by omega
  subst e1; subst e2
  rw [Int.mul_add, hiW]
  generalize A * b = p
  omega
theorem prod_nn (a b A B : Int) (hA : A = a % 18446744073709551616) (hB : B = b % 18446744073709551616) (ha : a < 0) (hb : b < 0) (ha2 : -9223372036854775808 ≤ a) (hb2 : -9223372036854775808 ≤ b) :
    (A * B / 18446744073709551616 - B - A) % 18446744073709551616 = hiW (a * b) := by
  have e1 : A = a + 18446744073709551616 := by omega
  have e2 : B = b + 18446744073709551616 := by omega
  subst e1; subst e2
  rw [Int.add_mul, Int.mul_add, Int.mul_add, hiW]
  generalize a * b = p
  omega

theorem plus_lo (v u : Int) : (loW v + loW u) % 18446744073709551616 = loW (v + u) := by unfold loW; omega
theorem plus_hi (v u : Int) : (hiW v + hiW u + (loW v + loW u) / 18446744073709551616) % 18446744073709551616 = hiW (v + u) := by unfold hiW loW; omega
theorem minus_lo (v : Int) : (0 + 18446744073709551616 - loW v - 0) % 18446744073709551616 = loW (-v) := by unfold loW; omega
theorem minus_hi (v : Int) : (0 + 18446744073709551616 - hiW v - (if 0 < loW v then 1 else 0)) % 18446744073709551616 = hiW (-v) := by unfold hiW loW; split <;> omega
theorem neg_iff (v : Int) (h : Fit128 v) : 9223372036854775808 ≤ hiW v ↔ v < 0 := by unfold Fit128 at h; unfold hiW; omega
theorem less_iff (v u : Int) (hv : Fit128 v) (hu : Fit128 u) (e : hiW v = hiW u) : loW v < loW u ↔ v < u := by unfold Fit128 at hv hu; unfold hiW at e; unfold loW; omega
theorem less_hi (v u : Int) (hv : Fit128 v) (hu : Fit128 u) (e : hiW v ≠ hiW u) :
    ((hiW v + 9223372036854775808) % 18446744073709551616 < (hiW u + 9223372036854775808) % 18446744073709551616) ↔ v < u := by unfold Fit128 at hv hu; unfold hiW at *; omega
theorem within_iff (v n : Int) (hv : 0 ≤ v) (h2 : v ≤ 170141183460469231731687303715884105728) (hn : n < 18446744073709551616) : (hiW v = 0 ∧ loW v ≤ n) ↔ v ≤ n := by unfold hiW loW; omega

theorem over_lo (M n : Nat) (hn : 0 < n) :
    ((M / 18446744073709551616 % n) * 18446744073709551616 + M % 18446744073709551616) / n = M / n % 18446744073709551616 ∧ M / 18446744073709551616 / n = M / n / 18446744073709551616 := by
  have e : M = (M / 18446744073709551616 % n * 18446744073709551616 + M % 18446744073709551616) + n * (M / 18446744073709551616 / n * 18446744073709551616) := by
    have h1 := Nat.div_add_mod (M / 18446744073709551616) n
    rw [← Nat.mul_assoc]
    generalize n * (M / 18446744073709551616 / n) = p at *
    omega
  have hl : (M / 18446744073709551616 % n * 18446744073709551616 + M % 18446744073709551616) / n < 18446744073709551616 := by
    rw [Nat.div_lt_iff_lt_mul hn]
    have := Nat.mod_lt (M / 18446744073709551616) hn
    omega
  have e2 : M / n = (M / 18446744073709551616 % n * 18446744073709551616 + M % 18446744073709551616) / n + M / 18446744073709551616 / n * 18446744073709551616 := by
    conv => lhs; rw [e]
    rw [Nat.add_mul_div_left _ _ hn]
  generalize (M / 18446744073709551616 % n * 18446744073709551616 + M % 18446744073709551616) / n = q at *
  rw [e2]
  omega
theorem over_mod (M n : Nat) : ((M / 18446744073709551616 % n) * 18446744073709551616 + M % 18446744073709551616) % n = M % n := by
  have e : M = (M / 18446744073709551616 % n * 18446744073709551616 + M % 18446744073709551616) + n * (M / 18446744073709551616 / n * 18446744073709551616) := by
    have h1 := Nat.div_add_mod (M / 18446744073709551616) n
    rw [← Nat.mul_assoc]
    generalize n * (M / 18446744073709551616 / n) = p at *
    omega
  conv => rhs; rw [e]
  rw [Nat.add_mul_mod_self_left]
theorem tdiv_sign (v : Int) (n : Nat) : v.tdiv n = if v < 0 then -((v.natAbs / n : Nat) : Int) else ((v.natAbs / n : Nat) : Int) := by
  split
  · rename_i h
    obtain ⟨k, rfl⟩ : ∃ k : Nat, v = -k := ⟨v.natAbs, by omega⟩
    rw [Int.neg_tdiv, ← Int.ofNat_tdiv]; simp
  · obtain ⟨k, rfl⟩ : ∃ k : Nat, v = k := ⟨v.natAbs, by omega⟩
    rw [← Int.ofNat_tdiv]; simp

/-! Fractions as rational numbers. -/

/-- A valid fraction. -/
structure Fr (n d : Int) : Prop where
  pos : 1 ≤ d
  le : d ≤ 4611686018427387904
  lo : -4611686018427387904 ≤ n
  hi : n ≤ 4611686018427387904
  cop : Nat.gcd n.natAbs d.natAbs = 1

def okR (r : Rat) : Bool := decide (r.num.natAbs ≤ 4611686018427387904) && decide (r.den ≤ 4611686018427387904)
def numR (r : Rat) : Int := if okR r = true then r.num else 0
def denR (r : Rat) : Int := if okR r = true then (r.den : Int) else 0
def errR (r : Rat) : Int := if okR r = true then 0 else 2

theorem low_pos {n d : Int} (hd : 0 < d) (h : Nat.gcd n.natAbs d.natAbs = 1) : (Rat.divInt n d).num = n ∧ ((Rat.divInt n d).den : Int) = d := by
  have hg : d.gcd n = 1 := by rw [Int.gcd, Nat.gcd_comm]; exact h
  constructor
  · rw [Rat.num_divInt, hg, Int.sign_eq_one_of_pos hd]; simp
  · rw [Rat.den_divInt, hg, if_neg (by omega)]; omega

theorem low_neg {n d : Int} (hd : d < 0) (h : Nat.gcd n.natAbs d.natAbs = 1) : (Rat.divInt n d).num = -n ∧ ((Rat.divInt n d).den : Int) = -d := by
  rw [← Rat.neg_divInt_neg]
  exact low_pos (by omega) (by simpa using h)

theorem Fr.num {n d : Int} (h : Fr n d) : (Rat.divInt n d).num = n := (low_pos (by have := h.pos; omega) h.cop).1
theorem Fr.den {n d : Int} (h : Fr n d) : ((Rat.divInt n d).den : Int) = d := (low_pos (by have := h.pos; omega) h.cop).2
theorem Fr.ok {n d : Int} (h : Fr n d) : okR (Rat.divInt n d) = true := by
  have h1 := h.num; have h2 := h.den; have := h.le; have := h.lo; have := h.hi
  unfold okR
  rw [Bool.and_eq_true, decide_eq_true_eq, decide_eq_true_eq]
  omega

theorem ok_fr {r : Rat} (h : okR r = true) : Fr r.num r.den := by
  unfold okR at h
  rw [Bool.and_eq_true, decide_eq_true_eq, decide_eq_true_eq] at h
  have := r.den_pos
  exact ⟨by omega, by omega, by omega, by omega, by simpa using r.reduced⟩

theorem fr_numR {n d : Int} (h : Fr n d) : numR (Rat.divInt n d) = n := by rw [numR, if_pos h.ok, h.num]
theorem fr_denR {n d : Int} (h : Fr n d) : denR (Rat.divInt n d) = d := by rw [denR, if_pos h.ok, h.den]
theorem fr_errR {n d : Int} (h : Fr n d) : errR (Rat.divInt n d) = 0 := by rw [errR, if_pos h.ok]

theorem okR_fr {r : Rat} (h : okR r = true) : Fr (numR r) (denR r) ∧ Rat.divInt (numR r) (denR r) = r := by
  rw [numR, denR, if_pos h, if_pos h]
  exact ⟨ok_fr h, Rat.num_divInt_den r⟩

theorem gcd_pos_ne {a b : Int} (h : b ≠ 0) : 0 < Nat.gcd a.natAbs b.natAbs := Nat.gcd_pos_of_pos_right _ (by omega)

/-- What is left of a product when both divisors that cross are taken out. -/
theorem mul_low (aN aD bN bD : Int) (ha : aD ≠ 0) (hb : bD ≠ 0) (ca : Nat.gcd aN.natAbs aD.natAbs = 1) (cb : Nat.gcd bN.natAbs bD.natAbs = 1) (g h : Nat)
    (hg : g = Nat.gcd aN.natAbs bD.natAbs) (hh : h = Nat.gcd bN.natAbs aD.natAbs) :
    0 < g ∧ 0 < h ∧ ((aD * bD).tdiv g).tdiv h ≠ 0 ∧ Nat.gcd (((aN * bN).tdiv g).tdiv h).natAbs (((aD * bD).tdiv g).tdiv h).natAbs = 1 ∧
    Rat.divInt (((aN * bN).tdiv g).tdiv h) (((aD * bD).tdiv g).tdiv h) = Rat.divInt aN aD * Rat.divInt bN bD := by
  have hg0 : 0 < g := hg ▸ gcd_pos_ne hb
  have hh0 : 0 < h := hh ▸ gcd_pos_ne ha
  obtain ⟨p, hp⟩ : (g : Int) ∣ aN := Int.ofNat_dvd_left.mpr (hg ▸ Nat.gcd_dvd_left _ _)
  obtain ⟨q, hq⟩ : (g : Int) ∣ bD := Int.ofNat_dvd_left.mpr (hg ▸ Nat.gcd_dvd_right _ _)
  obtain ⟨u, hu⟩ : (h : Int) ∣ bN := Int.ofNat_dvd_left.mpr (hh ▸ Nat.gcd_dvd_left _ _)
  obtain ⟨v, hv⟩ : (h : Int) ∣ aD := Int.ofNat_dvd_left.mpr (hh ▸ Nat.gcd_dvd_right _ _)
  have en : ((aN * bN).tdiv g).tdiv h = p * u := by
    rw [hp, hu, show (g : Int) * p * (h * u) = g * (h * (p * u)) by ac_rfl, Int.mul_tdiv_cancel_left _ (by omega), Int.mul_tdiv_cancel_left _ (by omega)]
  have ed : ((aD * bD).tdiv g).tdiv h = v * q := by
    rw [hq, hv, show (h : Int) * v * (g * q) = g * (h * (v * q)) by ac_rfl, Int.mul_tdiv_cancel_left _ (by omega), Int.mul_tdiv_cancel_left _ (by omega)]
  have hq0 : q ≠ 0 := by rintro rfl; simp at hq; omega
  have hv0 : v ≠ 0 := by rintro rfl; simp at hv; omega
  have dg := Nat.coprime_div_gcd_div_gcd (m := aN.natAbs) (n := bD.natAbs) (hg ▸ hg0)
  have dh := Nat.coprime_div_gcd_div_gcd (m := bN.natAbs) (n := aD.natAbs) (hh ▸ hh0)
  rw [← hg] at dg
  rw [← hh] at dh
  have e1 : aN.natAbs = g * p.natAbs := by rw [hp, Int.natAbs_mul]; simp
  have e2 : bD.natAbs = g * q.natAbs := by rw [hq, Int.natAbs_mul]; simp
  have e3 : bN.natAbs = h * u.natAbs := by rw [hu, Int.natAbs_mul]; simp
  have e4 : aD.natAbs = h * v.natAbs := by rw [hv, Int.natAbs_mul]; simp
  rw [e1, e2, Nat.mul_div_cancel_left _ hg0, Nat.mul_div_cancel_left _ hg0] at dg
  rw [e3, e4, Nat.mul_div_cancel_left _ hh0, Nat.mul_div_cancel_left _ hh0] at dh
  rw [e1, e4] at ca
  rw [e3, e2] at cb
  have c1 : Nat.Coprime p.natAbs v.natAbs := Nat.Coprime.coprime_mul_left (Nat.Coprime.coprime_mul_left_right ca)
  have c2 : Nat.Coprime u.natAbs q.natAbs := Nat.Coprime.coprime_mul_left (Nat.Coprime.coprime_mul_left_right cb)
  refine ⟨hg0, hh0, ?_, ?_, ?_⟩
  · rw [ed]; exact Int.mul_ne_zero hv0 hq0
  · rw [en, ed, Int.natAbs_mul, Int.natAbs_mul]
    exact Nat.Coprime.mul_left (Nat.Coprime.mul_right c1 dg) (Nat.Coprime.mul_right dh c2)
  · rw [en, ed, Rat.divInt_mul_divInt, Rat.divInt_eq_divInt_iff (Int.mul_ne_zero hv0 hq0) (Int.mul_ne_zero ha hb), hp, hq, hu, hv]
    ac_rfl

/-- What is left of a sum. -/
theorem add_low (aN aD bN bD : Int) (ha : aD ≠ 0) (hb : bD ≠ 0) (ca : Nat.gcd aN.natAbs aD.natAbs = 1) (cb : Nat.gcd bN.natAbs bD.natAbs = 1) (g h : Nat) (n : Int)
    (hg : g = Nat.gcd aD.natAbs bD.natAbs) (hn : n = (aN * bD + bN * aD).tdiv g) (hh : h = Nat.gcd g (n.natAbs % g)) :
    0 < g ∧ 0 < h ∧ ((aD * bD).tdiv g).tdiv h ≠ 0 ∧ Nat.gcd (n.tdiv h).natAbs (((aD * bD).tdiv g).tdiv h).natAbs = 1 ∧
    Rat.divInt (n.tdiv h) (((aD * bD).tdiv g).tdiv h) = Rat.divInt aN aD + Rat.divInt bN bD := by
  have hg0 : 0 < g := hg ▸ gcd_pos_ne hb
  have hh' : h = Nat.gcd n.natAbs g := by rw [hh, Nat.gcd_comm g, ← Nat.gcd_rec, Nat.gcd_comm]
  have hh0 : 0 < h := hh' ▸ Nat.gcd_pos_of_pos_right _ hg0
  obtain ⟨p, hp⟩ : (g : Int) ∣ aD := Int.ofNat_dvd_left.mpr (hg ▸ Nat.gcd_dvd_left _ _)
  obtain ⟨q, hq⟩ : (g : Int) ∣ bD := Int.ofNat_dvd_left.mpr (hg ▸ Nat.gcd_dvd_right _ _)
  have en : n = aN * q + bN * p := by
    rw [hn, hp, hq, show aN * ((g : Int) * q) + bN * (g * p) = g * (aN * q + bN * p) by rw [Int.mul_add]; ac_rfl, Int.mul_tdiv_cancel_left _ (by omega)]
  have hp0 : p ≠ 0 := by rintro rfl; simp at hp; omega
  have hq0 : q ≠ 0 := by rintro rfl; simp at hq; omega
  obtain ⟨m, hm⟩ : (h : Int) ∣ n := Int.ofNat_dvd_left.mpr (hh' ▸ Nat.gcd_dvd_left _ _)
  obtain ⟨k, hk⟩ : h ∣ g := hh' ▸ Nat.gcd_dvd_right _ _
  have hk0 : k ≠ 0 := by rintro rfl; simp at hk; omega
  have ed : ((aD * bD).tdiv g).tdiv h = k * p * q := by
    rw [hp, hq, show (g : Int) * p * (g * q) = g * (g * (p * q)) by ac_rfl, Int.mul_tdiv_cancel_left _ (by omega), hk, Int.natCast_mul,
      show (h : Int) * k * (p * q) = h * (k * p * q) by ac_rfl, Int.mul_tdiv_cancel_left _ (by omega)]
  have em : n.tdiv h = m := by rw [hm, Int.mul_tdiv_cancel_left _ (by omega)]
  have dg := Nat.coprime_div_gcd_div_gcd (m := aD.natAbs) (n := bD.natAbs) (hg ▸ hg0)
  rw [← hg] at dg
  have e1 : aD.natAbs = g * p.natAbs := by rw [hp, Int.natAbs_mul]; simp
  have e2 : bD.natAbs = g * q.natAbs := by rw [hq, Int.natAbs_mul]; simp
  rw [e1, e2, Nat.mul_div_cancel_left _ hg0, Nat.mul_div_cancel_left _ hg0] at dg
  rw [e1] at ca
  rw [e2] at cb
  have cp : Nat.Coprime aN.natAbs p.natAbs := Nat.Coprime.coprime_mul_left_right ca
  have cq : Nat.Coprime bN.natAbs q.natAbs := Nat.Coprime.coprime_mul_left_right cb
  -- the numerator has nothing in common with p, nor with q
  have np : Nat.Coprime n.natAbs p.natAbs := by
    have : Nat.gcd (aN * q).natAbs p.natAbs = 1 := by rw [Int.natAbs_mul]; exact Nat.Coprime.mul_left cp dg.symm
    have e : Int.gcd (aN * q + bN * p) p = Int.gcd (aN * q) p := by rw [Int.gcd_add_mul_right_left]
    rw [en]; show Int.gcd _ _ = 1; rw [e]; exact this
  have nq : Nat.Coprime n.natAbs q.natAbs := by
    have : Nat.gcd (bN * p).natAbs q.natAbs = 1 := by rw [Int.natAbs_mul]; exact Nat.Coprime.mul_left cq dg
    have e : Int.gcd (aN * q + bN * p) q = Int.gcd (bN * p) q := by rw [Int.add_comm, Int.gcd_add_mul_right_left]
    rw [en]; show Int.gcd _ _ = 1; rw [e]; exact this
  have e5 : n.natAbs = h * m.natAbs := by rw [hm, Int.natAbs_mul]; simp
  have dk := Nat.coprime_div_gcd_div_gcd (m := n.natAbs) (n := g) (hh' ▸ hh0)
  rw [← hh', e5, hk, Nat.mul_div_cancel_left _ hh0, Nat.mul_div_cancel_left _ hh0] at dk
  rw [e5] at np nq
  have c1 := Nat.Coprime.coprime_mul_left np
  have c2 := Nat.Coprime.coprime_mul_left nq
  refine ⟨hg0, hh0, ?_, ?_, ?_⟩
  · rw [ed]; exact Int.mul_ne_zero (Int.mul_ne_zero (by omega) hp0) hq0
  · rw [em, ed, Int.natAbs_mul, Int.natAbs_mul, Int.natAbs_natCast]
    exact Nat.Coprime.mul_right (Nat.Coprime.mul_right dk c1) c2
  · rw [em, ed, Rat.divInt_add_divInt _ _ ha hb, Rat.divInt_eq_divInt_iff (Int.mul_ne_zero (Int.mul_ne_zero (by omega) hp0) hq0) (Int.mul_ne_zero ha hb)]
    have e7 : (g : Int) * n = aN * bD + bN * aD := by rw [en, Int.mul_add]; rw [hp, hq]; ac_rfl
    rw [← e7, hm]
    rw [hp, hq, hk, Int.natCast_mul]
    ac_rfl
end Go.Proofs.YtffcnkkgbhhfnaaGreatDoor

import Derived.Test.YtffcnkkgbhhfnaaGreatDoorRbs
namespace Go.Proofs.YtffcnkkgbhhfnaaGreatDoor
open Go.RowKit Go.Instr
set_option linter.unusedVariables false

/-! Mathematics of the reference's sums and products. -/
theorem sv_abs (b : Bool) (n : Nat) : (sv b n).natAbs = n := by unfold sv; split <;> omega
theorem sv_tdiv (b : Bool) (n h : Nat) (hn : n ≠ 0) : (sv b n).tdiv h = sv b (n / h) := by
  rw [tdiv_sign, sv_abs]
  unfold sv
  cases b
  · rw [if_neg (by simp)]; simp
  · rw [if_pos (by simp; omega)]; simp
theorem made_res {r : Rat} {b : Bool} {n d : Nat} (hn : r.num = sv b n) (hd : r.den = d) : madeV b n d = .agg #[.int .i64 (numR r), .int .i64 (denR r), .int .i64 (errR r)] := by
  unfold madeV numR denR errR okR
  rw [hn, sv_abs, hd]
  by_cases h1 : n ≤ 4611686018427387904 <;> by_cases h2 : d ≤ 4611686018427387904 <;> simp [h1, h2]
theorem zero_res {r : Rat} (h : r = 0) : numR r = 0 ∧ denR r = 1 ∧ errR r = 0 := by subst h; exact ⟨by decide, by decide, by decide⟩
theorem tdiv_cast (a g : Nat) : ((a : Int)).tdiv (g : Int) = ((a / g : Nat) : Int) := (Int.ofNat_tdiv a g).symm
theorem add_math {aN bN : Int} {da db : Nat} (a : Fr aN da) (b : Fr bN db) (g : Nat) (hg : g = Nat.gcd da db) (bt : Bool) (nt : Nat) (hs : sv bt nt = aN * ((db / g : Nat) : Int) + bN * ((da / g : Nat) : Int)) (h : Nat) (hh : h = Nat.gcd (nt % g) g) :
    0 < g ∧ 0 < h ∧ h ≤ g ∧ (nt = 0 → Rat.divInt aN da + Rat.divInt bN db = 0) ∧ (nt ≠ 0 → madeV bt (nt / h) ((da / g) * (db / h)) = .agg #[.int .i64 (numR (Rat.divInt aN da + Rat.divInt bN db)), .int .i64 (denR (Rat.divInt aN da + Rat.divInt bN db)), .int .i64 (errR (Rat.divInt aN da + Rat.divInt bN db))]) := by
  have ha0 : 0 < da := by have := a.pos; omega
  have hb0 : 0 < db := by have := b.pos; omega
  have hg0 : 0 < g := hg ▸ Nat.gcd_pos_of_pos_left _ ha0
  have hga : g ∣ da := hg ▸ Nat.gcd_dvd_left _ _
  have hgb : g ∣ db := hg ▸ Nat.gcd_dvd_right _ _
  obtain ⟨A, rfl⟩ := hga
  obtain ⟨B, rfl⟩ := hgb
  have e1 : g * A / g = A := Nat.mul_div_cancel_left _ hg0
  have e2 : g * B / g = B := Nat.mul_div_cancel_left _ hg0
  rw [e1, e2] at hs
  have hn : sv bt nt = (aN * ((g * B : Nat) : Int) + bN * ((g * A : Nat) : Int)).tdiv g := by
    have : aN * ((g * B : Nat) : Int) + bN * ((g * A : Nat) : Int) = (g : Int) * (aN * (B : Int) + bN * (A : Int)) := by
      rw [Int.natCast_mul, Int.natCast_mul, Int.mul_add]
      congr 1
      · rw [← Int.mul_assoc, Int.mul_comm aN, Int.mul_assoc]
      · rw [← Int.mul_assoc, Int.mul_comm bN, Int.mul_assoc]
    rw [this, Int.mul_tdiv_cancel_left _ (by omega), hs]
  have L := add_low aN ((g * A : Nat) : Int) bN ((g * B : Nat) : Int) (by have := a.pos; omega) (by have := b.pos; omega) a.cop b.cop g h (sv bt nt) (by rw [Int.natAbs_natCast, Int.natAbs_natCast]; exact hg) hn (by rw [sv_abs, hh, Nat.gcd_comm])
  obtain ⟨-, hh0, hne, hc, hr⟩ := L
  have hhg : h ≤ g := hh ▸ Nat.gcd_le_right _ hg0
  have hhd : h ∣ g := hh ▸ Nat.gcd_dvd_right _ _
  obtain ⟨G, hG⟩ := hhd
  have eD : ((((g * A : Nat) : Int) * ((g * B : Nat) : Int)).tdiv g).tdiv h = ((A * (g * B / h) : Nat) : Int) := by
    rw [← Int.natCast_mul, tdiv_cast, tdiv_cast]
    congr 1
    rw [Nat.mul_assoc, Nat.mul_div_cancel_left _ hg0, Nat.mul_div_assoc]
    exact ⟨G * B, by rw [hG, Nat.mul_assoc]⟩
  rw [eD] at hne hc hr
  refine ⟨hg0, hh0, hhg, fun h0 => ?_, fun h0 => ?_⟩
  · rw [← hr, h0, show sv bt 0 = 0 by unfold sv; split <;> rfl]; simp
  · rw [e1]
    obtain ⟨q1, q2⟩ := low_pos (by omega) hc
    rw [hr, sv_tdiv _ _ _ h0] at q1
    rw [hr] at q2
    exact made_res q1 (by omega)
theorem mul_math {aN bN : Int} {da db : Nat} (a : Fr aN da) (b : Fr bN db) (g h : Nat) (hg : g = Nat.gcd aN.natAbs db) (hh : h = Nat.gcd bN.natAbs da) (bt : Bool) (nt : Nat) (hs : sv bt nt = aN.tdiv g * bN.tdiv h) :
    0 < g ∧ 0 < h ∧ (aN = 0 ∨ bN = 0 → Rat.divInt aN da * Rat.divInt bN db = 0) ∧ madeV bt nt ((da / h) * (db / g)) = .agg #[.int .i64 (numR (Rat.divInt aN da * Rat.divInt bN db)), .int .i64 (denR (Rat.divInt aN da * Rat.divInt bN db)), .int .i64 (errR (Rat.divInt aN da * Rat.divInt bN db))] := by
  have ha0 : 0 < da := by have := a.pos; omega
  have hb0 : 0 < db := by have := b.pos; omega
  have L := mul_low aN (da : Int) bN (db : Int) (by omega) (by omega) a.cop b.cop g h (by simpa using hg) (by simpa using hh)
  obtain ⟨hg0, hh0, hne, hc, hr⟩ := L
  obtain ⟨A, hA⟩ : (g : Int) ∣ aN := Int.ofNat_dvd_left.mpr (hg ▸ Nat.gcd_dvd_left _ _)
  obtain ⟨B, hB⟩ : (h : Int) ∣ bN := Int.ofNat_dvd_left.mpr (hh ▸ Nat.gcd_dvd_left _ _)
  obtain ⟨C, hC⟩ : h ∣ da := hh ▸ Nat.gcd_dvd_right _ _
  obtain ⟨D, hD⟩ : g ∣ db := hg ▸ Nat.gcd_dvd_right _ _
  have eN : ((aN * bN).tdiv g).tdiv h = aN.tdiv g * bN.tdiv h := by
    rw [hA, hB, Int.mul_tdiv_cancel_left _ (by omega), Int.mul_tdiv_cancel_left _ (by omega), Int.mul_assoc, Int.mul_tdiv_cancel_left _ (by omega), Int.mul_comm A, Int.mul_assoc, Int.mul_tdiv_cancel_left _ (by omega), Int.mul_comm]
  have eD : (((da : Int) * (db : Int)).tdiv g).tdiv h = (((da / h) * (db / g) : Nat) : Int) := by
    rw [← Int.natCast_mul, tdiv_cast, tdiv_cast]
    congr 1
    rw [hC, hD, Nat.mul_div_cancel_left _ hg0, Nat.mul_div_cancel_left _ hh0, show h * C * (g * D) = g * (h * (C * D)) by rw [Nat.mul_comm (h * C), Nat.mul_assoc, Nat.mul_comm D, Nat.mul_assoc], Nat.mul_div_cancel_left _ hg0, Nat.mul_div_cancel_left _ hh0]
  rw [eN, eD] at hr hc
  rw [eD] at hne
  refine ⟨hg0, hh0, fun h0 => ?_, ?_⟩
  · rcases h0 with h0 | h0 <;> subst h0 <;> simp
  · obtain ⟨q1, q2⟩ := low_pos (by omega) hc
    rw [hr, ← hs] at q1
    rw [hr] at q2
    exact made_res q1 (by omega)
end Go.Proofs.YtffcnkkgbhhfnaaGreatDoor

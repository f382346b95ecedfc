import Derived.Test.YtnholabamjodhaaAa
namespace Go.Proofs.Ytnholabamjodhaa
open Go.RowKit Go.Instr Sp
set_option linter.unusedVariables false
set_option linter.unusedSimpArgs false

/-! The reference's sets, by value. -/
structure Near (lo hi m : Int) : Prop where
  l : -8589934592 ≤ lo
  h : hi ≤ 8589934592
  m : m ≤ 9223372036854775807
set_option maxHeartbeats 400000 in
theorem by_zero (lo hi m : Int) (k : Nat) (B : ByOk lo hi m) (N : Near lo hi m) (hm : m = 0) (w : World) :
    Calls Try.prog 46 #[.int .i64 lo, .int .i64 hi, .int .i64 m, .int .i64 k] w fun e w' => e = .returned (.agg #[.int .i64 lo, .int .i64 lo, .int .i64 1, .int .i64 0, .int .i64 k]) ∧ Below w.heap.size w w' := by
  have e := B.z hm
  subst hm e
  obtain ⟨n1, n2, n3⟩ := N
  clear B
  go_enter Try.func46, Try.ntmps46
  go_wp2_with (go_at_call 42; refine (mod_any _ _ ⟨by omega, by omega⟩ (by omega) (by omega) _).mono ?_; rintro e w1 ⟨rfl, rfl⟩)
  exact bodyPost_ret (v := .agg #[.int .i64 lo, .int .i64 lo, .int .i64 1, .int .i64 0, .int .i64 k]) (by simp [results, Try.results46, go_sem]) rfl ⟨by rfl, (by repeat (first | with_reducible exact Below.refl _ _ | with_reducible refine Below.setCell ?_ (by first | omega | (dsimp only; omega) | (simp; omega)) _ | with_reducible refine Below.alloc ?_ (by first | omega | (dsimp only; omega) | (simp; omega)) _ | with_reducible refine Below.drew ?_))⟩
set_option maxHeartbeats 400000 in
theorem by_one (lo hi m : Int) (k : Nat) (B : ByOk lo hi m) (N : Near lo hi m) (hm : 0 < m) (ht : (hi - lo) / m * m = 0) (w : World) :
    Calls Try.prog 46 #[.int .i64 lo, .int .i64 hi, .int .i64 m, .int .i64 k] w fun e w' => e = .returned (.agg #[.int .i64 lo, .int .i64 lo, .int .i64 1, .int .i64 0, .int .i64 k]) ∧ Below w.heap.size w w' := by
  obtain ⟨b1, b2, b3⟩ := B
  obtain ⟨n1, n2, n3⟩ := N
  have q : 0 ≤ (hi - lo) / m := Int.ediv_nonneg (by omega) (by omega)
  have z1 : 0 ≤ (hi - lo) / m * m := Int.mul_nonneg q (by omega)
  have z2 : (hi - lo) / m * m ≤ hi - lo := Int.ediv_mul_le _ (by omega)
  have q2 : (hi - lo) / m ≤ hi - lo := Int.ediv_le_self _ (by omega)
  clear b2 b3
  have hmz : (m == 0) = false := by simp; omega
  obtain ⟨q0, hq⟩ : ∃ q0, (hi - lo) / m = q0 := ⟨_, rfl⟩
  rw [hq] at q z1 z2 q2
  obtain ⟨z, hz⟩ : ∃ z, q0 * m = z := ⟨_, rfl⟩
  rw [hz] at z1 z2
  have z0 : z = 0 := by rw [hq, hz] at ht; exact ht
  subst z0
  clear ht
  go_enter Try.func46, Try.ntmps46
  go_wp2_with (go_at_call 42; refine (mod_any _ _ ⟨by omega, by omega⟩ (by omega) (by omega) _).mono ?_; rintro e w1 ⟨rfl, rfl⟩)
  exact bodyPost_ret (v := .agg #[.int .i64 lo, .int .i64 lo, .int .i64 1, .int .i64 0, .int .i64 k]) (by simp [results, Try.results46, go_sem]) rfl ⟨by rfl, (by repeat (first | with_reducible exact Below.refl _ _ | with_reducible refine Below.setCell ?_ (by first | omega | (dsimp only; omega) | (simp; omega)) _ | with_reducible refine Below.alloc ?_ (by first | omega | (dsimp only; omega) | (simp; omega)) _ | with_reducible refine Below.drew ?_))⟩
set_option maxHeartbeats 400000 in
theorem by_more (lo hi m : Int) (k : Nat) (B : ByOk lo hi m) (N : Near lo hi m) (hm : 0 < m) (ht : (hi - lo) / m * m ≠ 0) (w : World) :
    Calls Try.prog 46 #[.int .i64 lo, .int .i64 hi, .int .i64 m, .int .i64 k] w fun e w' => e = .returned (.agg #[.int .i64 lo, .int .i64 (lo + (hi - lo) / m * m), .int .i64 m, .int .i64 (lo % m), .int .i64 k]) ∧ Below w.heap.size w w' := by
  obtain ⟨b1, b2, b3⟩ := B
  have mz : m ≤ hi - lo := by
    rcases Int.lt_or_le (hi - lo) m with g | g
    · exact absurd (by rw [Int.ediv_eq_zero_of_lt (by omega) g]; simp) ht
    · exact g
  obtain ⟨n1, n2, n3⟩ := N
  have q : 0 ≤ (hi - lo) / m := Int.ediv_nonneg (by omega) (by omega)
  have z1 : 0 ≤ (hi - lo) / m * m := Int.mul_nonneg q (by omega)
  have z2 : (hi - lo) / m * m ≤ hi - lo := Int.ediv_mul_le _ (by omega)
  have q2 : (hi - lo) / m ≤ hi - lo := Int.ediv_le_self _ (by omega)
  clear b2 b3
  have hmz : (m == 0) = false := by simp; omega
  obtain ⟨q0, hq⟩ : ∃ q0, (hi - lo) / m = q0 := ⟨_, rfl⟩
  rw [hq] at q z1 z2 q2
  obtain ⟨z, hz⟩ : ∃ z, q0 * m = z := ⟨_, rfl⟩
  rw [hz] at z1 z2
  have z0 : 0 < z := by rw [hq, hz] at ht; omega
  clear ht
  have ez : (lo == lo + z) = false := by simp; omega
  go_enter Try.func46, Try.ntmps46
  go_wp2_with (go_at_call 42; refine (mod_any _ _ ⟨by omega, by omega⟩ (by omega) (by omega) _).mono ?_; rintro e w1 ⟨rfl, rfl⟩)
  exact bodyPost_ret (v := .agg #[.int .i64 lo, .int .i64 (lo + (hi - lo) / m * m), .int .i64 m, .int .i64 (lo % m), .int .i64 k]) (by simp [results, Try.results46, go_sem, hq, hz]) rfl ⟨by rfl, (by repeat (first | with_reducible exact Below.refl _ _ | with_reducible refine Below.setCell ?_ (by first | omega | (dsimp only; omega) | (simp; omega)) _ | with_reducible refine Below.alloc ?_ (by first | omega | (dsimp only; omega) | (simp; omega)) _ | with_reducible refine Below.drew ?_))⟩
theorem by_any (lo hi m : Int) (k : Nat) (B : ByOk lo hi m) (N : Near lo hi m) (w : World) :
    Calls Try.prog 46 #[.int .i64 lo, .int .i64 hi, .int .i64 m, .int .i64 k] w fun e w' => e = .returned (.agg #[.int .i64 (byA lo hi m k).lo, .int .i64 (byA lo hi m k).hi, .int .i64 (byA lo hi m k).m, .int .i64 (byA lo hi m k).r, .int .i64 (byA lo hi m k).k]) ∧ Below w.heap.size w w' := by
  by_cases hm : 0 < m
  · have et : topOf lo hi m = lo + (hi - lo) / m * m := if_pos hm
    by_cases ht : (hi - lo) / m * m = 0
    · have e : byA lo hi m k = ⟨lo, lo, 1, 0, k⟩ := if_pos (by rw [et]; omega)
      rw [e]; exact by_one lo hi m k B N hm ht w
    · have e : byA lo hi m k = ⟨lo, lo + (hi - lo) / m * m, m, lo % m, k⟩ := by
        unfold byA; rw [et]; exact if_neg (by omega)
      rw [e]; exact by_more lo hi m k B N hm ht w
  · have m0 : m = 0 := by have := B.m0; omega
    have e : byA lo hi m k = ⟨lo, lo, 1, 0, k⟩ := if_pos (by unfold topOf; rw [if_neg hm]; exact B.z m0)
    rw [e]; exact by_zero lo hi m k B N m0 w
end Go.Proofs.Ytnholabamjodhaa

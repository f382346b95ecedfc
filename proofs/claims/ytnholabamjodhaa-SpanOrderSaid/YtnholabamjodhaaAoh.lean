import Derived.Test.YtnholabamjodhaaAz
namespace Go.Proofs.Ytnholabamjodhaa
open Go.RowKit Sp
set_option linter.unusedVariables false
set_option linter.unusedSimpArgs false

/-! SpanOrder: what a set's three words say of another one. -/
theorem made_small (lo n m k : Int) : stp (madeA lo n m k) ≤ 1048576 := by
  have h := made_ok lo n m
  have hm := madeM_bd m
  unfold madeA
  rw [by_stp _ h.1]
  split <;> omega
theorem mul_small {x y : Int} (h1 : 0 ≤ x) (h2 : x ≤ 4294967295) (h3 : 0 ≤ y) (h4 : y ≤ 1048576) : x * y ≤ 4611686018427387904 := by
  have a := Int.mul_le_mul_of_nonneg_right h2 h3
  have b := Int.mul_le_mul_of_nonneg_left h4 (show (0 : Int) ≤ 4294967295 by omega)
  omega
theorem at_lo {a : Ab} : atA a 0 = a.lo := by unfold atA; simp
theorem at_hi {a : Ab} (A : Val a) : atA a (-1) = a.hi := by
  obtain ⟨c1, c2, c3⟩ := cnt_bd A
  have e : (-1 : Int) % cntA a = cntA a - 1 := by
    have h : (-1 : Int) = (cntA a - 1) + cntA a * (-1) := by omega
    rw [h, Int.add_mul_emod_self_left]
    exact Int.emod_eq_of_lt (by omega) (by omega)
  unfold atA
  rw [e, c3]; omega
theorem at_next {a b : Ab} (A : Val a) (B : Val b) (h0 : Mem b a.lo) (h1 : Mem b (atA a 1)) : stp b ∣ stp a := by
  obtain ⟨c1, c2, c3⟩ := cnt_bd A
  by_cases h : cntA a = 1
  · have e : a.lo = a.hi := by rw [h] at c3; simp at c3; omega
    have : stp a = 0 := by unfold stp; rw [if_pos e]
    rw [this]; exact Int.dvd_zero _
  · have e1 : (1 : Int) % cntA a = 1 := Int.emod_eq_of_lt (by omega) (by omega)
    have e2 : atA a 1 = a.lo + a.m := by unfold atA; rw [e1]; omega
    rw [e2] at h1
    have hs : stp a = a.m ∨ stp a = 0 := by unfold stp; split <;> simp
    rcases hs with hs | hs
    · rw [hs]
      have := Int.dvd_sub h1.2.2 h0.2.2
      rwa [show a.lo + a.m - b.lo - (a.lo - b.lo) = a.m by omega] at this
    · rw [hs]; exact Int.dvd_zero _
theorem order_is {a b : Ab} (A : Val a) (B : Val b) : leB a b = ((hasB b (atA a 0) (maskOf 255 a.k) && (hasB b (atA a 1) (maskOf 255 a.k) && hasB b (atA a (-1)) (maskOf 255 a.k))) && sbB a.k b.k) := by
  rw [Bool.eq_iff_iff]
  simp only [Bool.and_eq_true, leB_iff A B, hasB_iff B, sbB_iff]
  constructor
  · intro h
    have s := sb_trans (maskOf_sb 255 a.k) h.2
    exact ⟨⟨⟨h.1 _ (at_mem A 0), s⟩, ⟨h.1 _ (at_mem A 1), s⟩, ⟨h.1 _ (at_mem A (-1)), s⟩⟩, h.2⟩
  · rintro ⟨⟨⟨m0, _⟩, ⟨m1, _⟩, ⟨m2, _⟩⟩, s⟩
    rw [at_lo] at m0
    rw [at_hi A] at m2
    exact ⟨(le_iff A B).2 ⟨m0, m2, at_next A B m0 m1⟩, s⟩
end Go.Proofs.Ytnholabamjodhaa

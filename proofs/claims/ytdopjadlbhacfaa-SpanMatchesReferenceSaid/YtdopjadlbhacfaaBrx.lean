import Derived.Test.YtdopjadlbhacfaaBfw
import Derived.Test.YtdopjadlbhacfaaBmt
import Derived.Test.YtdopjadlbhacfaaBbo
namespace Go.Proofs.Ytdopjadlbhacfaa
open Go.RowKit Go.Instr Sp
set_option linter.unusedVariables false
set_option linter.unusedSimpArgs false

/-! The reference's Meet, and Refine on both sides. -/
theorem rmeet_any (a b : Ab) (A : Val a) (B : Val b) (is : Bool) (x : Ab) (M : MeetR a b is x) (w : World) :
    Calls Try.prog 21 #[.agg #[.int .i64 a.lo, .int .i64 a.hi, .int .i64 a.m, .int .i64 a.r, .int .i64 a.k], .agg #[.int .i64 b.lo, .int .i64 b.hi, .int .i64 b.m, .int .i64 b.r, .int .i64 b.k]] w fun e w' => e = .returned (.agg #[.int .i64 x.lo, .int .i64 x.hi, .int .i64 x.m, .int .i64 x.r, .int .i64 x.k, .bool is]) ∧ Below w.heap.size w w' := by
  have al := A.l; have ah := A.h; have ao := A.o; have bl := B.l; have bh := B.h; have bo := B.o
  have ms := m_le A
  have mt := m_le B
  obtain ⟨a1, a2⟩ := bnz2 (show a.m ≠ 0 by omega)
  obtain ⟨b1, b2⟩ := bnz2 (show b.m ≠ 0 by omega)
  have mk := bits_and8 A.k B.k
  have d1b := Int.ediv_le_self (a := a.hi - a.lo) a.m (by omega)
  have d2b := Int.ediv_le_self (a := b.hi - b.lo) b.m (by omega)
  have d1n := Int.ediv_nonneg (show 0 ≤ a.hi - a.lo by omega) (show 0 ≤ a.m by omega)
  have d2n := Int.ediv_nonneg (show 0 ≤ b.hi - b.lo by omega) (show 0 ≤ b.m by omega)
  have td1 : (a.hi - a.lo).tdiv a.m = (a.hi - a.lo) / a.m := Int.tdiv_eq_ediv_of_nonneg (by omega)
  have td2 : (b.hi - b.lo).tdiv b.m = (b.hi - b.lo) / b.m := Int.tdiv_eq_ediv_of_nonneg (by omega)
  have e2 : IntKind.i64.wrap ((a.hi - a.lo).tdiv a.m) = (a.hi - a.lo).tdiv a.m := by rw [td1]; exact IntWalk.i64_in _ (by omega)
  have e4 : IntKind.i64.wrap ((b.hi - b.lo).tdiv b.m) = (b.hi - b.lo).tdiv b.m := by rw [td2]; exact IntWalk.i64_in _ (by omega)
  by_cases c1 : (a.hi - a.lo).tdiv a.m < 64
  · obtain ⟨l, hp, hl, F⟩ := few_any a b A B (by rw [← td1]; exact c1)
    obtain ⟨e, e'⟩ := meet_unique M (few_r A B hp hl)
    subst e e'
    exact rmeet_1 a b _ _ a1 a2 (by omega) b1 b2 (by omega) _ _ _ mk (IntWalk.i64_in _ (by omega)) e2 c1 (hidA (F _)) w
  · by_cases c2 : (b.hi - b.lo).tdiv b.m < 64
    · obtain ⟨l, hp, hl, F⟩ := few_any b a B A (by rw [← td2]; exact c2)
      obtain ⟨e, e'⟩ := meet_unique M (meet_swap (few_r B A hp hl))
      subst e e'
      exact rmeet_2 a b _ _ a1 a2 (by omega) b1 b2 (by omega) _ _ _ mk (IntWalk.i64_in _ (by omega)) e2 _ _ (IntWalk.i64_in _ (by omega)) e4 c1 c2 (hidA (fun w => by have h := F (b.k &&& a.k) w; rw [Nat.and_comm a.k b.k]; exact h)) w
    · obtain ⟨i, y, N, C⟩ := rmeet_long a b A B c1 c2
      obtain ⟨e, e'⟩ := meet_unique M N
      subst e e'
      exact C w
theorem both_eq (a b : Ab) (A : Val a) (B : Val b) : ∃ (x y : Ab) (is : Bool), (∀ w, Calls Try.prog 63 #[.int .i64 4, .bool true, .agg #[.int .i64 a.lo, .int .i64 a.hi, .int .i64 a.m, .int .i64 a.r, .int .i64 a.k], .agg #[.int .i64 b.lo, .int .i64 b.hi, .int .i64 b.m, .int .i64 b.r, .int .i64 b.k]] w fun e w' => e = .returned (.tuple #[.agg #[.int .i64 x.lo, .int .i64 x.hi, .int .i64 x.m, .int .i64 x.r, .int .i64 x.k], .agg #[.int .i64 y.lo, .int .i64 y.hi, .int .i64 y.m, .int .i64 y.r, .int .i64 y.k], .bool is]) ∧ Below w.heap.size w w') ∧ ∀ w, Calls Try.prog 33 #[.int .i64 4, .bool true, .agg #[.int .i64 a.lo, .int .i64 a.hi, .int .i64 a.m, .int .i64 a.r, .int .i64 a.k], .agg #[.int .i64 b.lo, .int .i64 b.hi, .int .i64 b.m, .int .i64 b.r, .int .i64 b.k]] w fun e w' => e = .returned (.agg #[.int .i64 x.lo, .int .i64 x.hi, .int .i64 x.m, .int .i64 x.r, .int .i64 x.k, .int .i64 y.lo, .int .i64 y.hi, .int .i64 y.m, .int .i64 y.r, .int .i64 y.k, .bool is]) ∧ Below w.heap.size w w' := by
  obtain ⟨i, m, M, _⟩ := meet_ex a b A B
  have C := fun w => ssame_any a b A B i m M w
  have D := fun w => rmeet_any a b A B i m M w
  cases i with
  | true => exact ⟨⟨m.lo, m.hi, m.m, m.r, a.k⟩, ⟨m.lo, m.hi, m.m, m.r, b.k⟩, true, fun w => rf_cmp a b true _ _ _ _ _ _ _ _ _ _ 4 true (Or.inr (Or.inr (Or.inr (Or.inr (Or.inl ⟨rfl, rfl, hidA C⟩))))) w, fun w => rr_4t a b m (hidA D) w⟩
  | false => exact ⟨⟨0, 0, 0, 0, 0⟩, ⟨0, 0, 0, 0, 0⟩, false, fun w => rf_cmp a b false _ _ _ _ _ _ _ _ _ _ 4 true (Or.inr (Or.inr (Or.inr (Or.inr (Or.inl ⟨rfl, rfl, hidA C⟩))))) w, fun w => rr_4f a b m (hidA D) w⟩
theorem both_eqn (a b : Ab) (A : Val a) (B : Val b) : ∃ (x y : Ab) (is : Bool), (∀ w, Calls Try.prog 63 #[.int .i64 4, .bool false, .agg #[.int .i64 a.lo, .int .i64 a.hi, .int .i64 a.m, .int .i64 a.r, .int .i64 a.k], .agg #[.int .i64 b.lo, .int .i64 b.hi, .int .i64 b.m, .int .i64 b.r, .int .i64 b.k]] w fun e w' => e = .returned (.tuple #[.agg #[.int .i64 x.lo, .int .i64 x.hi, .int .i64 x.m, .int .i64 x.r, .int .i64 x.k], .agg #[.int .i64 y.lo, .int .i64 y.hi, .int .i64 y.m, .int .i64 y.r, .int .i64 y.k], .bool is]) ∧ Below w.heap.size w w') ∧ ∀ w, Calls Try.prog 33 #[.int .i64 4, .bool false, .agg #[.int .i64 a.lo, .int .i64 a.hi, .int .i64 a.m, .int .i64 a.r, .int .i64 a.k], .agg #[.int .i64 b.lo, .int .i64 b.hi, .int .i64 b.m, .int .i64 b.r, .int .i64 b.k]] w fun e w' => e = .returned (.agg #[.int .i64 x.lo, .int .i64 x.hi, .int .i64 x.m, .int .i64 x.r, .int .i64 x.k, .int .i64 y.lo, .int .i64 y.hi, .int .i64 y.m, .int .i64 y.r, .int .i64 y.k, .bool is]) ∧ Below w.heap.size w w' := by
  obtain ⟨i, j, p, q, P, Q, kq, C⟩ := sdifferent_any a b A B
  have D1 := fun w => apart_any a b A B w
  obtain ⟨e1, e2⟩ := part_unique (part_iff (fun v hv => ⟨fun h g => h ⟨g.1, g.2.1, g.2.2.imp Eq.symm Eq.symm⟩, fun h g => h ⟨g.1, g.2.1, g.2.2.imp Eq.symm Eq.symm⟩⟩) (ap_r A B)) P
  rw [e1, e2] at D1
  have Z : ∀ (h : (i && j) = false) (R : ∀ w, Calls Try.prog 33 #[.int .i64 4, .bool false, .agg #[.int .i64 a.lo, .int .i64 a.hi, .int .i64 a.m, .int .i64 a.r, .int .i64 a.k], .agg #[.int .i64 b.lo, .int .i64 b.hi, .int .i64 b.m, .int .i64 b.r, .int .i64 b.k]] w fun e w' => e = .returned (.agg #[.int .i64 0, .int .i64 0, .int .i64 0, .int .i64 0, .int .i64 0, .int .i64 0, .int .i64 0, .int .i64 0, .int .i64 0, .int .i64 0, .bool false]) ∧ Below w.heap.size w w'), ∃ (x y : Ab) (is : Bool), (∀ w, Calls Try.prog 63 #[.int .i64 4, .bool false, .agg #[.int .i64 a.lo, .int .i64 a.hi, .int .i64 a.m, .int .i64 a.r, .int .i64 a.k], .agg #[.int .i64 b.lo, .int .i64 b.hi, .int .i64 b.m, .int .i64 b.r, .int .i64 b.k]] w fun e w' => e = .returned (.tuple #[.agg #[.int .i64 x.lo, .int .i64 x.hi, .int .i64 x.m, .int .i64 x.r, .int .i64 x.k], .agg #[.int .i64 y.lo, .int .i64 y.hi, .int .i64 y.m, .int .i64 y.r, .int .i64 y.k], .bool is]) ∧ Below w.heap.size w w') ∧ ∀ w, Calls Try.prog 33 #[.int .i64 4, .bool false, .agg #[.int .i64 a.lo, .int .i64 a.hi, .int .i64 a.m, .int .i64 a.r, .int .i64 a.k], .agg #[.int .i64 b.lo, .int .i64 b.hi, .int .i64 b.m, .int .i64 b.r, .int .i64 b.k]] w fun e w' => e = .returned (.agg #[.int .i64 x.lo, .int .i64 x.hi, .int .i64 x.m, .int .i64 x.r, .int .i64 x.k, .int .i64 y.lo, .int .i64 y.hi, .int .i64 y.m, .int .i64 y.r, .int .i64 y.k, .bool is]) ∧ Below w.heap.size w w' := by
    intro h R
    rw [h] at C
    exact ⟨⟨0, 0, 0, 0, 0⟩, ⟨0, 0, 0, 0, 0⟩, false, fun w => rf_cmp a b false _ _ _ _ _ _ _ _ _ _ 4 false (Or.inr (Or.inr (Or.inr (Or.inr (Or.inr ⟨rfl, rfl, hidA C⟩))))) w, R⟩
  cases i with
  | false => exact Z rfl (fun w => rr_4nf a b p (hidA D1) w)
  | true =>
    have Vp := (P.some rfl).1
    have kp := (P.some rfl).2.2
    have D2 := fun w => apart_any b p B Vp w
    obtain ⟨e3, e4⟩ := part_unique (part_iff (fun v hv => ⟨fun h g => h ⟨g.1, g.2.1, g.2.2.imp Eq.symm Eq.symm⟩, fun h g => h ⟨g.1, g.2.1, g.2.2.imp Eq.symm Eq.symm⟩⟩) (ap_r B Vp)) (Q rfl)
    rw [e3, e4] at D2
    cases j with
    | false => exact Z rfl (fun w => rr_4ntf a b p q (hidA D1) (hidA D2) w)
    | true =>
      refine ⟨p, q, true, fun w => ?_, fun w => rr_4ntt a b p q (hidA D1) (hidA D2) w⟩
      rw [kp, (kq rfl).2]
      exact rf_cmp a b true _ _ _ _ _ _ _ _ _ _ 4 false (Or.inr (Or.inr (Or.inr (Or.inr (Or.inr ⟨rfl, rfl, hidA C⟩))))) w
theorem both_any (k : Int) (h : Bool) (a b : Ab) (A : Val a) (B : Val b) : ∃ (x y : Ab) (is : Bool), (∀ w, Calls Try.prog 63 #[.int .i64 k, .bool h, .agg #[.int .i64 a.lo, .int .i64 a.hi, .int .i64 a.m, .int .i64 a.r, .int .i64 a.k], .agg #[.int .i64 b.lo, .int .i64 b.hi, .int .i64 b.m, .int .i64 b.r, .int .i64 b.k]] w fun e w' => e = .returned (.tuple #[.agg #[.int .i64 x.lo, .int .i64 x.hi, .int .i64 x.m, .int .i64 x.r, .int .i64 x.k], .agg #[.int .i64 y.lo, .int .i64 y.hi, .int .i64 y.m, .int .i64 y.r, .int .i64 y.k], .bool is]) ∧ Below w.heap.size w w') ∧ ∀ w, Calls Try.prog 33 #[.int .i64 k, .bool h, .agg #[.int .i64 a.lo, .int .i64 a.hi, .int .i64 a.m, .int .i64 a.r, .int .i64 a.k], .agg #[.int .i64 b.lo, .int .i64 b.hi, .int .i64 b.m, .int .i64 b.r, .int .i64 b.k]] w fun e w' => e = .returned (.agg #[.int .i64 x.lo, .int .i64 x.hi, .int .i64 x.m, .int .i64 x.r, .int .i64 x.k, .int .i64 y.lo, .int .i64 y.hi, .int .i64 y.m, .int .i64 y.r, .int .i64 y.k, .bool is]) ∧ Below w.heap.size w w' := by
  by_cases k2 : k = 2
  · subst k2
    cases h
    · exact both_ltn a b A B
    · exact both_lt a b A B
  · by_cases k3 : k = 3
    · subst k3
      cases h
      · exact both_len a b A B
      · exact both_le a b A B
    · by_cases k4 : k = 4
      · subst k4
        cases h
        · exact both_eqn a b A B
        · exact both_eq a b A B
      · exact ⟨a, b, true, fun w => rf_no a b k h (by simpa using k2) (by simpa using k3) (by simpa using k4) w, fun w => rr_no a b k h (by simpa using k2) (by simpa using k3) (by simpa using k4) w⟩
end Go.Proofs.Ytdopjadlbhacfaa

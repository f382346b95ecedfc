import Derived.Test.YtdopjadlbhacfaaBrr
import Derived.Test.YtdopjadlbhacfaaBrw
import Derived.Test.YtdopjadlbhacfaaAp
namespace Go.Proofs.Ytdopjadlbhacfaa
open Go.RowKit Go.Instr Sp
set_option linter.unusedVariables false
set_option linter.unusedSimpArgs false

/-! span's comparisons and the reference's are the same. -/
theorem both_ord (a b : Ab) (A : Val a) (B : Val b) (d : Int) (hd : d = 0 ∨ d = 1) :
    (∃ (x y : Ab), x.k = a.k ∧ y.k = b.k ∧ (∀ w, Calls Try.prog 88 #[.agg #[.int .i64 a.lo, .int .i64 a.hi, .int .i64 a.m, .int .i64 a.r, .int .i64 a.k], .agg #[.int .i64 b.lo, .int .i64 b.hi, .int .i64 b.m, .int .i64 b.r, .int .i64 b.k], .int .i64 d] w fun e w' => e = .returned (.tuple #[.agg #[.int .i64 x.lo, .int .i64 x.hi, .int .i64 x.m, .int .i64 x.r, .int .i64 a.k], .agg #[.int .i64 y.lo, .int .i64 y.hi, .int .i64 y.m, .int .i64 y.r, .int .i64 b.k], .bool true]) ∧ Below w.heap.size w w') ∧ ∀ w, Calls Try.prog 64 #[.agg #[.int .i64 a.lo, .int .i64 a.hi, .int .i64 a.m, .int .i64 a.r, .int .i64 a.k], .agg #[.int .i64 b.lo, .int .i64 b.hi, .int .i64 b.m, .int .i64 b.r, .int .i64 b.k], .int .i64 d] w fun e w' => e = .returned (.agg #[.int .i64 x.lo, .int .i64 x.hi, .int .i64 x.m, .int .i64 x.r, .int .i64 x.k, .int .i64 y.lo, .int .i64 y.hi, .int .i64 y.m, .int .i64 y.r, .int .i64 y.k, .bool true]) ∧ Below w.heap.size w w') ∨
    (∃ (x y : Ab), (∀ w, Calls Try.prog 88 #[.agg #[.int .i64 a.lo, .int .i64 a.hi, .int .i64 a.m, .int .i64 a.r, .int .i64 a.k], .agg #[.int .i64 b.lo, .int .i64 b.hi, .int .i64 b.m, .int .i64 b.r, .int .i64 b.k], .int .i64 d] w fun e w' => e = .returned (.tuple #[.agg #[.int .i64 x.lo, .int .i64 x.hi, .int .i64 x.m, .int .i64 x.r, .int .i64 a.k], .agg #[.int .i64 y.lo, .int .i64 y.hi, .int .i64 y.m, .int .i64 y.r, .int .i64 b.k], .bool false]) ∧ Below w.heap.size w w') ∧ ∀ w, Calls Try.prog 64 #[.agg #[.int .i64 a.lo, .int .i64 a.hi, .int .i64 a.m, .int .i64 a.r, .int .i64 a.k], .agg #[.int .i64 b.lo, .int .i64 b.hi, .int .i64 b.m, .int .i64 b.r, .int .i64 b.k], .int .i64 d] w fun e w' => e = .returned (.agg #[.int .i64 0, .int .i64 0, .int .i64 0, .int .i64 0, .int .i64 0, .int .i64 0, .int .i64 0, .int .i64 0, .int .i64 0, .int .i64 0, .bool false]) ∧ Below w.heap.size w w') := by
  have al := A.l; have ah := A.h; have ao := A.o; have bl := B.l; have bh := B.h; have bo := B.o
  obtain ⟨i, j, x, y, P, Q, C⟩ := sordered_any a b A B d hd
  have D := fun w => less_any a b A B d hd w
  have P2 := part_iff (fun v hv => ⟨fun h => h.2, fun h => ⟨by have := hv.1; omega, h⟩⟩) (clip_r A (-2147483648) (b.hi - d)) (Q := fun v => v ≤ b.hi - d)
  have Q2 := part_iff (fun v hv => ⟨fun h => h.1, fun h => ⟨h, by have := hv.2.1; omega⟩⟩) (clip_r B (a.lo + d) 2147483647) (Q := fun v => a.lo + d ≤ v)
  obtain ⟨e1, e2⟩ := part_unique P2 P
  obtain ⟨e3, e4⟩ := part_unique Q2 Q
  rw [e1, e2, e3, e4] at D
  cases hi : (i && j) with
  | true =>
    rw [hi] at C D
    rw [Bool.and_eq_true] at hi
    exact Or.inl ⟨x, y, (P.some hi.1).2.2, (Q.some hi.2).2.2, C, D⟩
  | false =>
    rw [hi] at C D
    exact Or.inr ⟨x, y, C, D⟩
theorem both_lt (a b : Ab) (A : Val a) (B : Val b) : ∃ (x y : Ab) (is : Bool), (∀ w, Calls Try.prog 63 #[.int .i64 2, .bool true, .agg #[.int .i64 a.lo, .int .i64 a.hi, .int .i64 a.m, .int .i64 a.r, .int .i64 a.k], .agg #[.int .i64 b.lo, .int .i64 b.hi, .int .i64 b.m, .int .i64 b.r, .int .i64 b.k]] w fun e w' => e = .returned (.tuple #[.agg #[.int .i64 x.lo, .int .i64 x.hi, .int .i64 x.m, .int .i64 x.r, .int .i64 x.k], .agg #[.int .i64 y.lo, .int .i64 y.hi, .int .i64 y.m, .int .i64 y.r, .int .i64 y.k], .bool is]) ∧ Below w.heap.size w w') ∧ ∀ w, Calls Try.prog 33 #[.int .i64 2, .bool true, .agg #[.int .i64 a.lo, .int .i64 a.hi, .int .i64 a.m, .int .i64 a.r, .int .i64 a.k], .agg #[.int .i64 b.lo, .int .i64 b.hi, .int .i64 b.m, .int .i64 b.r, .int .i64 b.k]] w fun e w' => e = .returned (.agg #[.int .i64 x.lo, .int .i64 x.hi, .int .i64 x.m, .int .i64 x.r, .int .i64 x.k, .int .i64 y.lo, .int .i64 y.hi, .int .i64 y.m, .int .i64 y.r, .int .i64 y.k, .bool is]) ∧ Below w.heap.size w w' := by
  rcases both_ord a b A B 1 (by omega) with ⟨x, y, kx, ky, C, D⟩ | ⟨x, y, C, D⟩
  · refine ⟨x, y, true, fun w => ?_, fun w => rr_2 a b x y true (hidA D) w⟩
    rw [kx, ky]
    exact rf_cmp a b true _ _ _ _ _ _ _ _ _ _ 2 true (Or.inl ⟨rfl, rfl, hidA C⟩) w
  · exact ⟨⟨0, 0, 0, 0, 0⟩, ⟨0, 0, 0, 0, 0⟩, false, fun w => rf_cmp a b false _ _ _ _ _ _ _ _ _ _ 2 true (Or.inl ⟨rfl, rfl, hidA C⟩) w, fun w => rr_2 a b ⟨0, 0, 0, 0, 0⟩ ⟨0, 0, 0, 0, 0⟩ false (hidA D) w⟩
theorem both_ltn (a b : Ab) (A : Val a) (B : Val b) : ∃ (x y : Ab) (is : Bool), (∀ w, Calls Try.prog 63 #[.int .i64 2, .bool false, .agg #[.int .i64 a.lo, .int .i64 a.hi, .int .i64 a.m, .int .i64 a.r, .int .i64 a.k], .agg #[.int .i64 b.lo, .int .i64 b.hi, .int .i64 b.m, .int .i64 b.r, .int .i64 b.k]] w fun e w' => e = .returned (.tuple #[.agg #[.int .i64 x.lo, .int .i64 x.hi, .int .i64 x.m, .int .i64 x.r, .int .i64 x.k], .agg #[.int .i64 y.lo, .int .i64 y.hi, .int .i64 y.m, .int .i64 y.r, .int .i64 y.k], .bool is]) ∧ Below w.heap.size w w') ∧ ∀ w, Calls Try.prog 33 #[.int .i64 2, .bool false, .agg #[.int .i64 a.lo, .int .i64 a.hi, .int .i64 a.m, .int .i64 a.r, .int .i64 a.k], .agg #[.int .i64 b.lo, .int .i64 b.hi, .int .i64 b.m, .int .i64 b.r, .int .i64 b.k]] w fun e w' => e = .returned (.agg #[.int .i64 x.lo, .int .i64 x.hi, .int .i64 x.m, .int .i64 x.r, .int .i64 x.k, .int .i64 y.lo, .int .i64 y.hi, .int .i64 y.m, .int .i64 y.r, .int .i64 y.k, .bool is]) ∧ Below w.heap.size w w' := by
  rcases both_ord b a B A 0 (by omega) with ⟨x, y, kx, ky, C, D⟩ | ⟨x, y, C, D⟩
  · refine ⟨y, x, true, fun w => ?_, fun w => rr_2n a b x y true (hidA (fun w => rr_3 b a x y true (hidA D) w)) w⟩
    rw [kx, ky]
    exact rf_cmp a b true _ _ _ _ _ _ _ _ _ _ 2 false (Or.inr (Or.inl ⟨rfl, rfl, hidA C⟩)) w
  · exact ⟨⟨0, 0, 0, 0, 0⟩, ⟨0, 0, 0, 0, 0⟩, false, fun w => rf_cmp a b false _ _ _ _ _ _ _ _ _ _ 2 false (Or.inr (Or.inl ⟨rfl, rfl, hidA C⟩)) w, fun w => rr_2n a b ⟨0, 0, 0, 0, 0⟩ ⟨0, 0, 0, 0, 0⟩ false (hidA (fun w => rr_3 b a ⟨0, 0, 0, 0, 0⟩ ⟨0, 0, 0, 0, 0⟩ false (hidA D) w)) w⟩
theorem both_le (a b : Ab) (A : Val a) (B : Val b) : ∃ (x y : Ab) (is : Bool), (∀ w, Calls Try.prog 63 #[.int .i64 3, .bool true, .agg #[.int .i64 a.lo, .int .i64 a.hi, .int .i64 a.m, .int .i64 a.r, .int .i64 a.k], .agg #[.int .i64 b.lo, .int .i64 b.hi, .int .i64 b.m, .int .i64 b.r, .int .i64 b.k]] w fun e w' => e = .returned (.tuple #[.agg #[.int .i64 x.lo, .int .i64 x.hi, .int .i64 x.m, .int .i64 x.r, .int .i64 x.k], .agg #[.int .i64 y.lo, .int .i64 y.hi, .int .i64 y.m, .int .i64 y.r, .int .i64 y.k], .bool is]) ∧ Below w.heap.size w w') ∧ ∀ w, Calls Try.prog 33 #[.int .i64 3, .bool true, .agg #[.int .i64 a.lo, .int .i64 a.hi, .int .i64 a.m, .int .i64 a.r, .int .i64 a.k], .agg #[.int .i64 b.lo, .int .i64 b.hi, .int .i64 b.m, .int .i64 b.r, .int .i64 b.k]] w fun e w' => e = .returned (.agg #[.int .i64 x.lo, .int .i64 x.hi, .int .i64 x.m, .int .i64 x.r, .int .i64 x.k, .int .i64 y.lo, .int .i64 y.hi, .int .i64 y.m, .int .i64 y.r, .int .i64 y.k, .bool is]) ∧ Below w.heap.size w w' := by
  rcases both_ord a b A B 0 (by omega) with ⟨x, y, kx, ky, C, D⟩ | ⟨x, y, C, D⟩
  · refine ⟨x, y, true, fun w => ?_, fun w => rr_3 a b x y true (hidA D) w⟩
    rw [kx, ky]
    exact rf_cmp a b true _ _ _ _ _ _ _ _ _ _ 3 true (Or.inr (Or.inr (Or.inl ⟨rfl, rfl, hidA C⟩))) w
  · exact ⟨⟨0, 0, 0, 0, 0⟩, ⟨0, 0, 0, 0, 0⟩, false, fun w => rf_cmp a b false _ _ _ _ _ _ _ _ _ _ 3 true (Or.inr (Or.inr (Or.inl ⟨rfl, rfl, hidA C⟩))) w, fun w => rr_3 a b ⟨0, 0, 0, 0, 0⟩ ⟨0, 0, 0, 0, 0⟩ false (hidA D) w⟩
theorem both_len (a b : Ab) (A : Val a) (B : Val b) : ∃ (x y : Ab) (is : Bool), (∀ w, Calls Try.prog 63 #[.int .i64 3, .bool false, .agg #[.int .i64 a.lo, .int .i64 a.hi, .int .i64 a.m, .int .i64 a.r, .int .i64 a.k], .agg #[.int .i64 b.lo, .int .i64 b.hi, .int .i64 b.m, .int .i64 b.r, .int .i64 b.k]] w fun e w' => e = .returned (.tuple #[.agg #[.int .i64 x.lo, .int .i64 x.hi, .int .i64 x.m, .int .i64 x.r, .int .i64 x.k], .agg #[.int .i64 y.lo, .int .i64 y.hi, .int .i64 y.m, .int .i64 y.r, .int .i64 y.k], .bool is]) ∧ Below w.heap.size w w') ∧ ∀ w, Calls Try.prog 33 #[.int .i64 3, .bool false, .agg #[.int .i64 a.lo, .int .i64 a.hi, .int .i64 a.m, .int .i64 a.r, .int .i64 a.k], .agg #[.int .i64 b.lo, .int .i64 b.hi, .int .i64 b.m, .int .i64 b.r, .int .i64 b.k]] w fun e w' => e = .returned (.agg #[.int .i64 x.lo, .int .i64 x.hi, .int .i64 x.m, .int .i64 x.r, .int .i64 x.k, .int .i64 y.lo, .int .i64 y.hi, .int .i64 y.m, .int .i64 y.r, .int .i64 y.k, .bool is]) ∧ Below w.heap.size w w' := by
  rcases both_ord b a B A 1 (by omega) with ⟨x, y, kx, ky, C, D⟩ | ⟨x, y, C, D⟩
  · refine ⟨y, x, true, fun w => ?_, fun w => rr_3n a b x y true (hidA (fun w => rr_2 b a x y true (hidA D) w)) w⟩
    rw [kx, ky]
    exact rf_cmp a b true _ _ _ _ _ _ _ _ _ _ 3 false (Or.inr (Or.inr (Or.inr (Or.inl ⟨rfl, rfl, hidA C⟩)))) w
  · exact ⟨⟨0, 0, 0, 0, 0⟩, ⟨0, 0, 0, 0, 0⟩, false, fun w => rf_cmp a b false _ _ _ _ _ _ _ _ _ _ 3 false (Or.inr (Or.inr (Or.inr (Or.inl ⟨rfl, rfl, hidA C⟩)))) w, fun w => rr_3n a b ⟨0, 0, 0, 0, 0⟩ ⟨0, 0, 0, 0, 0⟩ false (hidA (fun w => rr_2 b a ⟨0, 0, 0, 0, 0⟩ ⟨0, 0, 0, 0, 0⟩ false (hidA D) w)) w⟩
end Go.Proofs.Ytdopjadlbhacfaa

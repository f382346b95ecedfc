import Derived.Test.YtnholabamjodhaaBwx
import Derived.Deep.Cut
import Derived.Deep.DeepCutAuto
import Derived.Test.YtnholabamjodhaaArq
namespace Go.Proofs.Ytnholabamjodhaa
section
open Go.RowKit Go.Instr Sp
set_option linter.unusedVariables false
set_option linter.unusedSimpArgs false

/-! span's comparisons: what they leave; the law's wrapper. -/
theorem bnz {x : Int} (h : x ≠ 0) : (x == 0) = false ∧ (x != 0) = true := ⟨by simpa using h, by simpa using h⟩
theorem biz {x : Int} (h : x = 0) : (x == 0) = true ∧ (x != 0) = false := ⟨by simpa using h, by simpa using h⟩
/-- A set without the one value of another, where it is an end. -/
theorem swithout_any (a y : Ab) (A : Val a) : ∃ (is : Bool) (x : Ab), PartR a (fun v => ¬ (stp y = 0 ∧ v = y.lo ∧ (y.lo = a.lo ∨ y.lo = a.hi))) is x ∧ (is = true → x.k = a.k) ∧ ∀ w, Calls Try.prog 98 #[.agg #[.int .i64 a.lo, .int .i64 a.hi, .int .i64 a.m, .int .i64 a.r, .int .i64 a.k], .agg #[.int .i64 y.lo, .int .i64 y.hi, .int .i64 y.m, .int .i64 y.r, .int .i64 y.k]] w fun e w' => e = .returned (.tuple #[.agg #[.int .i64 x.lo, .int .i64 x.hi, .int .i64 x.m, .int .i64 x.r, .int .i64 a.k], .bool is]) ∧ Below w.heap.size w w' := by
  have al := A.l; have ah := A.h; have ao := A.o
  have CS := hidA (fun w => sstep_any y w)
  by_cases h : stp y = 0
  · obtain ⟨f1, f2⟩ := biz h
    by_cases c : y.lo = a.lo
    · obtain ⟨is, x, P, CP⟩ := spart_any a A (a.lo + 1) a.hi (by omega) (by omega) (by omega) (by omega)
      refine ⟨is, x, part_iff (fun v hv => ?_) P, fun e => (P.some e).2.2, fun w => wo_2 a y _ _ _ _ _ _ _ CS f1 f2 (by simpa using c) (IntWalk.i64_in _ (by omega)) (hidA CP) w⟩
      have h1 := hv.1; have h2 := hv.2.1
      constructor
      · rintro ⟨v1, v2⟩ ⟨_, e, _⟩
        omega
      · intro hh
        refine ⟨?_, h2⟩
        rcases Int.lt_or_le a.lo v with g | g
        · omega
        · exact absurd ⟨h, by omega, Or.inl c⟩ hh
    · by_cases d : y.lo = a.hi
      · obtain ⟨is, x, P, CP⟩ := spart_any a A a.lo (a.hi - 1) (by omega) (by omega) (by omega) (by omega)
        refine ⟨is, x, part_iff (fun v hv => ?_) P, fun e => (P.some e).2.2, fun w => wo_3 a y _ _ _ _ _ _ _ CS f1 f2 (by simpa using c) (by simpa using d) (IntWalk.i64_in _ (by omega)) (hidA CP) w⟩
        have h1 := hv.1; have h2 := hv.2.1
        constructor
        · rintro ⟨v1, v2⟩ ⟨_, e, _⟩
          omega
        · intro hh
          refine ⟨h1, ?_⟩
          rcases Int.lt_or_le v a.hi with g | g
          · omega
          · exact absurd ⟨h, by omega, Or.inr d⟩ hh
      · refine ⟨true, a, part_all A (fun v _ ⟨_, _, e⟩ => e.elim c d), fun _ => rfl, fun w => wo_4 a y _ CS f1 f2 (by simpa using c) (by simpa using d) w⟩
  · obtain ⟨f1, f2⟩ := bnz h
    exact ⟨true, a, part_all A (fun v _ ⟨e, _⟩ => h e), fun _ => rfl, fun w => wo_1 a y _ CS f1 f2 w⟩
theorem sordered_any (a b : Ab) (A : Val a) (B : Val b) (d : Int) (hd : d = 0 ∨ d = 1) : ∃ (i j : Bool) (x y : Ab), PartR a (fun v => v ≤ b.hi - d) i x ∧ PartR b (fun v => a.lo + d ≤ v) j y ∧ ∀ w, Calls Try.prog 88 #[.agg #[.int .i64 a.lo, .int .i64 a.hi, .int .i64 a.m, .int .i64 a.r, .int .i64 a.k], .agg #[.int .i64 b.lo, .int .i64 b.hi, .int .i64 b.m, .int .i64 b.r, .int .i64 b.k], .int .i64 d] w fun e w' => e = .returned (.tuple #[.agg #[.int .i64 x.lo, .int .i64 x.hi, .int .i64 x.m, .int .i64 x.r, .int .i64 a.k], .agg #[.int .i64 y.lo, .int .i64 y.hi, .int .i64 y.m, .int .i64 y.r, .int .i64 b.k], .bool (i && j)]) ∧ Below w.heap.size w w' := by
  have al := A.l; have ah := A.h; have ao := A.o; have bl := B.l; have bh := B.h; have bo := B.o
  obtain ⟨i, x, P, CP⟩ := spart_any a A a.lo (b.hi - d) (by omega) (by omega) (by omega) (by omega)
  obtain ⟨j, y, Q, CQ⟩ := spart_any b B (a.lo + d) b.hi (by omega) (by omega) (by omega) (by omega)
  refine ⟨i, j, x, y, part_iff (fun v hv => ⟨fun h => h.2, fun h => ⟨hv.1, h⟩⟩) P, part_iff (fun v hv => ⟨fun h => h.1, fun h => ⟨h, hv.2.1⟩⟩) Q, fun w => ?_⟩
  have e1 : IntKind.i64.wrap (b.hi - d) = b.hi - d := IntWalk.i64_in _ (by omega)
  have e2 : IntKind.i64.wrap (a.lo + d) = a.lo + d := IntWalk.i64_in _ (by omega)
  exact ord_w a b i j _ _ _ _ _ _ _ _ d _ _ e1 e2 (hidA CP) (hidA CQ) w
theorem sdifferent_any (a b : Ab) (A : Val a) (B : Val b) : ∃ (i j : Bool) (x y : Ab), PartR a (fun v => ¬ (stp b = 0 ∧ v = b.lo ∧ (b.lo = a.lo ∨ b.lo = a.hi))) i x ∧ (i = true → PartR b (fun v => ¬ (stp x = 0 ∧ v = x.lo ∧ (x.lo = b.lo ∨ x.lo = b.hi))) j y) ∧ (j = true → Val y ∧ y.k = b.k) ∧ ∀ w, Calls Try.prog 90 #[.agg #[.int .i64 a.lo, .int .i64 a.hi, .int .i64 a.m, .int .i64 a.r, .int .i64 a.k], .agg #[.int .i64 b.lo, .int .i64 b.hi, .int .i64 b.m, .int .i64 b.r, .int .i64 b.k]] w fun e w' => e = .returned (.tuple #[.agg #[.int .i64 x.lo, .int .i64 x.hi, .int .i64 x.m, .int .i64 x.r, .int .i64 a.k], .agg #[.int .i64 y.lo, .int .i64 y.hi, .int .i64 y.m, .int .i64 y.r, .int .i64 b.k], .bool (i && j)]) ∧ Below w.heap.size w w' := by
  obtain ⟨i, x, P, _, CP⟩ := swithout_any a b A
  obtain ⟨j, y, Q, kq, CQ⟩ := swithout_any b { x with k := a.k } B
  refine ⟨i, j, x, y, P, fun _ => Q, fun e => ⟨(Q.some e).1, kq e⟩, fun w => ?_⟩
  exact dif_w a b i j _ _ _ _ _ _ _ _ (hidA CP) (hidA CQ) w
theorem ssame_any (a b : Ab) (A : Val a) (B : Val b) (is : Bool) (x : Ab) (M : MeetR a b is x) (w : World) : Calls Try.prog 89 #[.agg #[.int .i64 a.lo, .int .i64 a.hi, .int .i64 a.m, .int .i64 a.r, .int .i64 a.k], .agg #[.int .i64 b.lo, .int .i64 b.hi, .int .i64 b.m, .int .i64 b.r, .int .i64 b.k]] w fun e w' => e = .returned (.tuple #[.agg #[.int .i64 x.lo, .int .i64 x.hi, .int .i64 x.m, .int .i64 x.r, .int .i64 a.k], .agg #[.int .i64 x.lo, .int .i64 x.hi, .int .i64 x.m, .int .i64 x.r, .int .i64 b.k], .bool is]) ∧ Below w.heap.size w w' := by
  have C := hidA (fun w => smeet_any a b A B is x M w)
  exact same_w a b is _ _ _ _ _ C w
end

section
open Go.RowKit Go.Instr Sp
set_option linter.unusedVariables false
set_option linter.unusedSimpArgs false

/-! span's comparisons: what holds of the parts; the law's wrapper. -/
/-- What a comparison leaves of two sets. -/
structure RefR (k : Int) (h : Bool) (a b : Ab) (is : Bool) (x y : Ab) : Prop where
  some : is = true → Val x ∧ Val y ∧ x.k = a.k ∧ y.k = b.k ∧ (∀ v, Mem x v → Mem a v) ∧ (∀ v, Mem y v → Mem b v)
  all : ∀ v u, Mem a v → Mem b u → cmpB k v u = h → is = true ∧ Mem x v ∧ Mem y u
theorem part_yes {a x : Ab} {P : Int → Prop} {i : Bool} (M : PartR a P i x) {v : Int} (hv : Mem a v) (hp : P v) : i = true ∧ Mem x v := by
  cases i with
  | true => exact ⟨rfl, ((M.some rfl).2.1 v).2 ⟨hv, hp⟩⟩
  | false => exact absurd ⟨hv, hp⟩ ((M.none rfl).2 v)
theorem part_in {a x : Ab} {P : Int → Prop} {i : Bool} (M : PartR a P i x) (h : i = true) : Val x ∧ x.k = a.k ∧ ∀ v, Mem x v → Mem a v :=
  ⟨(M.some h).1, (M.some h).2.2, fun v hv => (((M.some h).2.1 v).1 hv).1⟩
theorem cmp_lt {v u : Int} {h : Bool} (e : cmpB 2 v u = h) : if h then v < u else u ≤ v := by
  subst h
  have : cmpB 2 v u = decide (v < u) := rfl
  rw [this]
  by_cases c : v < u
  · simp [c]
  · simp [c]; omega
theorem cmp_le {v u : Int} {h : Bool} (e : cmpB 3 v u = h) : if h then v ≤ u else u < v := by
  subst h
  have : cmpB 3 v u = decide (v ≤ u) := rfl
  rw [this]
  by_cases c : v ≤ u
  · simp [c]
  · simp [c]; omega
theorem cmp_eq {v u : Int} {h : Bool} (e : cmpB 4 v u = h) : if h then v = u else v ≠ u := by
  subst h
  have : cmpB 4 v u = (v == u) := rfl
  rw [this]
  by_cases c : v = u
  · simp [c]
  · simp [c]
theorem ref_lt (a b : Ab) (A : Val a) (B : Val b) : ∃ (is : Bool) (x y : Ab), RefR 2 true a b is x y ∧ ∀ w, Calls Try.prog 63 #[.int .i64 2, .bool true, .agg #[.int .i64 a.lo, .int .i64 a.hi, .int .i64 a.m, .int .i64 a.r, .int .i64 a.k], .agg #[.int .i64 b.lo, .int .i64 b.hi, .int .i64 b.m, .int .i64 b.r, .int .i64 b.k]] w fun e w' => e = .returned (.tuple #[.agg #[.int .i64 x.lo, .int .i64 x.hi, .int .i64 x.m, .int .i64 x.r, .int .i64 x.k], .agg #[.int .i64 y.lo, .int .i64 y.hi, .int .i64 y.m, .int .i64 y.r, .int .i64 y.k], .bool is]) ∧ Below w.heap.size w w' := by
  obtain ⟨i, j, p, q, P, Q, C⟩ := sordered_any a b A B 1 (by omega)
  have key : ∀ v u, Mem a v → Mem b u → cmpB 2 v u = true → (i = true ∧ Mem p v) ∧ (j = true ∧ Mem q u) := by
    intro v u hv hu hc
    have c := cmp_lt hc
    simp at c
    have h1 := hv.1; have h2 := hv.2.1; have h3 := hu.1; have h4 := hu.2.1
    exact ⟨part_yes P hv (by show _ ≤ _; omega), part_yes Q hu (by show _ ≤ _; omega)⟩
  cases hi : (i && j) with
  | true =>
    rw [hi] at C
    rw [Bool.and_eq_true] at hi
    have S1 := part_in P hi.1
    have S2 := part_in Q hi.2
    refine ⟨true, p, q, ⟨fun _ => ⟨S1.1, S2.1, S1.2.1, S2.2.1, S1.2.2, S2.2.2⟩, fun v u hv hu hc => ?_⟩, fun w => ?_⟩
    · have K := key v u hv hu hc
      exact ⟨rfl, K.1.2, K.2.2⟩
    · rw [S1.2.1, S2.2.1]
      exact rf_cmp a b true _ _ _ _ _ _ _ _ _ _ 2 true (Or.inl ⟨rfl, rfl, hidA C⟩) w
  | false =>
    rw [hi] at C
    refine ⟨false, ⟨0, 0, 0, 0, 0⟩, ⟨0, 0, 0, 0, 0⟩, ⟨fun e => (by cases e), fun v u hv hu hc => ?_⟩, fun w => ?_⟩
    · have K := key v u hv hu hc
      rw [K.1.1, K.2.1] at hi
      cases hi
    · exact rf_cmp a b false _ _ _ _ _ _ _ _ _ _ 2 true (Or.inl ⟨rfl, rfl, hidA C⟩) w
theorem ref_ltn (a b : Ab) (A : Val a) (B : Val b) : ∃ (is : Bool) (x y : Ab), RefR 2 false a b is x y ∧ ∀ w, Calls Try.prog 63 #[.int .i64 2, .bool false, .agg #[.int .i64 a.lo, .int .i64 a.hi, .int .i64 a.m, .int .i64 a.r, .int .i64 a.k], .agg #[.int .i64 b.lo, .int .i64 b.hi, .int .i64 b.m, .int .i64 b.r, .int .i64 b.k]] w fun e w' => e = .returned (.tuple #[.agg #[.int .i64 x.lo, .int .i64 x.hi, .int .i64 x.m, .int .i64 x.r, .int .i64 x.k], .agg #[.int .i64 y.lo, .int .i64 y.hi, .int .i64 y.m, .int .i64 y.r, .int .i64 y.k], .bool is]) ∧ Below w.heap.size w w' := by
  obtain ⟨i, j, p, q, P, Q, C⟩ := sordered_any b a B A 0 (by omega)
  have key : ∀ v u, Mem a v → Mem b u → cmpB 2 v u = false → (i = true ∧ Mem p u) ∧ (j = true ∧ Mem q v) := by
    intro v u hv hu hc
    have c := cmp_lt hc
    simp at c
    have h1 := hv.1; have h2 := hv.2.1; have h3 := hu.1; have h4 := hu.2.1
    exact ⟨part_yes P hu (by show _ ≤ _; omega), part_yes Q hv (by show _ ≤ _; omega)⟩
  cases hi : (i && j) with
  | true =>
    rw [hi] at C
    rw [Bool.and_eq_true] at hi
    have S1 := part_in P hi.1
    have S2 := part_in Q hi.2
    refine ⟨true, q, p, ⟨fun _ => ⟨S2.1, S1.1, S2.2.1, S1.2.1, S2.2.2, S1.2.2⟩, fun v u hv hu hc => ?_⟩, fun w => ?_⟩
    · have K := key v u hv hu hc
      exact ⟨rfl, K.2.2, K.1.2⟩
    · rw [S1.2.1, S2.2.1]
      exact rf_cmp a b true _ _ _ _ _ _ _ _ _ _ 2 false (Or.inr (Or.inl ⟨rfl, rfl, hidA C⟩)) w
  | false =>
    rw [hi] at C
    refine ⟨false, ⟨0, 0, 0, 0, 0⟩, ⟨0, 0, 0, 0, 0⟩, ⟨fun e => (by cases e), fun v u hv hu hc => ?_⟩, fun w => ?_⟩
    · have K := key v u hv hu hc
      rw [K.1.1, K.2.1] at hi
      cases hi
    · exact rf_cmp a b false _ _ _ _ _ _ _ _ _ _ 2 false (Or.inr (Or.inl ⟨rfl, rfl, hidA C⟩)) w
theorem ref_le (a b : Ab) (A : Val a) (B : Val b) : ∃ (is : Bool) (x y : Ab), RefR 3 true a b is x y ∧ ∀ w, Calls Try.prog 63 #[.int .i64 3, .bool true, .agg #[.int .i64 a.lo, .int .i64 a.hi, .int .i64 a.m, .int .i64 a.r, .int .i64 a.k], .agg #[.int .i64 b.lo, .int .i64 b.hi, .int .i64 b.m, .int .i64 b.r, .int .i64 b.k]] w fun e w' => e = .returned (.tuple #[.agg #[.int .i64 x.lo, .int .i64 x.hi, .int .i64 x.m, .int .i64 x.r, .int .i64 x.k], .agg #[.int .i64 y.lo, .int .i64 y.hi, .int .i64 y.m, .int .i64 y.r, .int .i64 y.k], .bool is]) ∧ Below w.heap.size w w' := by
  obtain ⟨i, j, p, q, P, Q, C⟩ := sordered_any a b A B 0 (by omega)
  have key : ∀ v u, Mem a v → Mem b u → cmpB 3 v u = true → (i = true ∧ Mem p v) ∧ (j = true ∧ Mem q u) := by
    intro v u hv hu hc
    have c := cmp_le hc
    simp at c
    have h1 := hv.1; have h2 := hv.2.1; have h3 := hu.1; have h4 := hu.2.1
    exact ⟨part_yes P hv (by show _ ≤ _; omega), part_yes Q hu (by show _ ≤ _; omega)⟩
  cases hi : (i && j) with
  | true =>
    rw [hi] at C
    rw [Bool.and_eq_true] at hi
    have S1 := part_in P hi.1
    have S2 := part_in Q hi.2
    refine ⟨true, p, q, ⟨fun _ => ⟨S1.1, S2.1, S1.2.1, S2.2.1, S1.2.2, S2.2.2⟩, fun v u hv hu hc => ?_⟩, fun w => ?_⟩
    · have K := key v u hv hu hc
      exact ⟨rfl, K.1.2, K.2.2⟩
    · rw [S1.2.1, S2.2.1]
      exact rf_cmp a b true _ _ _ _ _ _ _ _ _ _ 3 true (Or.inr (Or.inr (Or.inl ⟨rfl, rfl, hidA C⟩))) w
  | false =>
    rw [hi] at C
    refine ⟨false, ⟨0, 0, 0, 0, 0⟩, ⟨0, 0, 0, 0, 0⟩, ⟨fun e => (by cases e), fun v u hv hu hc => ?_⟩, fun w => ?_⟩
    · have K := key v u hv hu hc
      rw [K.1.1, K.2.1] at hi
      cases hi
    · exact rf_cmp a b false _ _ _ _ _ _ _ _ _ _ 3 true (Or.inr (Or.inr (Or.inl ⟨rfl, rfl, hidA C⟩))) w
theorem ref_len (a b : Ab) (A : Val a) (B : Val b) : ∃ (is : Bool) (x y : Ab), RefR 3 false a b is x y ∧ ∀ w, Calls Try.prog 63 #[.int .i64 3, .bool false, .agg #[.int .i64 a.lo, .int .i64 a.hi, .int .i64 a.m, .int .i64 a.r, .int .i64 a.k], .agg #[.int .i64 b.lo, .int .i64 b.hi, .int .i64 b.m, .int .i64 b.r, .int .i64 b.k]] w fun e w' => e = .returned (.tuple #[.agg #[.int .i64 x.lo, .int .i64 x.hi, .int .i64 x.m, .int .i64 x.r, .int .i64 x.k], .agg #[.int .i64 y.lo, .int .i64 y.hi, .int .i64 y.m, .int .i64 y.r, .int .i64 y.k], .bool is]) ∧ Below w.heap.size w w' := by
  obtain ⟨i, j, p, q, P, Q, C⟩ := sordered_any b a B A 1 (by omega)
  have key : ∀ v u, Mem a v → Mem b u → cmpB 3 v u = false → (i = true ∧ Mem p u) ∧ (j = true ∧ Mem q v) := by
    intro v u hv hu hc
    have c := cmp_le hc
    simp at c
    have h1 := hv.1; have h2 := hv.2.1; have h3 := hu.1; have h4 := hu.2.1
    exact ⟨part_yes P hu (by show _ ≤ _; omega), part_yes Q hv (by show _ ≤ _; omega)⟩
  cases hi : (i && j) with
  | true =>
    rw [hi] at C
    rw [Bool.and_eq_true] at hi
    have S1 := part_in P hi.1
    have S2 := part_in Q hi.2
    refine ⟨true, q, p, ⟨fun _ => ⟨S2.1, S1.1, S2.2.1, S1.2.1, S2.2.2, S1.2.2⟩, fun v u hv hu hc => ?_⟩, fun w => ?_⟩
    · have K := key v u hv hu hc
      exact ⟨rfl, K.2.2, K.1.2⟩
    · rw [S1.2.1, S2.2.1]
      exact rf_cmp a b true _ _ _ _ _ _ _ _ _ _ 3 false (Or.inr (Or.inr (Or.inr (Or.inl ⟨rfl, rfl, hidA C⟩)))) w
  | false =>
    rw [hi] at C
    refine ⟨false, ⟨0, 0, 0, 0, 0⟩, ⟨0, 0, 0, 0, 0⟩, ⟨fun e => (by cases e), fun v u hv hu hc => ?_⟩, fun w => ?_⟩
    · have K := key v u hv hu hc
      rw [K.1.1, K.2.1] at hi
      cases hi
    · exact rf_cmp a b false _ _ _ _ _ _ _ _ _ _ 3 false (Or.inr (Or.inr (Or.inr (Or.inl ⟨rfl, rfl, hidA C⟩)))) w
theorem ref_eq (a b : Ab) (A : Val a) (B : Val b) : ∃ (is : Bool) (x y : Ab), RefR 4 true a b is x y ∧ ∀ w, Calls Try.prog 63 #[.int .i64 4, .bool true, .agg #[.int .i64 a.lo, .int .i64 a.hi, .int .i64 a.m, .int .i64 a.r, .int .i64 a.k], .agg #[.int .i64 b.lo, .int .i64 b.hi, .int .i64 b.m, .int .i64 b.r, .int .i64 b.k]] w fun e w' => e = .returned (.tuple #[.agg #[.int .i64 x.lo, .int .i64 x.hi, .int .i64 x.m, .int .i64 x.r, .int .i64 x.k], .agg #[.int .i64 y.lo, .int .i64 y.hi, .int .i64 y.m, .int .i64 y.r, .int .i64 y.k], .bool is]) ∧ Below w.heap.size w w' := by
  obtain ⟨i, m, M, _⟩ := meet_ex a b A B
  have C := fun w => ssame_any a b A B i m M w
  cases i with
  | true =>
    obtain ⟨V, hm, hk⟩ := M.some rfl
    refine ⟨true, { m with k := a.k }, { m with k := b.k }, ⟨fun _ => ⟨with_val V A.k, with_val V B.k, rfl, rfl, fun v hv => ((hm v).1 hv).1, fun v hv => ((hm v).1 hv).2⟩, fun v u hv hu hc => ?_⟩, fun w => rf_cmp a b true _ _ _ _ _ _ _ _ _ _ 4 true (Or.inr (Or.inr (Or.inr (Or.inr (Or.inl ⟨rfl, rfl, hidA C⟩))))) w⟩
    have c := cmp_eq hc
    simp at c
    subst c
    exact ⟨rfl, (hm v).2 ⟨hv, hu⟩, (hm v).2 ⟨hv, hu⟩⟩
  | false =>
    obtain ⟨e, hN⟩ := M.none rfl
    refine ⟨false, ⟨0, 0, 0, 0, 0⟩, ⟨0, 0, 0, 0, 0⟩, ⟨fun e => (by cases e), fun v u hv hu hc => ?_⟩, fun w => rf_cmp a b false _ _ _ _ _ _ _ _ _ _ 4 true (Or.inr (Or.inr (Or.inr (Or.inr (Or.inl ⟨rfl, rfl, hidA C⟩))))) w⟩
    have c := cmp_eq hc
    simp at c
    subst c
    exact absurd ⟨hv, hu⟩ (hN v)
theorem ref_eqn (a b : Ab) (A : Val a) (B : Val b) : ∃ (is : Bool) (x y : Ab), RefR 4 false a b is x y ∧ ∀ w, Calls Try.prog 63 #[.int .i64 4, .bool false, .agg #[.int .i64 a.lo, .int .i64 a.hi, .int .i64 a.m, .int .i64 a.r, .int .i64 a.k], .agg #[.int .i64 b.lo, .int .i64 b.hi, .int .i64 b.m, .int .i64 b.r, .int .i64 b.k]] w fun e w' => e = .returned (.tuple #[.agg #[.int .i64 x.lo, .int .i64 x.hi, .int .i64 x.m, .int .i64 x.r, .int .i64 x.k], .agg #[.int .i64 y.lo, .int .i64 y.hi, .int .i64 y.m, .int .i64 y.r, .int .i64 y.k], .bool is]) ∧ Below w.heap.size w w' := by
  obtain ⟨i, j, p, q, P, Q, kq, C⟩ := sdifferent_any a b A B
  have key : ∀ v u, Mem a v → Mem b u → cmpB 4 v u = false → (i = true ∧ Mem p v) ∧ (j = true ∧ Mem q u) := by
    intro v u hv hu hc
    have c := cmp_eq hc
    simp at c
    have K1 := part_yes P hv (by
      rintro ⟨h1, h2, _⟩
      have e := (val_stp B).2.2.1 h1
      have h3 := hu.1; have h4 := hu.2.1
      omega)
    have QQ := Q K1.1
    refine ⟨K1, part_yes QQ hu ?_⟩
    rintro ⟨h1, h2, _⟩
    have e := (val_stp (P.some K1.1).1).2.2.1 h1
    have h3 := K1.2.1; have h4 := K1.2.2.1
    omega
  cases hi : (i && j) with
  | true =>
    rw [hi] at C
    rw [Bool.and_eq_true] at hi
    have S1 := part_in P hi.1
    have S2 := part_in (Q hi.1) hi.2
    refine ⟨true, p, q, ⟨fun _ => ⟨S1.1, S2.1, S1.2.1, S2.2.1, S1.2.2, S2.2.2⟩, fun v u hv hu hc => ?_⟩, fun w => ?_⟩
    · have K := key v u hv hu hc
      exact ⟨rfl, K.1.2, K.2.2⟩
    · rw [S1.2.1, S2.2.1]
      exact rf_cmp a b true _ _ _ _ _ _ _ _ _ _ 4 false (Or.inr (Or.inr (Or.inr (Or.inr (Or.inr (⟨rfl, rfl, hidA C⟩)))))) w
  | false =>
    rw [hi] at C
    refine ⟨false, ⟨0, 0, 0, 0, 0⟩, ⟨0, 0, 0, 0, 0⟩, ⟨fun e => (by cases e), fun v u hv hu hc => ?_⟩, fun w => ?_⟩
    · have K := key v u hv hu hc
      rw [K.1.1, K.2.1] at hi
      cases hi
    · exact rf_cmp a b false _ _ _ _ _ _ _ _ _ _ 4 false (Or.inr (Or.inr (Or.inr (Or.inr (Or.inr (⟨rfl, rfl, hidA C⟩)))))) w
theorem srefine_any (k : Int) (h : Bool) (a b : Ab) (A : Val a) (B : Val b) (k1 : 2 ≤ k) (k2 : k ≤ 4) : ∃ (is : Bool) (x y : Ab), RefR k h a b is x y ∧ ∀ w, Calls Try.prog 63 #[.int .i64 k, .bool h, .agg #[.int .i64 a.lo, .int .i64 a.hi, .int .i64 a.m, .int .i64 a.r, .int .i64 a.k], .agg #[.int .i64 b.lo, .int .i64 b.hi, .int .i64 b.m, .int .i64 b.r, .int .i64 b.k]] w fun e w' => e = .returned (.tuple #[.agg #[.int .i64 x.lo, .int .i64 x.hi, .int .i64 x.m, .int .i64 x.r, .int .i64 x.k], .agg #[.int .i64 y.lo, .int .i64 y.hi, .int .i64 y.m, .int .i64 y.r, .int .i64 y.k], .bool is]) ∧ Below w.heap.size w w' := by
  have hd : k = 2 ∨ k = 3 ∨ k = 4 := by omega
  rcases hd with rfl | rfl | rfl <;> cases h
  · exact ref_ltn a b A B
  · exact ref_lt a b A B
  · exact ref_len a b A B
  · exact ref_le a b A B
  · exact ref_eqn a b A B
  · exact ref_eq a b A B
set_option maxRecDepth 100000 in
set_option maxHeartbeats 4000000 in
theorem lrefine_walk (k : Int) (h : Bool) (a b x y : Ab) (is : Bool) (C1 : Hid (∀ w, Calls Try.prog 63 #[.int .i64 k, .bool h, .agg #[.int .i64 a.lo, .int .i64 a.hi, .int .i64 a.m, .int .i64 a.r, .int .i64 a.k], .agg #[.int .i64 b.lo, .int .i64 b.hi, .int .i64 b.m, .int .i64 b.r, .int .i64 b.k]] w fun e w' => e = .returned (.tuple #[.agg #[.int .i64 x.lo, .int .i64 x.hi, .int .i64 x.m, .int .i64 x.r, .int .i64 x.k], .agg #[.int .i64 y.lo, .int .i64 y.hi, .int .i64 y.m, .int .i64 y.r, .int .i64 y.k], .bool is]) ∧ Below w.heap.size w w')) (w : World) :
    Calls Try.prog 32 #[.int .i64 k, .bool h, .agg #[.int .i64 a.lo, .int .i64 a.hi, .int .i64 a.m, .int .i64 a.r, .int .i64 a.k, .int .i64 b.lo, .int .i64 b.hi, .int .i64 b.m, .int .i64 b.r, .int .i64 b.k]] w fun e w' => e = .returned (.agg #[.int .i64 x.lo, .int .i64 x.hi, .int .i64 x.m, .int .i64 x.r, .int .i64 x.k, .int .i64 y.lo, .int .i64 y.hi, .int .i64 y.m, .int .i64 y.r, .int .i64 y.k, .bool is]) ∧ Below w.heap.size w w' := by
  obtain ⟨w0, hw0⟩ : ∃ w0, ((w.alloc (.cells #[.int .i64 a.lo, .int .i64 a.hi, .int .i64 a.m, .int .i64 a.r, .int .i64 a.k, .int .i64 b.lo, .int .i64 b.hi, .int .i64 b.m, .int .i64 b.r, .int .i64 b.k] 44)).alloc (.cells #[.int .i64 0, .int .i64 0, .int .i64 0, .int .i64 0, .int .i64 0, .int .i64 0, .int .i64 0, .int .i64 0, .int .i64 0, .int .i64 0, .bool false] 47)) = w0 := ⟨_, rfl⟩
  have B0 : Hid (Below w.heap.size w w0) := hidA (by rw [← hw0]; exact (((Below.refl _ _).alloc (by first | exact Nat.le_refl _ | (simp; done) | (simp; omega) | omega) _).alloc (by first | exact Nat.le_refl _ | (simp; done) | (simp; omega) | omega) _))
  have hsz : w.heap.size + 1 < w0.heap.size := by rw [← hw0]; simp
  have PK : Hid (∀ W, Below w0.heap.size w0 W → W.cell? ⟨w.heap.size, 0, none⟩ = some (.int .i64 a.lo) ∧ W.cell? ⟨w.heap.size, 1, none⟩ = some (.int .i64 a.hi) ∧ W.cell? ⟨w.heap.size, 2, none⟩ = some (.int .i64 a.m) ∧ W.cell? ⟨w.heap.size, 3, none⟩ = some (.int .i64 a.r) ∧ W.cell? ⟨w.heap.size, 4, none⟩ = some (.int .i64 a.k) ∧ W.cell? ⟨w.heap.size, 5, none⟩ = some (.int .i64 b.lo) ∧ W.cell? ⟨w.heap.size, 6, none⟩ = some (.int .i64 b.hi) ∧ W.cell? ⟨w.heap.size, 7, none⟩ = some (.int .i64 b.m) ∧ W.cell? ⟨w.heap.size, 8, none⟩ = some (.int .i64 b.r) ∧ W.cell? ⟨w.heap.size, 9, none⟩ = some (.int .i64 b.k) ∧ W.cell? ⟨w.heap.size + 1, 0, none⟩ = some (.int .i64 0) ∧ W.cell? ⟨w.heap.size + 1, 1, none⟩ = some (.int .i64 0) ∧ W.cell? ⟨w.heap.size + 1, 2, none⟩ = some (.int .i64 0) ∧ W.cell? ⟨w.heap.size + 1, 3, none⟩ = some (.int .i64 0) ∧ W.cell? ⟨w.heap.size + 1, 4, none⟩ = some (.int .i64 0) ∧ W.cell? ⟨w.heap.size + 1, 5, none⟩ = some (.int .i64 0) ∧ W.cell? ⟨w.heap.size + 1, 6, none⟩ = some (.int .i64 0) ∧ W.cell? ⟨w.heap.size + 1, 7, none⟩ = some (.int .i64 0) ∧ W.cell? ⟨w.heap.size + 1, 8, none⟩ = some (.int .i64 0) ∧ W.cell? ⟨w.heap.size + 1, 9, none⟩ = some (.int .i64 0) ∧ W.cell? ⟨w.heap.size + 1, 10, none⟩ = some (.bool false) ∧ w.heap.size < W.heap.size ∧ w.heap.size + 1 < W.heap.size ∧ (∀ i, W.frozen? ⟨w.heap.size + 1, i, none⟩ = false)) := hidA (fun W hW => ⟨cellA hW (by rw [← hw0]; simp [go_sem]), cellA hW (by rw [← hw0]; simp [go_sem]), cellA hW (by rw [← hw0]; simp [go_sem]), cellA hW (by rw [← hw0]; simp [go_sem]), cellA hW (by rw [← hw0]; simp [go_sem]), cellA hW (by rw [← hw0]; simp [go_sem]), cellA hW (by rw [← hw0]; simp [go_sem]), cellA hW (by rw [← hw0]; simp [go_sem]), cellA hW (by rw [← hw0]; simp [go_sem]), cellA hW (by rw [← hw0]; simp [go_sem]), cellA hW (by rw [← hw0]; simp [go_sem]), cellA hW (by rw [← hw0]; simp [go_sem]), cellA hW (by rw [← hw0]; simp [go_sem]), cellA hW (by rw [← hw0]; simp [go_sem]), cellA hW (by rw [← hw0]; simp [go_sem]), cellA hW (by rw [← hw0]; simp [go_sem]), cellA hW (by rw [← hw0]; simp [go_sem]), cellA hW (by rw [← hw0]; simp [go_sem]), cellA hW (by rw [← hw0]; simp [go_sem]), cellA hW (by rw [← hw0]; simp [go_sem]), cellA hW (by rw [← hw0]; simp [go_sem]), (by have h0 := hW.size; have h1 := hsz; omega), (by have h0 := hW.size; have h1 := hsz; omega), (fun i => (hW.frozen (p := ⟨w.heap.size + 1, i, none⟩) (show w.heap.size + 1 < w0.heap.size by have h1 := hsz; omega)).trans (by rw [← hw0]; simp [go_sem]))⟩)
  have Hw := hidA hw0; clear hw0
  go_enter Try.func32, Try.ntmps32
  go_wp2_with fail
  rw [Hw.out]
  clear Hw
  have HS : Hid (Below w0.heap.size w0 w0) := hidA (Below.refl _ _)
  obtain ⟨c0, c1, c2, c3, c4, c5, c6, c7, c8, c9, c10, c11, c12, c13, c14, c15, c16, c17, c18, c19, c20, z0, z1, fr1⟩ := PK.out _ HS.out
  go_wp2_with ((go_at_call 63; (with_reducible refine (C1.out _).mono ?_); rintro e w1 ⟨rfl, hb⟩; have hsE := HS.out; have leE := HS.out.size; have hs1 : Below w0.heap.size w0 w1 := stepA (by repeat (first | with_reducible assumption | with_reducible exact Below.refl _ _ | with_reducible refine Below.setCell ?_ (by first | omega | (dsimp only; omega) | (simp; done) | (simp; omega)) _ | with_reducible refine Below.alloc ?_ (by first | omega | (dsimp only; omega) | (simp; done) | (simp; omega)) _ | with_reducible refine Below.drew ?_)) hb; clear hb hsE leE; have HS' := hidA hs1; clear HS hs1; clear c0 c1 c2 c3 c4 c5 c6 c7 c8 c9 c10 c11 c12 c13 c14 c15 c16 c17 c18 c19 c20 z0 z1 fr1; have HS := HS'; clear HS'; obtain ⟨c0, c1, c2, c3, c4, c5, c6, c7, c8, c9, c10, c11, c12, c13, c14, c15, c16, c17, c18, c19, c20, z0, z1, fr1⟩ := PK.out _ HS.out))
  have za : w.heap.size + 1 < w1.heap.size + 1 := by omega
  have zb : w.heap.size + 1 < w1.heap.size + 1 + 1 := by omega
  exact bodyPost_ret (v := .agg #[.int .i64 x.lo, .int .i64 x.hi, .int .i64 x.m, .int .i64 x.r, .int .i64 x.k, .int .i64 y.lo, .int .i64 y.hi, .int .i64 y.m, .int .i64 y.r, .int .i64 y.k, .bool is]) (by simp [results, Try.results32, go_sem, c10, c11, c12, c13, c14, c15, c16, c17, c18, c19, c20, z1, fr1, za, zb]) rfl ⟨by rfl, (by repeat (first | with_reducible exact Below.refl _ _ | with_reducible exact HS.out | with_reducible exact B0.out | with_reducible refine Below.setCell ?_ (by first | omega | (dsimp only; omega) | (simp; done) | (simp; omega)) _ | with_reducible refine Below.alloc ?_ (by first | omega | (dsimp only; omega) | (simp; done) | (simp; omega)) _ | with_reducible refine Below.drew ?_ | with_reducible refine drewnA ?_ _ | with_reducible refine Below.trans ?_ (HS.out.mono (by first | omega | (dsimp only; omega) | (simp; done) | (simp; omega))) | with_reducible refine Below.trans ?_ (B0.out.mono (by first | omega | (dsimp only; omega) | (simp; done) | (simp; omega)))))⟩
end
end Go.Proofs.Ytnholabamjodhaa

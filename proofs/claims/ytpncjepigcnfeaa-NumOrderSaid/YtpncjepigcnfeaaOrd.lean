/-
  The law NumOrder of package num holds: the smaller and the greater of two values are one of them, in this order; they are commutative and associative, and absorb each other; conditions compare in the same way.
  No condition: every input that the row speaks of.
-/
import Derived.Test.YtpncjepigcnfeaaPl
namespace Go.Proofs.Ytpncjepigcnfeaa
open Go.ChangeShapes Go.WideShapes Go.ChangeAt Go.RowKit

theorem opF9 (a b : Int) : opF 9 a b = wrap32 (min (wrap32 a) (wrap32 b)) := rfl
theorem opF10 (a b : Int) : opF 10 a b = wrap32 (max (wrap32 a) (wrap32 b)) := rfl
theorem opF9_in (a b : Int) (ha : -2147483648 ≤ a ∧ a ≤ 2147483647) (hb : -2147483648 ≤ b ∧ b ≤ 2147483647) : opF 9 a b = min a b := by
  rw [opF9, w32 ha, w32 hb]; exact w32 (by omega)
theorem opF10_in (a b : Int) (ha : -2147483648 ≤ a ∧ a ≤ 2147483647) (hb : -2147483648 ≤ b ∧ b ≤ 2147483647) : opF 10 a b = max a b := by
  rw [opF10, w32 ha, w32 hb]; exact w32 (by omega)

/-- The two numbers as expressions, in memory. -/
def pairEx (a b : Int) : List Ex := [.mk 1 0 a [], .mk 1 0 b []]
theorem pair_in (u : World) (a b : Int) : exsIn (u.alloc (.cells #[.int .i64 1, .int .i64 0, .int .i64 a, .slice none 0 0, .int .i64 1, .int .i64 0, .int .i64 b, .slice none 0 0] 24)) (pairEx a b) (some ⟨u.heap.size, 0, none⟩) 0 := by
  rw [pairEx, exsIn, exsIn, exsIn]
  exact ⟨⟨_, 0, _, _, _, _, rfl, by simp [go_sem], by simp [go_sem], by simp [go_sem], by simp [go_sem], num_in _ _⟩, ⟨_, 0, _, _, _, _, rfl, by simp [go_sem], by simp [go_sem], by simp [go_sem], by simp [go_sem], num_in _ _⟩, trivial⟩

theorem cmp_in {w : World} {n : Nat} (op a b : Int) (h : exsIn w (pairEx a b) (some ⟨n, 0, none⟩) 0) :
    cdIn w (.mk op (pairEx a b) []) (.agg #[.int .i64 op, .slice (some ⟨n, 0, none⟩) 2 2, .slice none 0 0]) := by
  rw [cdIn]
  exact ⟨_, none, 2, 0, rfl, Nat.le_refl _, by omega, h, Nat.le_refl _, by omega, by rw [cdsIn]; trivial⟩

theorem pair_evals (a b : Int) (ha : wrap32 a = a) (hb : wrap32 b = b) : (evalsE [] [] (pairEx a b)).getD 0 0 = a ∧ (evalsE [] [] (pairEx a b)).getD 1 0 = b := by
  simp [pairEx, evalsE, evalE, ha, hb]
theorem cmp_le (a b : Int) (ha : wrap32 a = a) (hb : wrap32 b = b) : holdsC [] [] (.mk 3 (pairEx a b) []) = decide (a ≤ b) := by
  obtain ⟨h1, h2⟩ := pair_evals a b ha hb
  rw [holdsC, if_neg (by omega), if_neg (by omega), if_pos rfl, h1, h2]
theorem cmp_lt (a b : Int) (ha : wrap32 a = a) (hb : wrap32 b = b) : holdsC [] [] (.mk 2 (pairEx a b) []) = decide (a < b) := by
  obtain ⟨h1, h2⟩ := pair_evals a b ha hb
  rw [holdsC, if_neg (by omega), if_pos rfl, h1, h2]
theorem cmp_eq (a b : Int) (ha : wrap32 a = a) (hb : wrap32 b = b) : holdsC [] [] (.mk 4 (pairEx a b) []) = (a == b) := by
  obtain ⟨h1, h2⟩ := pair_evals a b ha hb
  rw [holdsC, if_neg (by omega), if_neg (by omega), if_neg (by omega), if_pos rfl, h1, h2]

set_option maxRecDepth 100000 in
set_option maxHeartbeats 2000000 in
theorem order_lt (a b c : Int) (a1 : -2147483648 ≤ a) (a2 : a ≤ 2147483647) (b1 : -2147483648 ≤ b) (b2 : b ≤ 2147483647) (c1 : -2147483648 ≤ c) (c2 : c ≤ 2147483647) (hlt : a < b) (w : World) :
    Calls Try.prog 6 #[.int .i32 a, .int .i32 b, .int .i32 c] w fun e w' => e = .returned (.bool true) ∧ Below w.heap.size w w' := by
  have e1 : opF 9 a b = a := by rw [opF9_in _ _ ⟨a1, a2⟩ ⟨b1, b2⟩]; omega
  have e2 : opF 10 a b = b := by rw [opF10_in _ _ ⟨a1, a2⟩ ⟨b1, b2⟩]; omega
  obtain ⟨y, hy⟩ : ∃ y, min b c = y := ⟨_, rfl⟩
  obtain ⟨x, hx⟩ : ∃ x, min a c = x := ⟨_, rfl⟩
  have e3 : opF 9 a c = x := by rw [opF9_in _ _ ⟨a1, a2⟩ ⟨c1, c2⟩]; omega
  have e4 : opF 9 b c = y := by rw [opF9_in _ _ ⟨b1, b2⟩ ⟨c1, c2⟩]; omega
  have e5 : opF 9 a y = x := by rw [opF9_in _ _ ⟨a1, a2⟩ (by omega)]; omega
  have e6 : opF 10 a a = a := by rw [opF10_in _ _ ⟨a1, a2⟩ ⟨a1, a2⟩]; omega
  have e7 : opF 9 a b = a := by rw [opF9_in _ _ ⟨a1, a2⟩ ⟨b1, b2⟩]; omega
  have e8 : opF 9 b a = a := by rw [opF9_in _ _ ⟨b1, b2⟩ ⟨a1, a2⟩]; omega
  have c1 : ∀ W, Calls Try.prog 13 #[.int .i64 9, .int .i64 a, .int .i64 b] W fun e w' => e = .returned (.int .i64 a) ∧ Below W.heap.size W w' := fun W => by
    have h := op_any 9 a b W
    rwa [e1] at h
  have C1 := hid c1; clear c1
  have c2 : ∀ W, Calls Try.prog 13 #[.int .i64 10, .int .i64 a, .int .i64 b] W fun e w' => e = .returned (.int .i64 b) ∧ Below W.heap.size W w' := fun W => by
    have h := op_any 10 a b W
    rwa [e2] at h
  have C2 := hid c2; clear c2
  have c3 : ∀ W, Calls Try.prog 13 #[.int .i64 9, .int .i64 a, .int .i64 c] W fun e w' => e = .returned (.int .i64 x) ∧ Below W.heap.size W w' := fun W => by
    have h := op_any 9 a c W
    rwa [e3] at h
  have C3 := hid c3; clear c3
  have c4 : ∀ W, Calls Try.prog 13 #[.int .i64 9, .int .i64 b, .int .i64 c] W fun e w' => e = .returned (.int .i64 y) ∧ Below W.heap.size W w' := fun W => by
    have h := op_any 9 b c W
    rwa [e4] at h
  have C4 := hid c4; clear c4
  have c5 : ∀ W, Calls Try.prog 13 #[.int .i64 9, .int .i64 a, .int .i64 y] W fun e w' => e = .returned (.int .i64 x) ∧ Below W.heap.size W w' := fun W => by
    have h := op_any 9 a y W
    rwa [e5] at h
  have C5 := hid c5; clear c5
  have c6 : ∀ W, Calls Try.prog 13 #[.int .i64 10, .int .i64 a, .int .i64 a] W fun e w' => e = .returned (.int .i64 a) ∧ Below W.heap.size W w' := fun W => by
    have h := op_any 10 a a W
    rwa [e6] at h
  have C6 := hid c6; clear c6
  have c7 : ∀ W, Calls Try.prog 13 #[.int .i64 9, .int .i64 a, .int .i64 b] W fun e w' => e = .returned (.int .i64 a) ∧ Below W.heap.size W w' := fun W => by
    have h := op_any 9 a b W
    rwa [e7] at h
  have C7 := hid c7; clear c7
  have c8 : ∀ W, Calls Try.prog 13 #[.int .i64 9, .int .i64 b, .int .i64 a] W fun e w' => e = .returned (.int .i64 a) ∧ Below W.heap.size W w' := fun W => by
    have h := op_any 9 b a W
    rwa [e8] at h
  have C8 := hid c8; clear c8
  have wa := w32 ⟨a1, a2⟩
  have wb : wrap32 b = b := w32 ⟨b1, b2⟩
  have l1 : holdsC [] [] (.mk 3 (pairEx a b) []) = true := by rw [cmp_le a b wa wb]; simp; omega
  have l2 : holdsC [] [] (.mk 2 (pairEx a b) []) = true := by rw [cmp_lt a b wa wb]; simp; omega
  have l3 : holdsC [] [] (.mk 4 (pairEx a b) []) = false := by rw [cmp_eq a b wa wb]; simp; omega
  have L1 := hid l1; clear l1
  have L2 := hid l2; clear l2
  have L3 := hid l3; clear l3
  clear e1 e2 e3 e4 e5 e6 e7 e8 hx hy wa wb
  have hab : (a == b) = false := by simp; omega
  have hba : (b == a) = false := by simp; omega
  have hab' : (a != b) = true := by simp; omega
  have hba' : (b != a) = true := by simp; omega
  have hsum : b + a = a + b := Int.add_comm ..
  go_enter Try.func6, Try.ntmps6
  go_wp2_with fail
  refine (examples_any _).mono ?_
  rintro e u1 ⟨rfl, hb⟩
  have B1 := hid hb; clear hb
  go_wp2_with fail
  refine (C1.out _).mono ?_
  rintro e u2 ⟨rfl, hb⟩
  have B2 := hid (below_step B1.out hb); clear hb
  go_wp2_with fail
  refine (C2.out _).mono ?_
  rintro e u3 ⟨rfl, hb⟩
  have B3 := hid (below_step B2.out hb); clear hb
  go_wp2_with fail
  refine (C3.out _).mono ?_
  rintro e u4 ⟨rfl, hb⟩
  have B4 := hid (below_step B3.out hb); clear hb
  go_wp2_with fail
  refine (C4.out _).mono ?_
  rintro e u5 ⟨rfl, hb⟩
  have B5 := hid (below_step B4.out hb); clear hb
  go_wp2_with fail
  refine (C5.out _).mono ?_
  rintro e u6 ⟨rfl, hb⟩
  have B6 := hid (below_step B5.out hb); clear hb
  go_wp2_with fail
  refine (C6.out _).mono ?_
  rintro e u7 ⟨rfl, hb⟩
  have B7 := hid (below_step B6.out hb); clear hb
  go_wp2_with fail
  refine (C7.out _).mono ?_
  rintro e u8 ⟨rfl, hb⟩
  have B8 := hid (below_step B7.out hb); clear hb
  go_wp2_with fail
  refine (C8.out _).mono ?_
  rintro e u9 ⟨rfl, hb⟩
  have B9 := hid (below_step B8.out hb); clear hb
  go_wp2_with fail
  refine (num_any a _).mono ?_
  rintro e u10 ⟨rfl, hb⟩
  have B10 := hid (below_step B9.out hb); clear hb
  go_wp2_with fail
  refine (num_any b _).mono ?_
  rintro e u11 ⟨rfl, hb⟩
  have B11 := hid (below_step B10.out hb); clear hb
  have hp := pair_in u11 a b
  have HP := hid hp; clear hp
  have BA := hid (B11.out.alloc B11.out.size (.cells #[.int .i64 1, .int .i64 0, .int .i64 a, .slice none 0 0, .int .i64 1, .int .i64 0, .int .i64 b, .slice none 0 0] 24))
  go_wp2_with fail
  refine (holds_any [] [] (.mk 3 (pairEx a b) []) _ _ _ _ (cmp_in 3 a b HP.out) (nil_ints _) (nil_ints _)).mono ?_
  rw [L1.out]
  rintro e v1 ⟨rfl, hb⟩
  have D1 := hid hb
  have E1 := hid (below_step BA.out hb); clear hb
  go_wp2_with fail
  refine (holds_any [] [] (.mk 2 (pairEx a b) []) _ _ _ _ (cmp_in 2 a b (exsIn_below D1.out _ _ _ HP.out)) (nil_ints _) (nil_ints _)).mono ?_
  rw [L2.out]
  rintro e v2 ⟨rfl, hb⟩
  have D2 := hid (below_step D1.out hb)
  have E2 := hid (below_step E1.out hb); clear hb
  go_wp2_with fail
  refine (holds_any [] [] (.mk 4 (pairEx a b) []) _ _ _ _ (cmp_in 4 a b (exsIn_below D2.out _ _ _ HP.out)) (nil_ints _) (nil_ints _)).mono ?_
  rw [L3.out]
  rintro e v3 ⟨rfl, hb⟩
  have E3 := hid (below_step E2.out hb); clear hb
  go_wp2
  go_ret
  exact ⟨by simp, E3.out⟩

set_option maxRecDepth 100000 in
set_option maxHeartbeats 2000000 in
theorem order_gt (a b c : Int) (a1 : -2147483648 ≤ a) (a2 : a ≤ 2147483647) (b1 : -2147483648 ≤ b) (b2 : b ≤ 2147483647) (c1 : -2147483648 ≤ c) (c2 : c ≤ 2147483647) (hlt : b < a) (w : World) :
    Calls Try.prog 6 #[.int .i32 a, .int .i32 b, .int .i32 c] w fun e w' => e = .returned (.bool true) ∧ Below w.heap.size w w' := by
  have e1 : opF 9 a b = b := by rw [opF9_in _ _ ⟨a1, a2⟩ ⟨b1, b2⟩]; omega
  have e2 : opF 10 a b = a := by rw [opF10_in _ _ ⟨a1, a2⟩ ⟨b1, b2⟩]; omega
  obtain ⟨y, hy⟩ : ∃ y, min b c = y := ⟨_, rfl⟩
  obtain ⟨x, hx⟩ : ∃ x, min b c = x := ⟨_, rfl⟩
  have e3 : opF 9 b c = x := by rw [opF9_in _ _ ⟨b1, b2⟩ ⟨c1, c2⟩]; omega
  have e4 : opF 9 b c = y := by rw [opF9_in _ _ ⟨b1, b2⟩ ⟨c1, c2⟩]; omega
  have e5 : opF 9 a y = x := by rw [opF9_in _ _ ⟨a1, a2⟩ (by omega)]; omega
  have e6 : opF 10 a b = a := by rw [opF10_in _ _ ⟨a1, a2⟩ ⟨b1, b2⟩]; omega
  have e7 : opF 9 a a = a := by rw [opF9_in _ _ ⟨a1, a2⟩ ⟨a1, a2⟩]; omega
  have e8 : opF 9 b a = b := by rw [opF9_in _ _ ⟨b1, b2⟩ ⟨a1, a2⟩]; omega
  have c1 : ∀ W, Calls Try.prog 13 #[.int .i64 9, .int .i64 a, .int .i64 b] W fun e w' => e = .returned (.int .i64 b) ∧ Below W.heap.size W w' := fun W => by
    have h := op_any 9 a b W
    rwa [e1] at h
  have C1 := hid c1; clear c1
  have c2 : ∀ W, Calls Try.prog 13 #[.int .i64 10, .int .i64 a, .int .i64 b] W fun e w' => e = .returned (.int .i64 a) ∧ Below W.heap.size W w' := fun W => by
    have h := op_any 10 a b W
    rwa [e2] at h
  have C2 := hid c2; clear c2
  have c3 : ∀ W, Calls Try.prog 13 #[.int .i64 9, .int .i64 b, .int .i64 c] W fun e w' => e = .returned (.int .i64 x) ∧ Below W.heap.size W w' := fun W => by
    have h := op_any 9 b c W
    rwa [e3] at h
  have C3 := hid c3; clear c3
  have c4 : ∀ W, Calls Try.prog 13 #[.int .i64 9, .int .i64 b, .int .i64 c] W fun e w' => e = .returned (.int .i64 y) ∧ Below W.heap.size W w' := fun W => by
    have h := op_any 9 b c W
    rwa [e4] at h
  have C4 := hid c4; clear c4
  have c5 : ∀ W, Calls Try.prog 13 #[.int .i64 9, .int .i64 a, .int .i64 y] W fun e w' => e = .returned (.int .i64 x) ∧ Below W.heap.size W w' := fun W => by
    have h := op_any 9 a y W
    rwa [e5] at h
  have C5 := hid c5; clear c5
  have c6 : ∀ W, Calls Try.prog 13 #[.int .i64 10, .int .i64 a, .int .i64 b] W fun e w' => e = .returned (.int .i64 a) ∧ Below W.heap.size W w' := fun W => by
    have h := op_any 10 a b W
    rwa [e6] at h
  have C6 := hid c6; clear c6
  have c7 : ∀ W, Calls Try.prog 13 #[.int .i64 9, .int .i64 a, .int .i64 a] W fun e w' => e = .returned (.int .i64 a) ∧ Below W.heap.size W w' := fun W => by
    have h := op_any 9 a a W
    rwa [e7] at h
  have C7 := hid c7; clear c7
  have c8 : ∀ W, Calls Try.prog 13 #[.int .i64 9, .int .i64 b, .int .i64 a] W fun e w' => e = .returned (.int .i64 b) ∧ Below W.heap.size W w' := fun W => by
    have h := op_any 9 b a W
    rwa [e8] at h
  have C8 := hid c8; clear c8
  have wa := w32 ⟨a1, a2⟩
  have wb : wrap32 b = b := w32 ⟨b1, b2⟩
  have l1 : holdsC [] [] (.mk 3 (pairEx a b) []) = false := by rw [cmp_le a b wa wb]; simp; omega
  have l2 : holdsC [] [] (.mk 2 (pairEx a b) []) = false := by rw [cmp_lt a b wa wb]; simp; omega
  have l3 : holdsC [] [] (.mk 4 (pairEx a b) []) = false := by rw [cmp_eq a b wa wb]; simp; omega
  have L1 := hid l1; clear l1
  have L2 := hid l2; clear l2
  have L3 := hid l3; clear l3
  clear e1 e2 e3 e4 e5 e6 e7 e8 hx hy wa wb
  have hab : (a == b) = false := by simp; omega
  have hba : (b == a) = false := by simp; omega
  have hab' : (a != b) = true := by simp; omega
  have hba' : (b != a) = true := by simp; omega
  have hsum : b + a = a + b := Int.add_comm ..
  go_enter Try.func6, Try.ntmps6
  go_wp2_with fail
  refine (examples_any _).mono ?_
  rintro e u1 ⟨rfl, hb⟩
  have B1 := hid hb; clear hb
  go_wp2_with fail
  refine (C1.out _).mono ?_
  rintro e u2 ⟨rfl, hb⟩
  have B2 := hid (below_step B1.out hb); clear hb
  go_wp2_with fail
  refine (C2.out _).mono ?_
  rintro e u3 ⟨rfl, hb⟩
  have B3 := hid (below_step B2.out hb); clear hb
  go_wp2_with fail
  refine (C3.out _).mono ?_
  rintro e u4 ⟨rfl, hb⟩
  have B4 := hid (below_step B3.out hb); clear hb
  go_wp2_with fail
  refine (C4.out _).mono ?_
  rintro e u5 ⟨rfl, hb⟩
  have B5 := hid (below_step B4.out hb); clear hb
  go_wp2_with fail
  refine (C5.out _).mono ?_
  rintro e u6 ⟨rfl, hb⟩
  have B6 := hid (below_step B5.out hb); clear hb
  go_wp2_with fail
  refine (C6.out _).mono ?_
  rintro e u7 ⟨rfl, hb⟩
  have B7 := hid (below_step B6.out hb); clear hb
  go_wp2_with fail
  refine (C7.out _).mono ?_
  rintro e u8 ⟨rfl, hb⟩
  have B8 := hid (below_step B7.out hb); clear hb
  go_wp2_with fail
  refine (C8.out _).mono ?_
  rintro e u9 ⟨rfl, hb⟩
  have B9 := hid (below_step B8.out hb); clear hb
  go_wp2_with fail
  refine (num_any a _).mono ?_
  rintro e u10 ⟨rfl, hb⟩
  have B10 := hid (below_step B9.out hb); clear hb
  go_wp2_with fail
  refine (num_any b _).mono ?_
  rintro e u11 ⟨rfl, hb⟩
  have B11 := hid (below_step B10.out hb); clear hb
  have hp := pair_in u11 a b
  have HP := hid hp; clear hp
  have BA := hid (B11.out.alloc B11.out.size (.cells #[.int .i64 1, .int .i64 0, .int .i64 a, .slice none 0 0, .int .i64 1, .int .i64 0, .int .i64 b, .slice none 0 0] 24))
  go_wp2_with fail
  refine (holds_any [] [] (.mk 3 (pairEx a b) []) _ _ _ _ (cmp_in 3 a b HP.out) (nil_ints _) (nil_ints _)).mono ?_
  rw [L1.out]
  rintro e v1 ⟨rfl, hb⟩
  have D1 := hid hb
  have E1 := hid (below_step BA.out hb); clear hb
  go_wp2_with fail
  refine (holds_any [] [] (.mk 2 (pairEx a b) []) _ _ _ _ (cmp_in 2 a b (exsIn_below D1.out _ _ _ HP.out)) (nil_ints _) (nil_ints _)).mono ?_
  rw [L2.out]
  rintro e v2 ⟨rfl, hb⟩
  have D2 := hid (below_step D1.out hb)
  have E2 := hid (below_step E1.out hb); clear hb
  go_wp2_with fail
  refine (holds_any [] [] (.mk 4 (pairEx a b) []) _ _ _ _ (cmp_in 4 a b (exsIn_below D2.out _ _ _ HP.out)) (nil_ints _) (nil_ints _)).mono ?_
  rw [L3.out]
  rintro e v3 ⟨rfl, hb⟩
  have E3 := hid (below_step E2.out hb); clear hb
  go_wp2
  go_ret
  exact ⟨by simp, E3.out⟩

set_option maxRecDepth 100000 in
set_option maxHeartbeats 2000000 in
theorem order_eq (a c : Int) (a1 : -2147483648 ≤ a) (a2 : a ≤ 2147483647) (c1 : -2147483648 ≤ c) (c2 : c ≤ 2147483647) (w : World) :
    Calls Try.prog 6 #[.int .i32 a, .int .i32 a, .int .i32 c] w fun e w' => e = .returned (.bool true) ∧ Below w.heap.size w w' := by
  have b1 := a1
  have b2 := a2
  have e1 : opF 9 a a = a := by rw [opF9_in _ _ ⟨a1, a2⟩ ⟨b1, b2⟩]; omega
  have e2 : opF 10 a a = a := by rw [opF10_in _ _ ⟨a1, a2⟩ ⟨b1, b2⟩]; omega
  obtain ⟨y, hy⟩ : ∃ y, min a c = y := ⟨_, rfl⟩
  obtain ⟨x, hx⟩ : ∃ x, min a c = x := ⟨_, rfl⟩
  have e3 : opF 9 a c = x := by rw [opF9_in _ _ ⟨a1, a2⟩ ⟨c1, c2⟩]; omega
  have e4 : opF 9 a c = y := by rw [opF9_in _ _ ⟨b1, b2⟩ ⟨c1, c2⟩]; omega
  have e5 : opF 9 a y = x := by rw [opF9_in _ _ ⟨a1, a2⟩ (by omega)]; omega
  have e6 : opF 10 a a = a := by rw [opF10_in _ _ ⟨a1, a2⟩ ⟨a1, a2⟩]; omega
  have e7 : opF 9 a a = a := by rw [opF9_in _ _ ⟨a1, a2⟩ ⟨a1, a2⟩]; omega
  have e8 : opF 9 a a = a := by rw [opF9_in _ _ ⟨b1, b2⟩ ⟨a1, a2⟩]; omega
  have c1 : ∀ W, Calls Try.prog 13 #[.int .i64 9, .int .i64 a, .int .i64 a] W fun e w' => e = .returned (.int .i64 a) ∧ Below W.heap.size W w' := fun W => by
    have h := op_any 9 a a W
    rwa [e1] at h
  have C1 := hid c1; clear c1
  have c2 : ∀ W, Calls Try.prog 13 #[.int .i64 10, .int .i64 a, .int .i64 a] W fun e w' => e = .returned (.int .i64 a) ∧ Below W.heap.size W w' := fun W => by
    have h := op_any 10 a a W
    rwa [e2] at h
  have C2 := hid c2; clear c2
  have c3 : ∀ W, Calls Try.prog 13 #[.int .i64 9, .int .i64 a, .int .i64 c] W fun e w' => e = .returned (.int .i64 x) ∧ Below W.heap.size W w' := fun W => by
    have h := op_any 9 a c W
    rwa [e3] at h
  have C3 := hid c3; clear c3
  have c4 : ∀ W, Calls Try.prog 13 #[.int .i64 9, .int .i64 a, .int .i64 c] W fun e w' => e = .returned (.int .i64 y) ∧ Below W.heap.size W w' := fun W => by
    have h := op_any 9 a c W
    rwa [e4] at h
  have C4 := hid c4; clear c4
  have c5 : ∀ W, Calls Try.prog 13 #[.int .i64 9, .int .i64 a, .int .i64 y] W fun e w' => e = .returned (.int .i64 x) ∧ Below W.heap.size W w' := fun W => by
    have h := op_any 9 a y W
    rwa [e5] at h
  have C5 := hid c5; clear c5
  have c6 : ∀ W, Calls Try.prog 13 #[.int .i64 10, .int .i64 a, .int .i64 a] W fun e w' => e = .returned (.int .i64 a) ∧ Below W.heap.size W w' := fun W => by
    have h := op_any 10 a a W
    rwa [e6] at h
  have C6 := hid c6; clear c6
  have c7 : ∀ W, Calls Try.prog 13 #[.int .i64 9, .int .i64 a, .int .i64 a] W fun e w' => e = .returned (.int .i64 a) ∧ Below W.heap.size W w' := fun W => by
    have h := op_any 9 a a W
    rwa [e7] at h
  have C7 := hid c7; clear c7
  have c8 : ∀ W, Calls Try.prog 13 #[.int .i64 9, .int .i64 a, .int .i64 a] W fun e w' => e = .returned (.int .i64 a) ∧ Below W.heap.size W w' := fun W => by
    have h := op_any 9 a a W
    rwa [e8] at h
  have C8 := hid c8; clear c8
  have wa := w32 ⟨a1, a2⟩
  have wb : wrap32 a = a := w32 ⟨b1, b2⟩
  have l1 : holdsC [] [] (.mk 3 (pairEx a a) []) = true := by rw [cmp_le a a wa wb]; simp
  have l2 : holdsC [] [] (.mk 2 (pairEx a a) []) = false := by rw [cmp_lt a a wa wb]; simp
  have l3 : holdsC [] [] (.mk 4 (pairEx a a) []) = true := by rw [cmp_eq a a wa wb]; simp
  have L1 := hid l1; clear l1
  have L2 := hid l2; clear l2
  have L3 := hid l3; clear l3
  clear e1 e2 e3 e4 e5 e6 e7 e8 hx hy wa wb
  go_enter Try.func6, Try.ntmps6
  go_wp2_with fail
  refine (examples_any _).mono ?_
  rintro e u1 ⟨rfl, hb⟩
  have B1 := hid hb; clear hb
  go_wp2_with fail
  refine (C1.out _).mono ?_
  rintro e u2 ⟨rfl, hb⟩
  have B2 := hid (below_step B1.out hb); clear hb
  go_wp2_with fail
  refine (C2.out _).mono ?_
  rintro e u3 ⟨rfl, hb⟩
  have B3 := hid (below_step B2.out hb); clear hb
  go_wp2_with fail
  refine (C3.out _).mono ?_
  rintro e u4 ⟨rfl, hb⟩
  have B4 := hid (below_step B3.out hb); clear hb
  go_wp2_with fail
  refine (C4.out _).mono ?_
  rintro e u5 ⟨rfl, hb⟩
  have B5 := hid (below_step B4.out hb); clear hb
  go_wp2_with fail
  refine (C5.out _).mono ?_
  rintro e u6 ⟨rfl, hb⟩
  have B6 := hid (below_step B5.out hb); clear hb
  go_wp2_with fail
  refine (C6.out _).mono ?_
  rintro e u7 ⟨rfl, hb⟩
  have B7 := hid (below_step B6.out hb); clear hb
  go_wp2_with fail
  refine (C7.out _).mono ?_
  rintro e u8 ⟨rfl, hb⟩
  have B8 := hid (below_step B7.out hb); clear hb
  go_wp2_with fail
  refine (C8.out _).mono ?_
  rintro e u9 ⟨rfl, hb⟩
  have B9 := hid (below_step B8.out hb); clear hb
  go_wp2_with fail
  refine (num_any a _).mono ?_
  rintro e u10 ⟨rfl, hb⟩
  have B10 := hid (below_step B9.out hb); clear hb
  go_wp2_with fail
  refine (num_any a _).mono ?_
  rintro e u11 ⟨rfl, hb⟩
  have B11 := hid (below_step B10.out hb); clear hb
  have hp := pair_in u11 a a
  have HP := hid hp; clear hp
  have BA := hid (B11.out.alloc B11.out.size (.cells #[.int .i64 1, .int .i64 0, .int .i64 a, .slice none 0 0, .int .i64 1, .int .i64 0, .int .i64 a, .slice none 0 0] 24))
  go_wp2_with fail
  refine (holds_any [] [] (.mk 3 (pairEx a a) []) _ _ _ _ (cmp_in 3 a a HP.out) (nil_ints _) (nil_ints _)).mono ?_
  rw [L1.out]
  rintro e v1 ⟨rfl, hb⟩
  have D1 := hid hb
  have E1 := hid (below_step BA.out hb); clear hb
  go_wp2_with fail
  refine (holds_any [] [] (.mk 2 (pairEx a a) []) _ _ _ _ (cmp_in 2 a a (exsIn_below D1.out _ _ _ HP.out)) (nil_ints _) (nil_ints _)).mono ?_
  rw [L2.out]
  rintro e v2 ⟨rfl, hb⟩
  have D2 := hid (below_step D1.out hb)
  have E2 := hid (below_step E1.out hb); clear hb
  go_wp2_with fail
  refine (holds_any [] [] (.mk 4 (pairEx a a) []) _ _ _ _ (cmp_in 4 a a (exsIn_below D2.out _ _ _ HP.out)) (nil_ints _) (nil_ints _)).mono ?_
  rw [L3.out]
  rintro e v3 ⟨rfl, hb⟩
  have E3 := hid (below_step E2.out hb); clear hb
  go_wp2
  go_ret
  exact ⟨by simp, E3.out⟩

theorem order_walk (a : Int) (wa : (Lit.int .i32 a).wf = true) (b : Int) (wb : (Lit.int .i32 b).wf = true) (c : Int) (wc : (Lit.int .i32 c).wf = true) (w : World) :
    Calls Try.prog 6 #[.int .i32 a, .int .i32 b, .int .i32 c] w fun e w' => e = .returned (.bool true) ∧ Below w.heap.size w w' := by
  by_cases h : a < b
  · exact order_lt a b c (bd32 wa).1 (bd32 wa).2 (bd32 wb).1 (bd32 wb).2 (bd32 wc).1 (bd32 wc).2 h w
  · by_cases h2 : b < a
    · exact order_gt a b c (bd32 wa).1 (bd32 wa).2 (bd32 wb).1 (bd32 wb).2 (bd32 wc).1 (bd32 wc).2 h2 w
    · obtain rfl : a = b := by omega
      exact order_eq a c (bd32 wa).1 (bd32 wa).2 (bd32 wc).1 (bd32 wc).2 w

/-! ### THE ROW's STEP -/
set_option maxRecDepth 100000 in
theorem liftedNumOrder (os : Os) (started : os.Started) (H : Type) (enc : TypeId × Value → H) :
    ReturnsInHanded {} Try.checked os 6 .any (Rows.numOrderSpec.pre6 enc Try.prog Try.f6 Rows.numOrderRow.domain false) (Rows.numOrderSpec.post enc Try.prog Try.f6 false true false false) := by
  refine returnsInHanded_of_change (C := Try.checked) own started (by kernel_rfl) Try.func6
    (ChangeSpec.witness6 (enc := enc) (C := Try.checked) false ⟨#[], #[.int .i32 0, .int .i32 0, .int .i32 0], []⟩ 8 (by kernel_rfl) (by kernel_rfl) (by kernel_rfl) (by kernel_rfl)) ?_
  intro W base args ds gs before hval0 hW hcnd _
  have hval : ∀ (j : Nat) t v, Try.f6.params[j]? = some t → args[j]? = some v → Value.okWide Try.prog W .any base t v := hval0
  have hW' := hW
  obtain ⟨p, q, hA0, hV, rfl, hfz, hnd⟩ := hW
  have hA : DataW.TrodAll enc Try.prog W 0 (fun _ => true) true Try.f6.params.toList args.toList ds p := hA0
  rw [Try.params6] at hA hval
  obtain ⟨v0, vs0, d0, ds0, p0, q0, hargs, rfl, rfl, h0, r0⟩ := trodAll_cons hA
  obtain ⟨v1, vs1, d1, ds1, p1, q1, rfl, rfl, rfl, h1, r1⟩ := trodAll_cons r0
  obtain ⟨v2, vs2, d2, ds2, p2, q2, rfl, rfl, rfl, h2, r2⟩ := trodAll_cons r1
  obtain ⟨rfl, rfl, rfl⟩ := trodAll_nil r2
  obtain rfl : args = #[v0, v1, v2] := by cases args; simp_all
  obtain ⟨rfl, rfl⟩ := trodVars_none hV
  obtain ⟨a0, rfl, rfl, rfl, w0⟩ := open_int Try.underlying21 (hval 0 21 v0 rfl rfl) h0
  obtain ⟨a1, rfl, rfl, rfl, w1⟩ := open_int Try.underlying21 (hval 1 21 v1 rfl rfl) h1
  obtain ⟨a2, rfl, rfl, rfl, w2⟩ := open_int Try.underlying21 (hval 2 21 v2 rfl rfl) h2
  clear hA0 hval0
  refine (order_walk a0 w0 a1 w1 a2 w2 W).mono fun e W' ⟨he, hg⟩ => ?_
  subst he
  exact ⟨_, rfl, post_true (T := 4) (by kernel_rfl) (by kernel_rfl) rfl rfl (by kernel_rfl) hW' hg rfl⟩

theorem numOrder_holds : Rows.NumOrderSaid :=
  OpenClaim.holds_of_wide 6 Try.f6 rfl rfl rfl rfl rfl rfl rfl ⟨rfl, rfl, rfl, rfl, rfl⟩ rfl rfl rfl rfl rfl (by kernel_rfl) Try.func6 (by kernel_rfl)
    (of_decide_eq_true (by kernel_rfl)) (by unfold Func.isWrapper; rw [if_neg (of_decide_eq_false (by kernel_rfl))]; exact ⟨rfl, rfl⟩)
    (fun os started H enc _ => liftedNumOrder os started H enc)
end Go.Proofs.Ytpncjepigcnfeaa

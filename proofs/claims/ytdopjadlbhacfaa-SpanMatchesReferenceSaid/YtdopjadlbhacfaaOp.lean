import Derived.Test.YtdopjadlbhacfaaMk
namespace Go.Proofs.Ytdopjadlbhacfaa
section
set_option linter.unusedSimpArgs false
open Go.RowKit Go.Instr

/-! 'num.Op': the map of its operators, and what it returns. -/
def e4 : MapEntry := ⟨.int .i64 4, .func (.func 66) #[] #[], 0⟩
def e5 : MapEntry := ⟨.int .i64 5, .func (.func 67) #[] #[], 1⟩
def e6 : MapEntry := ⟨.int .i64 6, .func (.func 68) #[] #[], 2⟩
def e7 : MapEntry := ⟨.int .i64 7, .func (.func 69) #[] #[], 3⟩
def e8 : MapEntry := ⟨.int .i64 8, .func (.func 70) #[] #[], 4⟩
def e9 : MapEntry := ⟨.int .i64 9, .func (.func 71) #[] #[], 5⟩
def e10 : MapEntry := ⟨.int .i64 10, .func (.func 72) #[] #[], 6⟩
theorem ins4 (w : World) : (mapUpdate 90 (.map (some w.heap.size)) (.int .i64 4) (.func (.func 66) #[] #[])).run Try.prog (w.alloc (.map #[] 0)) = .ok () (w.alloc (.map #[e4] 1)) :=
  insert_new (P := Try.prog) (k := 3) (e := 71) (by kernel_rfl) (by kernel_rfl) #[] 0 4 _ (by kernel_rfl) w
theorem ins5 (w : World) : (mapUpdate 90 (.map (some w.heap.size)) (.int .i64 5) (.func (.func 67) #[] #[])).run Try.prog (w.alloc (.map #[e4] 1)) = .ok () (w.alloc (.map #[e4, e5] 2)) :=
  insert_new (P := Try.prog) (k := 3) (e := 71) (by kernel_rfl) (by kernel_rfl) #[e4] 1 5 _ (by kernel_rfl) w
theorem ins6 (w : World) : (mapUpdate 90 (.map (some w.heap.size)) (.int .i64 6) (.func (.func 68) #[] #[])).run Try.prog (w.alloc (.map #[e4, e5] 2)) = .ok () (w.alloc (.map #[e4, e5, e6] 3)) :=
  insert_new (P := Try.prog) (k := 3) (e := 71) (by kernel_rfl) (by kernel_rfl) #[e4, e5] 2 6 _ (by kernel_rfl) w
theorem ins7 (w : World) : (mapUpdate 90 (.map (some w.heap.size)) (.int .i64 7) (.func (.func 69) #[] #[])).run Try.prog (w.alloc (.map #[e4, e5, e6] 3)) = .ok () (w.alloc (.map #[e4, e5, e6, e7] 4)) :=
  insert_new (P := Try.prog) (k := 3) (e := 71) (by kernel_rfl) (by kernel_rfl) #[e4, e5, e6] 3 7 _ (by kernel_rfl) w
theorem ins8 (w : World) : (mapUpdate 90 (.map (some w.heap.size)) (.int .i64 8) (.func (.func 70) #[] #[])).run Try.prog (w.alloc (.map #[e4, e5, e6, e7] 4)) = .ok () (w.alloc (.map #[e4, e5, e6, e7, e8] 5)) :=
  insert_new (P := Try.prog) (k := 3) (e := 71) (by kernel_rfl) (by kernel_rfl) #[e4, e5, e6, e7] 4 8 _ (by kernel_rfl) w
theorem ins9 (w : World) : (mapUpdate 90 (.map (some w.heap.size)) (.int .i64 9) (.func (.func 71) #[] #[])).run Try.prog (w.alloc (.map #[e4, e5, e6, e7, e8] 5)) = .ok () (w.alloc (.map #[e4, e5, e6, e7, e8, e9] 6)) :=
  insert_new (P := Try.prog) (k := 3) (e := 71) (by kernel_rfl) (by kernel_rfl) #[e4, e5, e6, e7, e8] 5 9 _ (by kernel_rfl) w
theorem ins10 (w : World) : (mapUpdate 90 (.map (some w.heap.size)) (.int .i64 10) (.func (.func 72) #[] #[])).run Try.prog (w.alloc (.map #[e4, e5, e6, e7, e8, e9] 6)) = .ok () (w.alloc (.map #[e4, e5, e6, e7, e8, e9, e10] 7)) :=
  insert_new (P := Try.prog) (k := 3) (e := 71) (by kernel_rfl) (by kernel_rfl) #[e4, e5, e6, e7, e8, e9] 6 10 _ (by kernel_rfl) w
theorem look4 (w : World) : (lookup 90 (.map (some w.heap.size)) (.int .i64 4) true).run Try.prog (w.alloc (.map #[e4, e5, e6, e7, e8, e9, e10] 7)) = .ok (.tuple #[.func (.func 66) #[] #[], .bool true]) (w.alloc (.map #[e4, e5, e6, e7, e8, e9, e10] 7)) :=
  lookup_new (P := Try.prog) (k := 3) (e := 71) (by kernel_rfl) (by kernel_rfl) #[e4, e5, e6, e7, e8, e9, e10] 7 4 _ 0 (by kernel_rfl) w
theorem look5 (w : World) : (lookup 90 (.map (some w.heap.size)) (.int .i64 5) true).run Try.prog (w.alloc (.map #[e4, e5, e6, e7, e8, e9, e10] 7)) = .ok (.tuple #[.func (.func 67) #[] #[], .bool true]) (w.alloc (.map #[e4, e5, e6, e7, e8, e9, e10] 7)) :=
  lookup_new (P := Try.prog) (k := 3) (e := 71) (by kernel_rfl) (by kernel_rfl) #[e4, e5, e6, e7, e8, e9, e10] 7 5 _ 1 (by kernel_rfl) w
theorem look6 (w : World) : (lookup 90 (.map (some w.heap.size)) (.int .i64 6) true).run Try.prog (w.alloc (.map #[e4, e5, e6, e7, e8, e9, e10] 7)) = .ok (.tuple #[.func (.func 68) #[] #[], .bool true]) (w.alloc (.map #[e4, e5, e6, e7, e8, e9, e10] 7)) :=
  lookup_new (P := Try.prog) (k := 3) (e := 71) (by kernel_rfl) (by kernel_rfl) #[e4, e5, e6, e7, e8, e9, e10] 7 6 _ 2 (by kernel_rfl) w
theorem look7 (w : World) : (lookup 90 (.map (some w.heap.size)) (.int .i64 7) true).run Try.prog (w.alloc (.map #[e4, e5, e6, e7, e8, e9, e10] 7)) = .ok (.tuple #[.func (.func 69) #[] #[], .bool true]) (w.alloc (.map #[e4, e5, e6, e7, e8, e9, e10] 7)) :=
  lookup_new (P := Try.prog) (k := 3) (e := 71) (by kernel_rfl) (by kernel_rfl) #[e4, e5, e6, e7, e8, e9, e10] 7 7 _ 3 (by kernel_rfl) w
theorem look8 (w : World) : (lookup 90 (.map (some w.heap.size)) (.int .i64 8) true).run Try.prog (w.alloc (.map #[e4, e5, e6, e7, e8, e9, e10] 7)) = .ok (.tuple #[.func (.func 70) #[] #[], .bool true]) (w.alloc (.map #[e4, e5, e6, e7, e8, e9, e10] 7)) :=
  lookup_new (P := Try.prog) (k := 3) (e := 71) (by kernel_rfl) (by kernel_rfl) #[e4, e5, e6, e7, e8, e9, e10] 7 8 _ 4 (by kernel_rfl) w
theorem look9 (w : World) : (lookup 90 (.map (some w.heap.size)) (.int .i64 9) true).run Try.prog (w.alloc (.map #[e4, e5, e6, e7, e8, e9, e10] 7)) = .ok (.tuple #[.func (.func 71) #[] #[], .bool true]) (w.alloc (.map #[e4, e5, e6, e7, e8, e9, e10] 7)) :=
  lookup_new (P := Try.prog) (k := 3) (e := 71) (by kernel_rfl) (by kernel_rfl) #[e4, e5, e6, e7, e8, e9, e10] 7 9 _ 5 (by kernel_rfl) w
theorem look10 (w : World) : (lookup 90 (.map (some w.heap.size)) (.int .i64 10) true).run Try.prog (w.alloc (.map #[e4, e5, e6, e7, e8, e9, e10] 7)) = .ok (.tuple #[.func (.func 72) #[] #[], .bool true]) (w.alloc (.map #[e4, e5, e6, e7, e8, e9, e10] 7)) :=
  lookup_new (P := Try.prog) (k := 3) (e := 71) (by kernel_rfl) (by kernel_rfl) #[e4, e5, e6, e7, e8, e9, e10] 7 10 _ 6 (by kernel_rfl) w
theorem lookNo (n : Int) (h : n < 4 ∨ 10 < n) (w : World) : (lookup 90 (.map (some w.heap.size)) (.int .i64 n) true).run Try.prog (w.alloc (.map #[e4, e5, e6, e7, e8, e9, e10] 7)) = .ok (.tuple #[.nilFunc, .bool false]) (w.alloc (.map #[e4, e5, e6, e7, e8, e9, e10] 7)) :=
  lookup_none (P := Try.prog) (k := 3) (e := 71) (by kernel_rfl) (by kernel_rfl) (fun _ => by kernel_rfl) #[e4, e5, e6, e7, e8, e9, e10] 7 n (by
    have h4 : (n == 4) = false := by simp; omega
    have h5 : (n == 5) = false := by simp; omega
    have h6 : (n == 6) = false := by simp; omega
    have h7 : (n == 7) = false := by simp; omega
    have h8 : (n == 8) = false := by simp; omega
    have h9 : (n == 9) = false := by simp; omega
    have h10 : (n == 10) = false := by simp; omega
    simp [findNow, sameNow, e4, e5, e6, e7, e8, e9, e10, h4, h5, h6, h7, h8, h9, h10]) w
end

section
open Go.RowKit Go.Instr
set_option linter.unusedVariables false
set_option linter.unusedSimpArgs false

/-- The quotient without its fraction; 0 for a divisor 0. -/
def quo (a b : Int) : Int := wrap64 (a.tdiv b)
/-- What 'num.Op' returns for an operator and two numbers. -/
def opF (op a b : Int) : Int :=
  if op = 4 then wrap32 (wrap32 a + wrap32 b) else if op = 5 then wrap32 (wrap32 a - wrap32 b) else if op = 6 then wrap32 (wrap32 a * wrap32 b)
  else if op = 7 then wrap32 (quo (wrap32 a) (wrap32 b)) else if op = 8 then wrap32 (wrap32 a - wrap32 b * quo (wrap32 a) (wrap32 b))
  else if op = 9 then wrap32 (min (wrap32 a) (wrap32 b)) else if op = 10 then wrap32 (max (wrap32 a) (wrap32 b)) else 0

theorem wrap32_bd (a : Int) : -2147483648 ≤ wrap32 a ∧ wrap32 a ≤ 2147483647 := by unfold wrap32; omega
theorem w32_64 (a : Int) : wrap32 (wrap64 a) = wrap32 a := by unfold wrap32 wrap64; omega
theorem w32_64s (a b : Int) : wrap32 (a - wrap64 b) = wrap32 (a - b) := by unfold wrap32 wrap64; omega
theorem ret_i {a b : Int} (h : a = b) : Ending.returned (.int .i64 a) = .returned (.int .i64 b) := by rw [h]

set_option maxHeartbeats 400000 in
theorem wrap_any (a : Int) (w : World) :
    Calls Try.prog 73 #[.int .i64 a] w fun e w' => e = .returned (.int .i64 (wrap32 a)) ∧ w = w' := by
  have hb := wrap32_bd a
  go_enter Try.func73, Try.ntmps73
  go_wp2
  go_ret
  exact ⟨ret_i (by first | rfl | (simp; done)), rfl⟩

set_option maxHeartbeats 400000 in
theorem quot_any (a b : Int) (w : World) :
    Calls Try.prog 69 #[.int .i64 a, .int .i64 b] w fun e w' => e = .returned (.int .i64 (quo a b)) ∧ w = w' := by
  by_cases h0 : b = 0
  · subst h0
    go_enter Try.func69, Try.ntmps69
    go_wp2
    go_ret
    exact ⟨ret_i (by simp [quo, wrap64]), rfl⟩
  · have h1 : (b == 0) = false := by simpa using h0
    go_enter Try.func69, Try.ntmps69
    go_wp2
    go_ret
    exact ⟨ret_i (by simp [quo]), rfl⟩

set_option maxHeartbeats 400000 in
theorem lam4 (a b : Int) (w : World) :
    Calls Try.prog 66 #[.int .i64 a, .int .i64 b] w fun e w' => e = .returned (.int .i64 (wrap64 (a + b))) ∧ w = w' := by
  go_enter Try.func66, Try.ntmps66
  go_wp2
  all_goals
    go_ret
    exact ⟨ret_i (by first | rfl | (simp; done) | omega), rfl⟩

set_option maxHeartbeats 400000 in
theorem lam5 (a b : Int) (w : World) :
    Calls Try.prog 67 #[.int .i64 a, .int .i64 b] w fun e w' => e = .returned (.int .i64 (wrap64 (a - b))) ∧ w = w' := by
  go_enter Try.func67, Try.ntmps67
  go_wp2
  all_goals
    go_ret
    exact ⟨ret_i (by first | rfl | (simp; done) | omega), rfl⟩

set_option maxHeartbeats 400000 in
theorem lam6 (a b : Int) (w : World) :
    Calls Try.prog 68 #[.int .i64 a, .int .i64 b] w fun e w' => e = .returned (.int .i64 (wrap64 (a * b))) ∧ w = w' := by
  go_enter Try.func68, Try.ntmps68
  go_wp2
  all_goals
    go_ret
    exact ⟨ret_i (by first | rfl | (simp; done) | omega), rfl⟩

set_option maxHeartbeats 400000 in
theorem lam8 (a b : Int) (w : World) :
    Calls Try.prog 70 #[.int .i64 a, .int .i64 b] w fun e w' => e = .returned (.int .i64 (wrap64 (a - wrap64 (b * quo a b)))) ∧ w = w' := by
  go_enter Try.func70, Try.ntmps70
  go_wp2_with (go_at_call 69; refine (quot_any _ _ _).mono ?_; rintro e w2 ⟨rfl, rfl⟩)
  all_goals
    go_ret
    exact ⟨ret_i (by first | rfl | (simp; done) | omega), rfl⟩

set_option maxHeartbeats 400000 in
theorem lam9 (a b : Int) (w : World) :
    Calls Try.prog 71 #[.int .i64 a, .int .i64 b] w fun e w' => e = .returned (.int .i64 (min a b)) ∧ w = w' := by
  go_enter Try.func71, Try.ntmps71
  go_wp2
  all_goals
    go_ret
    exact ⟨ret_i (by first | rfl | (simp; done) | omega), rfl⟩

set_option maxHeartbeats 400000 in
theorem lam10 (a b : Int) (w : World) :
    Calls Try.prog 72 #[.int .i64 a, .int .i64 b] w fun e w' => e = .returned (.int .i64 (max a b)) ∧ w = w' := by
  go_enter Try.func72, Try.ntmps72
  go_wp2
  all_goals
    go_ret
    exact ⟨ret_i (by first | rfl | (simp; done) | omega), rfl⟩

set_option maxHeartbeats 400000 in
theorem op_4 (a b : Int) (w : World) :
    Calls Try.prog 35 #[.int .i64 4, .int .i64 a, .int .i64 b] w fun e w' => e = .returned (.int .i64 (opF 4 a b)) ∧ Below w.heap.size w w' := by
  have hmm := @run_makeMap Try.prog
  have i4 := ins4
  have i5 := ins5
  have i6 := ins6
  have i7 := ins7
  have i8 := ins8
  have i9 := ins9
  have i10 := ins10
  have l := look4
  go_enter Try.func35, Try.ntmps35
  go_wp2_with (first | (go_at_call 73; refine (wrap_any _ _).mono ?_; rintro e w2 ⟨rfl, rfl⟩) | (go_at_call 66; refine (lam4 _ _ _).mono ?_; rintro e w2 ⟨rfl, rfl⟩))
  go_ret
  exact ⟨ret_i (by simp [opF, w32_64]), (Below.refl _ _).alloc (Nat.le_refl _) _⟩

set_option maxHeartbeats 400000 in
theorem op_5 (a b : Int) (w : World) :
    Calls Try.prog 35 #[.int .i64 5, .int .i64 a, .int .i64 b] w fun e w' => e = .returned (.int .i64 (opF 5 a b)) ∧ Below w.heap.size w w' := by
  have hmm := @run_makeMap Try.prog
  have i4 := ins4
  have i5 := ins5
  have i6 := ins6
  have i7 := ins7
  have i8 := ins8
  have i9 := ins9
  have i10 := ins10
  have l := look5
  go_enter Try.func35, Try.ntmps35
  go_wp2_with (first | (go_at_call 73; refine (wrap_any _ _).mono ?_; rintro e w2 ⟨rfl, rfl⟩) | (go_at_call 67; refine (lam5 _ _ _).mono ?_; rintro e w2 ⟨rfl, rfl⟩))
  go_ret
  exact ⟨ret_i (by simp [opF, w32_64]), (Below.refl _ _).alloc (Nat.le_refl _) _⟩

set_option maxHeartbeats 400000 in
theorem op_6 (a b : Int) (w : World) :
    Calls Try.prog 35 #[.int .i64 6, .int .i64 a, .int .i64 b] w fun e w' => e = .returned (.int .i64 (opF 6 a b)) ∧ Below w.heap.size w w' := by
  have hmm := @run_makeMap Try.prog
  have i4 := ins4
  have i5 := ins5
  have i6 := ins6
  have i7 := ins7
  have i8 := ins8
  have i9 := ins9
  have i10 := ins10
  have l := look6
  go_enter Try.func35, Try.ntmps35
  go_wp2_with (first | (go_at_call 73; refine (wrap_any _ _).mono ?_; rintro e w2 ⟨rfl, rfl⟩) | (go_at_call 68; refine (lam6 _ _ _).mono ?_; rintro e w2 ⟨rfl, rfl⟩))
  go_ret
  exact ⟨ret_i (by simp [opF, w32_64]), (Below.refl _ _).alloc (Nat.le_refl _) _⟩

set_option maxHeartbeats 400000 in
theorem op_7 (a b : Int) (w : World) :
    Calls Try.prog 35 #[.int .i64 7, .int .i64 a, .int .i64 b] w fun e w' => e = .returned (.int .i64 (opF 7 a b)) ∧ Below w.heap.size w w' := by
  have hmm := @run_makeMap Try.prog
  have i4 := ins4
  have i5 := ins5
  have i6 := ins6
  have i7 := ins7
  have i8 := ins8
  have i9 := ins9
  have i10 := ins10
  have l := look7
  go_enter Try.func35, Try.ntmps35
  go_wp2_with (first | (go_at_call 73; refine (wrap_any _ _).mono ?_; rintro e w2 ⟨rfl, rfl⟩) | (go_at_call 69; refine (quot_any _ _ _).mono ?_; rintro e w2 ⟨rfl, rfl⟩))
  go_ret
  exact ⟨ret_i (by simp [opF]), (Below.refl _ _).alloc (Nat.le_refl _) _⟩

set_option maxHeartbeats 400000 in
theorem op_8 (a b : Int) (w : World) :
    Calls Try.prog 35 #[.int .i64 8, .int .i64 a, .int .i64 b] w fun e w' => e = .returned (.int .i64 (opF 8 a b)) ∧ Below w.heap.size w w' := by
  have hmm := @run_makeMap Try.prog
  have i4 := ins4
  have i5 := ins5
  have i6 := ins6
  have i7 := ins7
  have i8 := ins8
  have i9 := ins9
  have i10 := ins10
  have l := look8
  go_enter Try.func35, Try.ntmps35
  go_wp2_with (first | (go_at_call 73; refine (wrap_any _ _).mono ?_; rintro e w2 ⟨rfl, rfl⟩) | (go_at_call 70; refine (lam8 _ _ _).mono ?_; rintro e w2 ⟨rfl, rfl⟩))
  go_ret
  exact ⟨ret_i (by simp [opF, w32_64, w32_64s]), (Below.refl _ _).alloc (Nat.le_refl _) _⟩

set_option maxHeartbeats 400000 in
theorem op_9 (a b : Int) (w : World) :
    Calls Try.prog 35 #[.int .i64 9, .int .i64 a, .int .i64 b] w fun e w' => e = .returned (.int .i64 (opF 9 a b)) ∧ Below w.heap.size w w' := by
  have hmm := @run_makeMap Try.prog
  have i4 := ins4
  have i5 := ins5
  have i6 := ins6
  have i7 := ins7
  have i8 := ins8
  have i9 := ins9
  have i10 := ins10
  have l := look9
  go_enter Try.func35, Try.ntmps35
  go_wp2_with (first | (go_at_call 73; refine (wrap_any _ _).mono ?_; rintro e w2 ⟨rfl, rfl⟩) | (go_at_call 71; refine (lam9 _ _ _).mono ?_; rintro e w2 ⟨rfl, rfl⟩))
  go_ret
  exact ⟨ret_i (by simp [opF]), (Below.refl _ _).alloc (Nat.le_refl _) _⟩

set_option maxHeartbeats 400000 in
theorem op_10 (a b : Int) (w : World) :
    Calls Try.prog 35 #[.int .i64 10, .int .i64 a, .int .i64 b] w fun e w' => e = .returned (.int .i64 (opF 10 a b)) ∧ Below w.heap.size w w' := by
  have hmm := @run_makeMap Try.prog
  have i4 := ins4
  have i5 := ins5
  have i6 := ins6
  have i7 := ins7
  have i8 := ins8
  have i9 := ins9
  have i10 := ins10
  have l := look10
  go_enter Try.func35, Try.ntmps35
  go_wp2_with (first | (go_at_call 73; refine (wrap_any _ _).mono ?_; rintro e w2 ⟨rfl, rfl⟩) | (go_at_call 72; refine (lam10 _ _ _).mono ?_; rintro e w2 ⟨rfl, rfl⟩))
  go_ret
  exact ⟨ret_i (by simp [opF]), (Below.refl _ _).alloc (Nat.le_refl _) _⟩

set_option maxHeartbeats 400000 in
theorem op_no (n a b : Int) (h : n < 4 ∨ 10 < n) (w : World) :
    Calls Try.prog 35 #[.int .i64 n, .int .i64 a, .int .i64 b] w fun e w' => e = .returned (.int .i64 0) ∧ Below w.heap.size w w' := by
  have hmm := @run_makeMap Try.prog
  have i4 := ins4
  have i5 := ins5
  have i6 := ins6
  have i7 := ins7
  have i8 := ins8
  have i9 := ins9
  have i10 := ins10
  have l := lookNo n h
  go_enter Try.func35, Try.ntmps35
  go_wp2
  go_ret
  exact ⟨rfl, (Below.refl _ _).alloc (Nat.le_refl _) _⟩

theorem opF_no (n a b : Int) (h : n < 4 ∨ 10 < n) : opF n a b = 0 := by
  unfold opF
  rw [if_neg (by omega), if_neg (by omega), if_neg (by omega), if_neg (by omega), if_neg (by omega), if_neg (by omega), if_neg (by omega)]

theorem op_any (n a b : Int) (w : World) :
    Calls Try.prog 35 #[.int .i64 n, .int .i64 a, .int .i64 b] w fun e w' => e = .returned (.int .i64 (opF n a b)) ∧ Below w.heap.size w w' := by
  by_cases h : n < 4 ∨ 10 < n
  · rw [opF_no n a b h]; exact op_no n a b h w
  · have h' : n = 4 ∨ n = 5 ∨ n = 6 ∨ n = 7 ∨ n = 8 ∨ n = 9 ∨ n = 10 := by omega
    rcases h' with rfl | rfl | rfl | rfl | rfl | rfl | rfl
    · exact op_4 a b w
    · exact op_5 a b w
    · exact op_6 a b w
    · exact op_7 a b w
    · exact op_8 a b w
    · exact op_9 a b w
    · exact op_10 a b w
end
end Go.Proofs.Ytdopjadlbhacfaa

import Derived.Test.YtcjambgbbmffiaaNf
namespace Go.Proofs.Ytcjambgbbmffiaa
open Go.RowKit Go.Instr
set_option linter.unusedVariables false

/-! The reference's 'Wrap', 'Op', 'element', 'Binary', 'Operand', 'Eval'. -/
theorem wrap32_tmod (v : Int) : ∃ m, v.tmod 4294967296 = m ∧ -4294967296 < m ∧ m < 4294967296 ∧ wrap32 v = if m < -2147483648 then m + 4294967296 else if 2147483647 < m then m - 4294967296 else m := by
  have h1 := Int.tmod_add_mul_tdiv v 4294967296
  have h2 := Int.tmod_lt_of_pos v (b := 4294967296) (by decide)
  have h3 := Int.lt_tmod_of_pos v (b := 4294967296) (by decide)
  refine ⟨_, rfl, h3, h2, ?_⟩
  generalize v.tmod 4294967296 = m at *
  generalize v.tdiv 4294967296 = q at *
  unfold wrap32
  split
  · omega
  · split <;> omega
set_option maxHeartbeats 400000 in
theorem rwrap_any (v : Int) (w : World) :
    Calls Try.prog 11 #[.int .i64 v] w fun e w' => e = .returned (.int .i64 (wrap32 v)) ∧ w = w' := by
  obtain ⟨m, hm, h1, h2, hw⟩ := wrap32_tmod v
  have HW := hid hw
  clear hw
  have hmw : IntKind.i64.wrap (v.tmod 4294967296) = m := by rw [hm, IntKind.wrap_i64]; omega
  by_cases c1 : m < -2147483648
  · go_enter Try.func11, Try.ntmps11
    go_wp2
    go_ret
    exact ⟨ret_i (by rw [HW.out]; (try split) <;> (try split) <;> (first | rfl | omega)), rfl⟩
  · by_cases c2 : 2147483647 < m
    · go_enter Try.func11, Try.ntmps11
      go_wp2
      go_ret
      exact ⟨ret_i (by rw [HW.out]; (try split) <;> (try split) <;> (first | rfl | omega)), rfl⟩
    · go_enter Try.func11, Try.ntmps11
      go_wp2
      go_ret
      exact ⟨ret_i (by rw [HW.out]; (try split) <;> (try split) <;> (first | rfl | omega)), rfl⟩
theorem tmod_small (a b : Int) (hb : b ≠ 0) (ha : -2147483648 ≤ a ∧ a ≤ 2147483647) (hb2 : -2147483648 ≤ b ∧ b ≤ 2147483647) : a.tmod b = wrap32 (a - b * quo a b) ∧ -2147483648 ≤ a.tmod b ∧ a.tmod b ≤ 2147483647 := by
  have h1 := Int.tmod_def a b
  have h2 := Int.natAbs_tmod a b
  have h3 : a.natAbs % b.natAbs ≤ a.natAbs := Nat.mod_le _ _
  have h4 : a.natAbs % b.natAbs < b.natAbs := Nat.mod_lt _ (by omega)
  have hq : quo a b = wrap64 (a.tdiv b) := rfl
  have hbd : -2147483648 ≤ a.tmod b ∧ a.tmod b ≤ 2147483647 := by omega
  have hd : (a.tdiv b).natAbs ≤ 2147483648 := by
    rw [Int.natAbs_tdiv]
    exact Nat.le_trans (Nat.div_le_self _ _) (by omega)
  have hw : wrap64 (a.tdiv b) = a.tdiv b := by unfold wrap64; omega
  refine ⟨?_, hbd⟩
  rw [hq, hw, ← h1]
  unfold wrap32
  omega
set_option maxHeartbeats 1000000 in
theorem rop_any (n a b : Int) (w : World) :
    Calls Try.prog 9 #[.int .i64 n, .int .i64 a, .int .i64 b] w fun e w' => e = .returned (.int .i64 (opF n a b)) ∧ w = w' := by
  have ha := wrap32_bd a
  have hb := wrap32_bd b
  by_cases h : n < 4 ∨ 10 < n
  · rw [opF_no n a b h]
    have b4 := ne_b (show n ≠ 4 by omega)
    have b5 := ne_b (show n ≠ 5 by omega)
    have b6 := ne_b (show n ≠ 6 by omega)
    have b7 := ne_b (show n ≠ 7 by omega)
    have b8 := ne_b (show n ≠ 8 by omega)
    have b9 := ne_b (show n ≠ 9 by omega)
    have b10 := ne_b (show n ≠ 10 by omega)
    clear h
    go_enter Try.func9, Try.ntmps9
    go_wp2_with (go_at_call 11; refine (rwrap_any _ _).mono ?_; rintro e w2 ⟨rfl, rfl⟩)
    go_ret
    exact ⟨rfl, rfl⟩
  · have hn : n = 4 ∨ n = 5 ∨ n = 6 ∨ n = 7 ∨ n = 8 ∨ n = 9 ∨ n = 10 := by omega
    clear h
    obtain ⟨x, hx⟩ : ∃ x, wrap32 a = x := ⟨_, rfl⟩
    obtain ⟨y, hy⟩ : ∃ y, wrap32 b = y := ⟨_, rfl⟩
    have HX := hid hx
    have HY := hid hy
    rw [hx] at ha
    rw [hy] at hb
    have F : ∀ k, opF k a b = opF k a b := fun _ => rfl
    have C1 := hid (fun (w : World) => by have := rwrap_any a w; rw [hx] at this; exact this)
    have C2 := hid (fun (w : World) => by have := rwrap_any b w; rw [hy] at this; exact this)
    clear hx hy F
    by_cases hy0 : y = 0
    · subst hy0
      rcases hn with rfl | rfl | rfl | rfl | rfl | rfl | rfl
      all_goals
        go_enter Try.func9, Try.ntmps9
        go_wp2_with (first | (go_at_call_of 11 (Value.int .i64 a); refine (C1.out _).mono ?_; rintro e w2 ⟨rfl, rfl⟩) | (go_at_call_of 11 (Value.int .i64 b); refine (C2.out _).mono ?_; rintro e w2 ⟨rfl, rfl⟩) | (go_at_call 11; refine (rwrap_any _ _).mono ?_; rintro e w2 ⟨rfl, rfl⟩))
        go_ret
        exact ⟨ret_i (by rw [opF, HX.out, HY.out]; simp [quo, wrap64, wrap32]; try omega), rfl⟩
    · have hyb := ne_b hy0
      have hq : IntKind.i64.wrap (x.tdiv y) = quo x y := by unfold quo wrap64; rw [IntKind.wrap_i64]
      obtain ⟨m1, m2, m3⟩ := tmod_small x y hy0 ha hb
      have hrw : IntKind.i64.wrap (x.tmod y) = x.tmod y := by rw [IntKind.wrap_i64]; omega
      have MR := hid m1
      have MN := hid (show min x y = wrap32 (min x y) by unfold wrap32; omega)
      have MX := hid (show max x y = wrap32 (max x y) by unfold wrap32; omega)
      have MM := hid (fun z => (w32_64 z))
      clear m1
      rcases hn with rfl | rfl | rfl | rfl | rfl | rfl | rfl
      all_goals
        go_enter Try.func9, Try.ntmps9
        go_wp2_with (first | (go_at_call_of 11 (Value.int .i64 a); refine (C1.out _).mono ?_; rintro e w2 ⟨rfl, rfl⟩) | (go_at_call_of 11 (Value.int .i64 b); refine (C2.out _).mono ?_; rintro e w2 ⟨rfl, rfl⟩) | (go_at_call 11; refine (rwrap_any _ _).mono ?_; rintro e w2 ⟨rfl, rfl⟩))
        all_goals
          go_ret
          exact ⟨ret_i (by rw [opF, HX.out, HY.out]; first | rfl | (refine (MM.out _).trans ?_; rfl) | (refine MR.out.trans ?_; rfl) | (refine MN.out.trans ?_; rfl) | (refine MX.out.trans ?_; rfl)), rfl⟩
end Go.Proofs.Ytcjambgbbmffiaa

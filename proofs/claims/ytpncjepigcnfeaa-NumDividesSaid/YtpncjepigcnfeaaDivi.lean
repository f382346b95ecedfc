/-
  The law NumDivides of package num holds: a is b times the quotient and the remainder, modulo 2^32; the remainder is less than b in size, and has the sign of a, or is 0; division by 0 gives 0, and leaves a.
  No condition: every input that the row speaks of.
-/
import Derived.Test.YtpncjepigcnfeaaPl
namespace Go.Proofs.Ytpncjepigcnfeaa
open Go.ChangeShapes Go.WideShapes Go.ChangeAt Go.RowKit

theorem opF7 (a b : Int) : opF 7 a b = wrap32 (quo (wrap32 a) (wrap32 b)) := rfl
theorem opF8 (a b : Int) : opF 8 a b = wrap32 (wrap32 a - wrap32 b * quo (wrap32 a) (wrap32 b)) := rfl

theorem quo_in (a b : Int) (ha : -2147483648 ≤ a ∧ a ≤ 2147483647) : quo a b = a.tdiv b := by
  have h : (a.tdiv b).natAbs ≤ a.natAbs := by rw [Int.natAbs_tdiv]; exact Nat.div_le_self _ _
  unfold quo wrap64
  omega

theorem rem_in (a b : Int) (hb : b ≠ 0) : (a.tmod b).natAbs < b.natAbs ∧ (a.tmod b).natAbs ≤ a.natAbs ∧ (0 ≤ a → 0 ≤ a.tmod b) ∧ (a ≤ 0 → a.tmod b ≤ 0) := by
  refine ⟨?_, ?_, fun h => Int.tmod_nonneg b h, fun h => ?_⟩
  · rw [Int.natAbs_tmod]; exact Nat.mod_lt _ (by omega)
  · rw [Int.natAbs_tmod]; exact Nat.mod_le _ _
  · have h1 := Int.tmod_nonneg b (show 0 ≤ -a by omega)
    rw [Int.neg_tmod] at h1
    omega

/-- What the law asks of a quotient and a remainder. -/
structure DivOk (a b q r : Int) : Prop where
  cong : ∃ k, b * q + r = a + 4294967296 * k
  size : r.natAbs < b.natAbs
  size2 : r.natAbs ≤ a.natAbs
  pos : 0 ≤ a → 0 ≤ r
  neg : a ≤ 0 → r ≤ 0
  q1 : -2147483648 ≤ q
  q2 : q ≤ 2147483647

theorem div_ok (a b : Int) (ha : -2147483648 ≤ a ∧ a ≤ 2147483647) (hb : -2147483648 ≤ b ∧ b ≤ 2147483647) (h : b ≠ 0) : DivOk a b (opF 7 a b) (opF 8 a b) := by
  obtain ⟨r1, r2, r3, r4⟩ := rem_in a b h
  have e7 : opF 7 a b = wrap32 (a.tdiv b) := by rw [opF7, w32 ha, w32 hb, quo_in a b ha]
  have e8 : opF 8 a b = a.tmod b := by
    rw [opF8, w32 ha, w32 hb, quo_in a b ha]
    have h1 : a - b * a.tdiv b = a.tmod b := by rw [Int.tmod_def]
    rw [h1]
    exact w32 (by omega)
  rw [e7, e8]
  refine ⟨?_, r1, r2, r3, r4, (w32_bd' _).1, (w32_bd' _).2⟩
  obtain ⟨k, hk⟩ := w32_dvd (a.tdiv b)
  refine ⟨b * k, ?_⟩
  have h2 := Int.mul_tdiv_add_tmod a b
  rw [hk, Int.mul_add, Int.mul_left_comm]
  omega

set_option maxRecDepth 100000 in
set_option maxHeartbeats 2000000 in
theorem div_walk0 (a : Int) (a1 : -2147483648 ≤ a) (a2 : a ≤ 2147483647) (w : World) :
    Calls Try.prog 5 #[.int .i32 a, .int .i32 0] w fun e w' => e = .returned (.bool true) ∧ Below w.heap.size w w' := by
  have e7 : opF 7 a 0 = 0 := by simp [opF7, quo, wrap32, wrap64]
  have e8 : opF 8 a 0 = a := by
    have h : opF 8 a 0 = wrap32 (wrap32 a) := by rw [opF8, show wrap32 0 = 0 by decide +kernel, Int.zero_mul, Int.sub_zero]
    rw [h, w32 (w32_bd' a), w32 ⟨a1, a2⟩]
  have c1 : ∀ W, Calls Try.prog 13 #[.int .i64 7, .int .i64 a, .int .i64 0] W fun e w' => e = .returned (.int .i64 0) ∧ Below W.heap.size W w' := fun W => by
    have h := op_any 7 a 0 W
    rwa [e7] at h
  have C1 := hid c1; clear c1
  have c2 : ∀ W, Calls Try.prog 13 #[.int .i64 8, .int .i64 a, .int .i64 0] W fun e w' => e = .returned (.int .i64 a) ∧ Below W.heap.size W w' := fun W => by
    have h := op_any 8 a 0 W
    rwa [e8] at h
  have C2 := hid c2; clear c2
  clear e7 e8
  go_enter Try.func5, Try.ntmps5
  go_wp2_with fail
  refine (examples_any _).mono ?_
  rintro e u1 ⟨rfl, hb⟩
  have B1 := hid hb; clear hb
  go_wp2_with fail
  refine (C1.out _).mono ?_
  rintro e u2 ⟨rfl, hb⟩
  have B2 := hid (below_step B1.out hb); clear hb
  go_wp2_with fail
  refine (C2.out _).mono ?_
  rintro e u3 ⟨rfl, hb⟩
  have B3 := hid (below_step B2.out hb); clear hb
  go_wp2
  go_ret
  exact ⟨rfl, B3.out⟩

set_option maxRecDepth 100000 in
set_option maxHeartbeats 2000000 in
theorem div_walk1 (a b : Int) (a1 : -2147483648 ≤ a) (a2 : a ≤ 2147483647) (b1 : -2147483648 ≤ b) (b2 : b ≤ 2147483647) (h0 : b ≠ 0) (w : World) :
    Calls Try.prog 5 #[.int .i32 a, .int .i32 b] w fun e w' => e = .returned (.bool true) ∧ Below w.heap.size w w' := by
  have hok := div_ok a b ⟨a1, a2⟩ ⟨b1, b2⟩ h0
  obtain ⟨q, hq⟩ : ∃ n, opF 7 a b = n := ⟨_, rfl⟩
  obtain ⟨r, hr⟩ : ∃ n, opF 8 a b = n := ⟨_, rfl⟩
  rw [hq, hr] at hok
  have c1 : ∀ W, Calls Try.prog 13 #[.int .i64 7, .int .i64 a, .int .i64 b] W fun e w' => e = .returned (.int .i64 q) ∧ Below W.heap.size W w' := fun W => by
    have h := op_any 7 a b W
    rwa [hq] at h
  have C1 := hid c1; clear c1
  have c2 : ∀ W, Calls Try.prog 13 #[.int .i64 8, .int .i64 a, .int .i64 b] W fun e w' => e = .returned (.int .i64 r) ∧ Below W.heap.size W w' := fun W => by
    have h := op_any 8 a b W
    rwa [hr] at h
  have C2 := hid c2; clear c2
  obtain ⟨g, s1, s2, s3, s4, q1, q2⟩ := hok
  obtain ⟨m1, m2⟩ := mul_bd b q b1 b2 q1 q2
  have r1 : -2147483648 ≤ r := by omega
  have r2 : r ≤ 2147483648 := by omega
  have K := hid (fun W => cong_any (b * q + r) a g (by omega) (by omega) W)
  have hb0 := ne_b h0
  clear hq hr g h0
  by_cases hs : 0 ≤ a
  · have hr0 : 0 ≤ r := s3 hs
    obtain ⟨mr, hmr⟩ : ∃ m, max r (-r) = m := ⟨_, rfl⟩
    obtain ⟨mb, hmb⟩ : ∃ m, max b (-b) = m := ⟨_, rfl⟩
    obtain ⟨ma, hma⟩ : ∃ m, max a (-a) = m := ⟨_, rfl⟩
    clear hmr hmb hma
    clear s3 s4
    by_cases hbs : 0 ≤ b
    all_goals
      go_enter Try.func5, Try.ntmps5
      go_wp2_with fail
      refine (examples_any _).mono ?_
      rintro e u1 ⟨rfl, hb⟩
      have B1 := hid hb; clear hb
      go_wp2_with fail
      refine (C1.out _).mono ?_
      rintro e u2 ⟨rfl, hb⟩
      have B2 := hid (below_step B1.out hb); clear hb
      go_wp2_with fail
      refine (C2.out _).mono ?_
      rintro e u3 ⟨rfl, hb⟩
      have B3 := hid (below_step B2.out hb); clear hb
      go_wp2_with fail
      refine (K.out _).mono ?_
      rintro e u ⟨rfl, rfl⟩
      go_wp2
      all_goals
        go_ret
        exact ⟨by simp; try omega, B3.out⟩
  · have hr0 : r ≤ 0 := s4 (by omega)
    obtain ⟨mr, hmr⟩ : ∃ m, max r (-r) = m := ⟨_, rfl⟩
    obtain ⟨mb, hmb⟩ : ∃ m, max b (-b) = m := ⟨_, rfl⟩
    obtain ⟨ma, hma⟩ : ∃ m, max a (-a) = m := ⟨_, rfl⟩
    clear hmr hmb hma
    clear s3 s4
    by_cases hbs : 0 ≤ b
    all_goals
      go_enter Try.func5, Try.ntmps5
      go_wp2_with fail
      refine (examples_any _).mono ?_
      rintro e u1 ⟨rfl, hb⟩
      have B1 := hid hb; clear hb
      go_wp2_with fail
      refine (C1.out _).mono ?_
      rintro e u2 ⟨rfl, hb⟩
      have B2 := hid (below_step B1.out hb); clear hb
      go_wp2_with fail
      refine (C2.out _).mono ?_
      rintro e u3 ⟨rfl, hb⟩
      have B3 := hid (below_step B2.out hb); clear hb
      go_wp2_with fail
      refine (K.out _).mono ?_
      rintro e u ⟨rfl, rfl⟩
      go_wp2
      all_goals
        go_ret
        exact ⟨by simp; try omega, B3.out⟩

theorem div_walk (a : Int) (wa : (Lit.int .i32 a).wf = true) (b : Int) (wb : (Lit.int .i32 b).wf = true) (w : World) :
    Calls Try.prog 5 #[.int .i32 a, .int .i32 b] w fun e w' => e = .returned (.bool true) ∧ Below w.heap.size w w' := by
  by_cases h : b = 0
  · subst h
    exact div_walk0 a (bd32 wa).1 (bd32 wa).2 w
  · exact div_walk1 a b (bd32 wa).1 (bd32 wa).2 (bd32 wb).1 (bd32 wb).2 h w

/-! ### THE ROW's STEP -/
set_option maxRecDepth 100000 in
theorem liftedNumDivides (os : Os) (started : os.Started) (H : Type) (enc : TypeId × Value → H) :
    ReturnsInHanded {} Try.checked os 5 .any (Rows.numDividesSpec.pre6 enc Try.prog Try.f5 Rows.numDividesRow.domain false) (Rows.numDividesSpec.post enc Try.prog Try.f5 false true false false) := by
  refine returnsInHanded_of_change (C := Try.checked) own started (by kernel_rfl) Try.func5
    (ChangeSpec.witness6 (enc := enc) (C := Try.checked) false ⟨#[], #[.int .i32 0, .int .i32 0], []⟩ 8 (by kernel_rfl) (by kernel_rfl) (by kernel_rfl) (by kernel_rfl)) ?_
  intro W base args ds gs before hval0 hW hcnd _
  have hval : ∀ (j : Nat) t v, Try.f5.params[j]? = some t → args[j]? = some v → Value.okWide Try.prog W .any base t v := hval0
  have hW' := hW
  obtain ⟨p, q, hA0, hV, rfl, hfz, hnd⟩ := hW
  have hA : DataW.TrodAll enc Try.prog W 0 (fun _ => true) true Try.f5.params.toList args.toList ds p := hA0
  rw [Try.params5] at hA hval
  obtain ⟨v0, vs0, d0, ds0, p0, q0, hargs, rfl, rfl, h0, r0⟩ := trodAll_cons hA
  obtain ⟨v1, vs1, d1, ds1, p1, q1, rfl, rfl, rfl, h1, r1⟩ := trodAll_cons r0
  obtain ⟨rfl, rfl, rfl⟩ := trodAll_nil r1
  obtain rfl : args = #[v0, v1] := by cases args; simp_all
  obtain ⟨rfl, rfl⟩ := trodVars_none hV
  obtain ⟨a0, rfl, rfl, rfl, w0⟩ := open_int Try.underlying21 (hval 0 21 v0 rfl rfl) h0
  obtain ⟨a1, rfl, rfl, rfl, w1⟩ := open_int Try.underlying21 (hval 1 21 v1 rfl rfl) h1
  clear hA0 hval0
  refine (div_walk a0 w0 a1 w1 W).mono fun e W' ⟨he, hg⟩ => ?_
  subst he
  exact ⟨_, rfl, post_true (T := 4) (by kernel_rfl) (by kernel_rfl) rfl rfl (by kernel_rfl) hW' hg rfl⟩

theorem numDivides_holds : Rows.NumDividesSaid :=
  OpenClaim.holds_of_wide 5 Try.f5 rfl rfl rfl rfl rfl rfl rfl ⟨rfl, rfl, rfl, rfl, rfl⟩ rfl rfl rfl rfl rfl (by kernel_rfl) Try.func5 (by kernel_rfl)
    (of_decide_eq_true (by kernel_rfl)) (by unfold Func.isWrapper; rw [if_neg (of_decide_eq_false (by kernel_rfl))]; exact ⟨rfl, rfl⟩)
    (fun os started H enc _ => liftedNumDivides os started H enc)
end Go.Proofs.Ytpncjepigcnfeaa

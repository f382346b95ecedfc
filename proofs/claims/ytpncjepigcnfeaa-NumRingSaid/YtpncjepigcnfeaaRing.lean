/-
  The law NumRing of package num holds: sums and products are congruent to those of integers, and obey the laws of a commutative ring.
  No condition: every input that the row speaks of.
-/
import Derived.Test.YtpncjepigcnfeaaPl
namespace Go.Proofs.Ytpncjepigcnfeaa
open Go.ChangeShapes Go.WideShapes Go.ChangeAt Go.RowKit
set_option maxRecDepth 100000 in
set_option maxHeartbeats 2000000 in
theorem ring_walk (a : Int) (wa : (Lit.int .i32 a).wf = true) (b : Int) (wb : (Lit.int .i32 b).wf = true) (c : Int) (wc : (Lit.int .i32 c).wf = true) (w : World) :
    Calls Try.prog 4 #[.int .i32 a, .int .i32 b, .int .i32 c] w fun e w' => e = .returned (.bool true) ∧ Below w.heap.size w w' := by
  obtain ⟨a1, a2⟩ := bd32 wa
  obtain ⟨b1, b2⟩ := bd32 wb
  obtain ⟨c1, c2⟩ := bd32 wc
  have ha := w32 ⟨a1, a2⟩
  have hb := w32 ⟨b1, b2⟩
  have hc := w32 ⟨c1, c2⟩
  clear wa wb wc
  have m1 : -4611686018427387904 ≤ a * b ∧ a * b ≤ 4611686018427387904 := mul_bd a b a1 a2 b1 b2
  obtain ⟨m2, m3⟩ := m1
  obtain ⟨s, hs⟩ : ∃ n, opF 4 a b = n := ⟨_, rfl⟩
  obtain ⟨p, hp⟩ : ∃ n, opF 6 a b = n := ⟨_, rfl⟩
  obtain ⟨d, hd⟩ : ∃ n, opF 5 a b = n := ⟨_, rfl⟩
  obtain ⟨x, hx⟩ : ∃ n, opF 4 s c = n := ⟨_, rfl⟩
  obtain ⟨y, hy⟩ : ∃ n, opF 4 b c = n := ⟨_, rfl⟩
  obtain ⟨z, hz⟩ : ∃ n, opF 6 p c = n := ⟨_, rfl⟩
  obtain ⟨u, hu⟩ : ∃ n, opF 6 b c = n := ⟨_, rfl⟩
  obtain ⟨q, hq⟩ : ∃ n, opF 6 s c = n := ⟨_, rfl⟩
  obtain ⟨t, ht⟩ : ∃ n, opF 6 a c = n := ⟨_, rfl⟩
  have es : s = wrap32 (a + b) := by rw [← hs, opF4, ha, hb]
  have ep : p = wrap32 (a * b) := by rw [← hp, opF6, ha, hb]
  have ed : d = wrap32 (a - b) := by rw [← hd, opF5, ha, hb]
  have ey : y = wrap32 (b + c) := by rw [← hy, opF4, hb, hc]
  have eu : u = wrap32 (b * c) := by rw [← hu, opF6, hb, hc]
  have et : t = wrap32 (a * c) := by rw [← ht, opF6, ha, hc]
  have ws : wrap32 s = s := by rw [es]; exact w32 (w32_bd' _)
  have wp : wrap32 p = p := by rw [ep]; exact w32 (w32_bd' _)
  have wd : wrap32 d = d := by rw [ed]; exact w32 (w32_bd' _)
  have wy : wrap32 y = y := by rw [ey]; exact w32 (w32_bd' _)
  have wu : wrap32 u = u := by rw [eu]; exact w32 (w32_bd' _)
  have wt : wrap32 t = t := by rw [et]; exact w32 (w32_bd' _)
  have f1 : opF 4 a y = x := by rw [opF4, ← hx, opF4, ha, wy, ws, hc, es, ey, add_assoc32]
  have f2 : opF 6 a u = z := by rw [opF6, ← hz, opF6, ha, wu, wp, hc, ep, eu, mul_assoc32]
  have f3 : opF 4 b a = s := by rw [opF4, es, ha, hb, Int.add_comm]
  have f4 : opF 6 b a = p := by rw [opF6, ep, ha, hb, Int.mul_comm]
  have f5 : opF 4 t u = q := by rw [opF4, ← hq, opF6, wt, wu, ws, hc, es, et, eu, dist32]
  have f6 : opF 4 d b = a := by rw [opF4, wd, hb, ed, sub_add32 a b ⟨a1, a2⟩]
  have g1 : ∃ k, s = a + b + 4294967296 * k := by rw [es]; exact w32_dvd _
  have g2 : ∃ k, p = a * b + 4294967296 * k := by rw [ep]; exact w32_dvd _
  have g3 : ∃ k, d = a - b + 4294967296 * k := by rw [ed]; exact w32_dvd _
  have s1 : -2147483648 ≤ s := by rw [es]; exact (w32_bd' _).1
  have s2 : s ≤ 2147483647 := by rw [es]; exact (w32_bd' _).2
  have p1 : -2147483648 ≤ p := by rw [ep]; exact (w32_bd' _).1
  have p2 : p ≤ 2147483647 := by rw [ep]; exact (w32_bd' _).2
  have d1 : -2147483648 ≤ d := by rw [ed]; exact (w32_bd' _).1
  have d2 : d ≤ 2147483647 := by rw [ed]; exact (w32_bd' _).2
  have K1 := hid (fun W => cong_any s (a + b) g1 (by omega) (by omega) W)
  have K2 := hid (fun W => cong_any p (a * b) g2 (by omega) (by omega) W)
  have K3 := hid (fun W => cong_any d (a - b) g3 (by omega) (by omega) W)
  have c1 : ∀ W, Calls Try.prog 13 #[.int .i64 4, .int .i64 a, .int .i64 b] W fun e w' => e = .returned (.int .i64 s) ∧ Below W.heap.size W w' := fun W => by
    have h := op_any 4 a b W
    rwa [hs] at h
  have C1 := hid c1; clear c1
  have c2 : ∀ W, Calls Try.prog 13 #[.int .i64 6, .int .i64 a, .int .i64 b] W fun e w' => e = .returned (.int .i64 p) ∧ Below W.heap.size W w' := fun W => by
    have h := op_any 6 a b W
    rwa [hp] at h
  have C2 := hid c2; clear c2
  have c3 : ∀ W, Calls Try.prog 13 #[.int .i64 5, .int .i64 a, .int .i64 b] W fun e w' => e = .returned (.int .i64 d) ∧ Below W.heap.size W w' := fun W => by
    have h := op_any 5 a b W
    rwa [hd] at h
  have C3 := hid c3; clear c3
  have c4 : ∀ W, Calls Try.prog 13 #[.int .i64 4, .int .i64 s, .int .i64 c] W fun e w' => e = .returned (.int .i64 x) ∧ Below W.heap.size W w' := fun W => by
    have h := op_any 4 s c W
    rwa [hx] at h
  have C4 := hid c4; clear c4
  have c5 : ∀ W, Calls Try.prog 13 #[.int .i64 4, .int .i64 b, .int .i64 c] W fun e w' => e = .returned (.int .i64 y) ∧ Below W.heap.size W w' := fun W => by
    have h := op_any 4 b c W
    rwa [hy] at h
  have C5 := hid c5; clear c5
  have c6 : ∀ W, Calls Try.prog 13 #[.int .i64 4, .int .i64 a, .int .i64 y] W fun e w' => e = .returned (.int .i64 x) ∧ Below W.heap.size W w' := fun W => by
    have h := op_any 4 a y W
    rwa [f1] at h
  have C6 := hid c6; clear c6
  have c7 : ∀ W, Calls Try.prog 13 #[.int .i64 6, .int .i64 p, .int .i64 c] W fun e w' => e = .returned (.int .i64 z) ∧ Below W.heap.size W w' := fun W => by
    have h := op_any 6 p c W
    rwa [hz] at h
  have C7 := hid c7; clear c7
  have c8 : ∀ W, Calls Try.prog 13 #[.int .i64 6, .int .i64 b, .int .i64 c] W fun e w' => e = .returned (.int .i64 u) ∧ Below W.heap.size W w' := fun W => by
    have h := op_any 6 b c W
    rwa [hu] at h
  have C8 := hid c8; clear c8
  have c9 : ∀ W, Calls Try.prog 13 #[.int .i64 6, .int .i64 a, .int .i64 u] W fun e w' => e = .returned (.int .i64 z) ∧ Below W.heap.size W w' := fun W => by
    have h := op_any 6 a u W
    rwa [f2] at h
  have C9 := hid c9; clear c9
  have c10 : ∀ W, Calls Try.prog 13 #[.int .i64 4, .int .i64 b, .int .i64 a] W fun e w' => e = .returned (.int .i64 s) ∧ Below W.heap.size W w' := fun W => by
    have h := op_any 4 b a W
    rwa [f3] at h
  have C10 := hid c10; clear c10
  have c11 : ∀ W, Calls Try.prog 13 #[.int .i64 6, .int .i64 b, .int .i64 a] W fun e w' => e = .returned (.int .i64 p) ∧ Below W.heap.size W w' := fun W => by
    have h := op_any 6 b a W
    rwa [f4] at h
  have C11 := hid c11; clear c11
  have c12 : ∀ W, Calls Try.prog 13 #[.int .i64 6, .int .i64 s, .int .i64 c] W fun e w' => e = .returned (.int .i64 q) ∧ Below W.heap.size W w' := fun W => by
    have h := op_any 6 s c W
    rwa [hq] at h
  have C12 := hid c12; clear c12
  have c13 : ∀ W, Calls Try.prog 13 #[.int .i64 6, .int .i64 a, .int .i64 c] W fun e w' => e = .returned (.int .i64 t) ∧ Below W.heap.size W w' := fun W => by
    have h := op_any 6 a c W
    rwa [ht] at h
  have C13 := hid c13; clear c13
  have c14 : ∀ W, Calls Try.prog 13 #[.int .i64 4, .int .i64 t, .int .i64 u] W fun e w' => e = .returned (.int .i64 q) ∧ Below W.heap.size W w' := fun W => by
    have h := op_any 4 t u W
    rwa [f5] at h
  have C14 := hid c14; clear c14
  have c15 : ∀ W, Calls Try.prog 13 #[.int .i64 4, .int .i64 d, .int .i64 b] W fun e w' => e = .returned (.int .i64 a) ∧ Below W.heap.size W w' := fun W => by
    have h := op_any 4 d b W
    rwa [f6] at h
  have C15 := hid c15; clear c15
  clear es ep ed ey eu et ws wp wd wy wu wt f1 f2 f3 f4 f5 f6 g1 g2 g3 hs hp hd hx hy hz hu hq ht ha hb hc
  clear d1 d2
  go_enter Try.func4, Try.ntmps4
  go_wp2_with fail
  refine (examples_any _).mono ?_
  rintro e u1 ⟨rfl, hb⟩
  have B1 := hid hb; clear hb
  go_wp2_with fail
  refine (C1.out _).mono ?_
  rintro e u2 ⟨rfl, hb⟩
  have B2 := hid (below_step B1.out hb); clear hb
  go_wp2_with fail
  refine (C2.out _).mono ?_
  rintro e u3 ⟨rfl, hb⟩
  have B3 := hid (below_step B2.out hb); clear hb
  go_wp2_with fail
  refine (K1.out _).mono ?_
  rintro e u ⟨rfl, rfl⟩
  go_wp2_with fail
  refine (K2.out _).mono ?_
  rintro e u ⟨rfl, rfl⟩
  go_wp2_with fail
  refine (C3.out _).mono ?_
  rintro e u4 ⟨rfl, hb⟩
  have B4 := hid (below_step B3.out hb); clear hb
  go_wp2_with fail
  refine (K3.out _).mono ?_
  rintro e u ⟨rfl, rfl⟩
  go_wp2_with fail
  refine (C4.out _).mono ?_
  rintro e u5 ⟨rfl, hb⟩
  have B5 := hid (below_step B4.out hb); clear hb
  go_wp2_with fail
  refine (C5.out _).mono ?_
  rintro e u6 ⟨rfl, hb⟩
  have B6 := hid (below_step B5.out hb); clear hb
  go_wp2_with fail
  refine (C6.out _).mono ?_
  rintro e u7 ⟨rfl, hb⟩
  have B7 := hid (below_step B6.out hb); clear hb
  go_wp2_with fail
  refine (C7.out _).mono ?_
  rintro e u8 ⟨rfl, hb⟩
  have B8 := hid (below_step B7.out hb); clear hb
  go_wp2_with fail
  refine (C8.out _).mono ?_
  rintro e u9 ⟨rfl, hb⟩
  have B9 := hid (below_step B8.out hb); clear hb
  go_wp2_with fail
  refine (C9.out _).mono ?_
  rintro e u10 ⟨rfl, hb⟩
  have B10 := hid (below_step B9.out hb); clear hb
  go_wp2_with fail
  refine (C10.out _).mono ?_
  rintro e u11 ⟨rfl, hb⟩
  have B11 := hid (below_step B10.out hb); clear hb
  go_wp2_with fail
  refine (C11.out _).mono ?_
  rintro e u12 ⟨rfl, hb⟩
  have B12 := hid (below_step B11.out hb); clear hb
  go_wp2_with fail
  refine (C12.out _).mono ?_
  rintro e u13 ⟨rfl, hb⟩
  have B13 := hid (below_step B12.out hb); clear hb
  go_wp2_with fail
  refine (C13.out _).mono ?_
  rintro e u14 ⟨rfl, hb⟩
  have B14 := hid (below_step B13.out hb); clear hb
  go_wp2_with fail
  refine (C8.out _).mono ?_
  rintro e u15 ⟨rfl, hb⟩
  have B15 := hid (below_step B14.out hb); clear hb
  go_wp2_with fail
  refine (C14.out _).mono ?_
  rintro e u16 ⟨rfl, hb⟩
  have B16 := hid (below_step B15.out hb); clear hb
  go_wp2_with fail
  refine (C3.out _).mono ?_
  rintro e u17 ⟨rfl, hb⟩
  have B17 := hid (below_step B16.out hb); clear hb
  go_wp2_with fail
  refine (C15.out _).mono ?_
  rintro e u18 ⟨rfl, hb⟩
  have B18 := hid (below_step B17.out hb); clear hb
  go_wp2
  go_ret
  exact ⟨rfl, B18.out⟩

/-! ### THE ROW's STEP -/
set_option maxRecDepth 100000 in
theorem liftedNumRing (os : Os) (started : os.Started) (H : Type) (enc : TypeId × Value → H) :
    ReturnsInHanded {} Try.checked os 4 .any (Rows.numRingSpec.pre6 enc Try.prog Try.f4 Rows.numRingRow.domain false) (Rows.numRingSpec.post enc Try.prog Try.f4 false true false false) := by
  refine returnsInHanded_of_change (C := Try.checked) own started (by kernel_rfl) Try.func4
    (ChangeSpec.witness6 (enc := enc) (C := Try.checked) false ⟨#[], #[.int .i32 0, .int .i32 0, .int .i32 0], []⟩ 8 (by kernel_rfl) (by kernel_rfl) (by kernel_rfl) (by kernel_rfl)) ?_
  intro W base args ds gs before hval0 hW hcnd _
  have hval : ∀ (j : Nat) t v, Try.f4.params[j]? = some t → args[j]? = some v → Value.okWide Try.prog W .any base t v := hval0
  have hW' := hW
  obtain ⟨p, q, hA0, hV, rfl, hfz, hnd⟩ := hW
  have hA : DataW.TrodAll enc Try.prog W 0 (fun _ => true) true Try.f4.params.toList args.toList ds p := hA0
  rw [Try.params4] at hA hval
  obtain ⟨v0, vs0, d0, ds0, p0, q0, hargs, rfl, rfl, h0, r0⟩ := trodAll_cons hA
  obtain ⟨v1, vs1, d1, ds1, p1, q1, rfl, rfl, rfl, h1, r1⟩ := trodAll_cons r0
  obtain ⟨v2, vs2, d2, ds2, p2, q2, rfl, rfl, rfl, h2, r2⟩ := trodAll_cons r1
  obtain ⟨rfl, rfl, rfl⟩ := trodAll_nil r2
  obtain rfl : args = #[v0, v1, v2] := by cases args; simp_all
  obtain ⟨rfl, rfl⟩ := trodVars_none hV
  obtain ⟨a0, rfl, rfl, rfl, w0⟩ := open_int Try.underlying21 (hval 0 21 v0 rfl rfl) h0
  obtain ⟨a1, rfl, rfl, rfl, w1⟩ := open_int Try.underlying21 (hval 1 21 v1 rfl rfl) h1
  obtain ⟨a2, rfl, rfl, rfl, w2⟩ := open_int Try.underlying21 (hval 2 21 v2 rfl rfl) h2
  clear hA0 hval0
  refine (ring_walk a0 w0 a1 w1 a2 w2 W).mono fun e W' ⟨he, hg⟩ => ?_
  subst he
  exact ⟨_, rfl, post_true (T := 4) (by kernel_rfl) (by kernel_rfl) rfl rfl (by kernel_rfl) hW' hg rfl⟩

theorem numRing_holds : Rows.NumRingSaid :=
  OpenClaim.holds_of_wide 4 Try.f4 rfl rfl rfl rfl rfl rfl rfl ⟨rfl, rfl, rfl, rfl, rfl⟩ rfl rfl rfl rfl rfl (by kernel_rfl) Try.func4 (by kernel_rfl)
    (of_decide_eq_true (by kernel_rfl)) (by unfold Func.isWrapper; rw [if_neg (of_decide_eq_false (by kernel_rfl))]; exact ⟨rfl, rfl⟩)
    (fun os started H enc _ => liftedNumRing os started H enc)
end Go.Proofs.Ytpncjepigcnfeaa

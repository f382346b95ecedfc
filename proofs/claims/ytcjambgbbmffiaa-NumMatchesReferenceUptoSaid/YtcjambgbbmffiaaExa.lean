import Derived.Test.YtcjambgbbmffiaaTwo
namespace Go.Proofs.Ytcjambgbbmffiaa
open Go.RowKit Go.Instr
set_option linter.unusedVariables false

/-! 'parolelaw01.examples': the fixed calls that each law asks first. -/
def exTree : Ex := .mk 4 0 0 [.mk 1 0 1 [], .mk 4 0 0 [.mk 1 0 2 [], .mk 1 0 3 []]]
theorem exTree_depth : depthE exTree = 3 := by decide +kernel
theorem exTree_eval : evalE [] [] exTree = 6 := by decide +kernel
theorem nil_ints (w : World) : intsIn w [] (.slice none 0 0) := ⟨none, 0, rfl, Nat.le_refl _, by omega, fun i hi => absurd hi (by simp)⟩
theorem true_in (w : World) : cdIn w (.mk 1 [] []) (.agg #[.int .i64 1, .slice none 0 0, .slice none 0 0]) := by
  rw [cdIn]
  exact ⟨none, none, 0, 0, rfl, Nat.le_refl _, by omega, by rw [exsIn]; trivial, Nat.le_refl _, by omega, by rw [cdsIn]; trivial⟩
theorem true_holds : holdsC [] [] (.mk 1 [] []) = true := by decide +kernel
theorem op1 : opF 4 2147483647 1 = -2147483648 := by decide +kernel
theorem op2 : opF 7 (-7) 2 = -3 := by decide +kernel
theorem op3 : opF 8 (-7) 2 = -1 := by decide +kernel
theorem op4 : opF 7 (-2147483648) (-1) = -2147483648 := by decide +kernel
theorem op5 : opF 8 (-2147483648) (-1) = 0 := by decide +kernel
theorem wr1 : wrap32 4294967301 = 5 := by decide +kernel

theorem exo1 (w : World) : Calls Try.prog 8 #[.int .i64 4, .int .i64 (2147483647), .int .i64 (1)] w fun e w' => e = .returned (.int .i64 (-2147483648)) ∧ Below w.heap.size w w' := by
  have h := op_any 4 (2147483647) (1) w
  rwa [op1] at h
theorem exo2 (w : World) : Calls Try.prog 8 #[.int .i64 7, .int .i64 (-7), .int .i64 (2)] w fun e w' => e = .returned (.int .i64 (-3)) ∧ Below w.heap.size w w' := by
  have h := op_any 7 (-7) (2) w
  rwa [op2] at h
theorem exo3 (w : World) : Calls Try.prog 8 #[.int .i64 8, .int .i64 (-7), .int .i64 (2)] w fun e w' => e = .returned (.int .i64 (-1)) ∧ Below w.heap.size w w' := by
  have h := op_any 8 (-7) (2) w
  rwa [op3] at h
theorem exo4 (w : World) : Calls Try.prog 8 #[.int .i64 7, .int .i64 (-2147483648), .int .i64 (-1)] w fun e w' => e = .returned (.int .i64 (-2147483648)) ∧ Below w.heap.size w w' := by
  have h := op_any 7 (-2147483648) (-1) w
  rwa [op4] at h
theorem exo5 (w : World) : Calls Try.prog 8 #[.int .i64 8, .int .i64 (-2147483648), .int .i64 (-1)] w fun e w' => e = .returned (.int .i64 (0)) ∧ Below w.heap.size w w' := by
  have h := op_any 8 (-2147483648) (-1) w
  rwa [op5] at h
theorem below_step {w w1 w2 : World} (h : Below w.heap.size w w1) (k : Below w1.heap.size w1 w2) : Below w.heap.size w w2 := h.trans (k.mono h.size)

set_option maxRecDepth 100000 in
set_option maxHeartbeats 1000000 in
theorem examples_any (w : World) : Calls Try.prog 5 #[] w fun e w' => e = .returned (.bool true) ∧ Below w.heap.size w w' := by
  go_enter Try.func5, Try.ntmps5
  go_wp2_with fail
  refine (num_any 1 _).mono ?_
  rintro e w1 ⟨rfl, hb1⟩
  have H1 := hid hb1; clear hb1
  go_wp2_with fail
  refine (num_any 2 _).mono ?_
  rintro e w2 ⟨rfl, hb2⟩
  have H2 := hid (H1.out.trans (hb2.mono H1.out.size)); clear hb2
  go_wp2_with fail
  refine (num_any 3 _).mono ?_
  rintro e w3 ⟨rfl, hb3⟩
  have H3 := hid (H2.out.trans (hb3.mono H2.out.size)); clear hb3
  go_wp2_with fail
  refine (two_any 4 1 0 2 1 0 3 none none 0 0 0 0 (.mk 1 0 2 []) (.mk 1 0 3 []) _ (num_in _ _) (num_in _ _)).mono ?_
  rintro e w4 ⟨b4, rfl, hb4, hin4⟩
  have H4 := hid (H3.out.trans (hb4.mono H3.out.size)); clear hb4
  have I4 := hid hin4; clear hin4
  go_wp2_with fail
  refine (two_any 4 1 0 1 4 0 0 none (some ⟨b4, 0, none⟩) 0 0 2 2 (.mk 1 0 1 []) (.mk 4 0 0 [.mk 1 0 2 [], .mk 1 0 3 []]) _ (num_in _ _) I4.out).mono ?_
  rintro e w5 ⟨b5, rfl, hb5, hin5⟩
  have H5 := hid (H4.out.trans (hb5.mono H4.out.size)); clear hb5
  have I5 := hid hin5; clear hin5
  go_wp2_with fail
  refine (exo1 _).mono ?_
  rintro e w6 ⟨rfl, hb6⟩
  have d0 : w6.cell? ⟨w5.heap.size, 0, none⟩ = some (.int .i64 4) := cell_below hb6 (by simp [go_sem])
  have d1 : w6.cell? ⟨w5.heap.size, 1, none⟩ = some (.int .i64 0) := cell_below hb6 (by simp [go_sem])
  have d2 : w6.cell? ⟨w5.heap.size, 2, none⟩ = some (.int .i64 0) := cell_below hb6 (by simp [go_sem])
  have d3 : w6.cell? ⟨w5.heap.size, 3, none⟩ = some (.slice (some ⟨b5, 0, none⟩) 2 2) := cell_below hb6 (by simp [go_sem])
  have ha : Below w5.heap.size w5 w6 := below_step ((Below.refl _ _).alloc (Nat.le_refl _) _) hb6
  have D0 := hid d0; clear d0
  have D1 := hid d1; clear d1
  have D2 := hid d2; clear d2
  have D3 := hid d3; clear d3
  have I6 := hid (exIn_below ha _ _ I5.out)
  have H6 := hid (below_step H5.out ha); clear hb6 ha
  go_wp2_with fail
  refine (exo2 _).mono ?_
  rintro e w7 ⟨rfl, hb⟩
  have B7 := hid hb
  have H7 := hid (below_step H6.out hb); clear hb
  go_wp2_with fail
  refine (exo3 _).mono ?_
  rintro e w8 ⟨rfl, hb⟩
  have B8 := hid (below_step B7.out hb)
  have H8 := hid (below_step H7.out hb); clear hb
  go_wp2_with fail
  refine (exo4 _).mono ?_
  rintro e w9 ⟨rfl, hb⟩
  have B9 := hid (below_step B8.out hb)
  have H9 := hid (below_step H8.out hb); clear hb
  go_wp2_with fail
  refine (exo5 _).mono ?_
  rintro e w10 ⟨rfl, hb⟩
  have B10 := hid (below_step B9.out hb)
  have H10 := hid (below_step H9.out hb); clear hb
  have d0 := cell_below B10.out D0.out
  have d1 := cell_below B10.out D1.out
  have d2 := cell_below B10.out D2.out
  have d3 := cell_below B10.out D3.out
  go_wp2_with fail
  refine (depth_any exTree _ _ (exIn_below B10.out _ _ I6.out)).mono ?_
  rw [exTree_depth]
  rintro e w11 ⟨rfl, hb⟩
  have B11 := hid (below_step B10.out hb)
  have H11 := hid (below_step H10.out hb); clear hb d0 d1 d2 d3
  have d0 := cell_below B11.out D0.out
  have d1 := cell_below B11.out D1.out
  have d2 := cell_below B11.out D2.out
  have d3 := cell_below B11.out D3.out
  go_wp2_with fail
  refine (eval_any [] [] exTree _ _ _ _ (exIn_below B11.out _ _ I6.out) (nil_ints _) (nil_ints _)).mono ?_
  rw [exTree_eval]
  rintro e w12 ⟨rfl, hb⟩
  have H12 := hid (below_step H11.out hb); clear hb d0 d1 d2 d3
  go_wp2_with fail
  refine (holds_any [] [] (.mk 1 [] []) _ _ _ _ (true_in _) (nil_ints _) (nil_ints _)).mono ?_
  rw [true_holds]
  rintro e w13 ⟨rfl, hb⟩
  have H13 := hid (below_step H12.out hb); clear hb
  go_wp2_with fail
  refine (wrap_any _ _).mono ?_
  rw [wr1]
  rintro e w14 ⟨rfl, rfl⟩
  go_wp2
  go_ret
  exact ⟨rfl, H13.out⟩
end Go.Proofs.Ytcjambgbbmffiaa

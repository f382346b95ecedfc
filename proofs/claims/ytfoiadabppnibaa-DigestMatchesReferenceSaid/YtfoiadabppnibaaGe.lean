import Derived.Test.YtfoiadabppnibaaGt
namespace Go.Proofs.Ytfoiadabppnibaa
open Go.RowKit Go.Instr
set_option linter.unusedVariables false

/-! The fixed calls. -/
theorem x1 (w : World) : Calls Try.prog 17 #[.int .u64 7, .int .u64 7] w fun e w' => e = .returned (.int .u64 0) ∧ w = w' := by
  have := step_any 7#64 7#64 w
  rw [show stepB 7#64 7#64 = 0#64 by decide] at this
  exact this
theorem x2 (w : World) : Calls Try.prog 19 #[.int .u64 7, .int .u64 0] w fun e w' => e = .returned (.int .u64 7) ∧ Below w.heap.size w w' := by
  have := back_any 7#64 0#64 w
  rw [show backB 7#64 0#64 = 7#64 by decide] at this
  exact this
theorem x3 (w : World) : Calls Try.prog 17 #[.int .u64 0, .int .u64 1] w fun e w' => e = .returned (.int .u64 14555800124870461561) ∧ w = w' := by
  have := step_any 0#64 1#64 w
  rw [show stepB 0#64 1#64 = 14555800124870461561#64 by decide] at this
  exact this
theorem x4 (w : World) : Calls Try.prog 21 #[.int .u64 255] w fun e w' => e = .returned (.string ⟨#[48, 48, 48, 48, 48, 48, 48, 48, 48, 48, 48, 48, 48, 48, 102, 102]⟩) ∧ Below w.heap.size w w' := by
  have := text_any 255 (by omega) w
  rw [show textN 255 16 = [48, 48, 48, 48, 48, 48, 48, 48, 48, 48, 48, 48, 48, 48, 102, 102] by decide] at this
  exact this
theorem x5 (w : World) : Calls Try.prog 23 #[.string ⟨#[48, 48, 48, 48, 48, 48, 48, 48, 48, 48, 48, 48, 48, 48, 102, 102]⟩] w fun e w' => e = .returned (.agg #[.int .u64 255, .int .i64 0]) ∧ Below w.heap.size w w' := by
  have := parsed_any ⟨#[48, 48, 48, 48, 48, 48, 48, 48, 48, 48, 48, 48, 48, 48, 102, 102]⟩ w
  rw [show parN _ = 255 by decide, show parE _ = 0 by decide] at this
  exact this
theorem x6 (w : World) : Calls Try.prog 23 #[.string ⟨#[102, 102]⟩] w fun e w' => e = .returned (.agg #[.int .u64 0, .int .i64 3]) ∧ Below w.heap.size w w' := by
  have := parsed_any ⟨#[102, 102]⟩ w
  rw [show parN _ = 0 by decide, show parE _ = 3 by decide] at this
  exact this
theorem x7 (w : World) : Calls Try.prog 23 #[.string ⟨#[]⟩] w fun e w' => e = .returned (.agg #[.int .u64 0, .int .i64 3]) ∧ Below w.heap.size w w' := by
  have := parsed_any ⟨#[]⟩ w
  rw [show parN _ = 0 by decide, show parE _ = 3 by decide] at this
  exact this
theorem field_e (N E : Int) (w : World) : (Instr.field 32 (.agg #[.int .u64 N, .int .i64 E]) 1).run Try.prog w = .ok (.int .i64 E) w := by kernel_rfl
theorem field_x (N E : Int) (w : World) : (Instr.field 32 (.agg #[.int .u64 N, .int .i64 E]) 0).run Try.prog w = .ok (.int .u64 N) w := by kernel_rfl
set_option maxHeartbeats 4000000 in
set_option maxRecDepth 100000 in
theorem examples_any (w : World) : Calls Try.prog 10 #[] w fun e w' => e = .returned (.bool true) ∧ Below w.heap.size w w' := by
  have fe := field_e
  go_enter Try.func10, Try.ntmps10
  go_wp2_with fail
  refine (x1 _).mono ?_
  rintro e w1 ⟨rfl, rfl⟩
  go_wp2_with fail
  refine (x2 _).mono ?_
  rintro e w2 ⟨rfl, hb⟩
  have B2 := hid hb; clear hb
  go_wp2_with fail
  refine (x3 _).mono ?_
  rintro e w3 ⟨rfl, rfl⟩
  go_wp2_with fail
  refine (x4 _).mono ?_
  rintro e w4 ⟨rfl, hb⟩
  have B4 := hid (below_step B2.out hb); clear hb
  go_wp2_with fail
  refine (x5 _).mono ?_
  rintro e w5 ⟨rfl, hb⟩
  have B5 := hid (below_step B4.out hb); clear hb
  go_wp2_with fail
  refine (x6 _).mono ?_
  rintro e w6 ⟨rfl, hb⟩
  have B6 := hid (below_step B5.out hb); clear hb
  go_wp2_with fail
  refine (x7 _).mono ?_
  rintro e w7 ⟨rfl, hb⟩
  have B7 := hid (below_step B6.out hb); clear hb
  go_wp2_with fail
  go_ret
  exact ⟨rfl, B7.out⟩
end Go.Proofs.Ytfoiadabppnibaa

/-
  The law GapAssumes of package gap holds: values within that satisfy the condition stay within after Assume, and Assume's answer is within the gaps that it was given.
  No condition: every input that the row speaks of.
-/
import Derived.Test.YtpfcfaakdhamlaaJaw
import Derived.Test.YtpfcfaakdhamlaaJop2
namespace Go.Proofs.Ytpfcfaakdhamlaa
open Go.ChangeShapes Go.WideShapes Go.ChangeAt Go.RowKit
set_option maxRecDepth 100000
set_option linter.unusedVariables false
set_option linter.unusedSimpArgs false

theorem gapAssumes_contract (H : Type) (enc : TypeId × Value → H) (W : World) (base : Nat) (args : Array Value) (ds gs : List (DataW H)) (before : List MemPlace)
    (hval : ∀ (j : Nat) t v, Try.f5.params[j]? = some t → args[j]? = some v → Value.okWide Try.prog W .any base t v)
    (hW : DataW.Whole enc Try.prog Try.f5.params.toList Rows.gapAssumesSpec.vars false W args.toList ds gs before) :
    Calls Try.prog 5 args W fun e W' => ∃ v, e = .returned v ∧ Rows.gapAssumesSpec.post enc Try.prog Try.f5 false true false false W args v W' := by
  have hW' := hW
  obtain ⟨p, q, hA0, hV, rfl, hfz, hnd⟩ := hW
  have hA : DataW.TrodAll enc Try.prog W 0 (fun _ => true) true Try.f5.params.toList args.toList ds p := hA0
  rw [Try.params5] at hA hval
  obtain ⟨v0, vs0, d0, ds0, p0, q0, hargs, rfl, rfl, h0, r0⟩ := trodAll_cons hA
  obtain ⟨v1, vs1, d1, ds1, p1, q1, rfl, rfl, rfl, h1, r1⟩ := trodAll_cons r0
  obtain ⟨rfl, rfl, rfl⟩ := trodAll_nil r1
  obtain rfl : args = #[v0, v1] := by cases args; simp_all
  obtain ⟨rfl, rfl⟩ := trodVars_none hV
  obtain ⟨a0, b0, l0, o0, c0, vl0, ov0, cv0, ml0, om0, cm0, rfl, ha0, hb0, hl0, hv0, hv32_0, hm0, hm8_0⟩ := open_input (hval 0 _ v0 rfl rfl) h0
  obtain ⟨op1, vv1, ww1, uu1, cc1, dd1, f0_1, f1_1, hd1, w0_1, w1_1, rfl, hf0_1, hf1_1, z0_1, z1_1, z2_1, z3_1, z4_1, z5_1⟩ := open_step (hval 1 _ v1 rfl rfl) h1
  refine (assumes_walk W a0 b0 ha0 hb0 l0 o0 _ c0 rfl hl0 vl0 ov0 _ cv0 rfl hv0 hv32_0 ml0 om0 _ cm0 rfl hm0 hm8_0 op1 vv1 ww1 uu1 cc1 dd1 f0_1 f1_1 hd1 w0_1 w1_1 hf0_1 hf1_1).mono fun e W' ⟨he, hg⟩ => ?_
  subst he
  exact ⟨_, rfl, post_true (T := 4) (by kernel_rfl) (by kernel_rfl) rfl rfl (by kernel_rfl) hW' hg rfl⟩

set_option maxRecDepth 100000 in
theorem gapAssumes_lifted (os : Os) (started : os.Started) (H : Type) (enc : TypeId × Value → H) :
    ReturnsInHanded {} Try.checked os 5 .any (Rows.gapAssumesSpec.pre6 enc Try.prog Try.f5 Rows.gapAssumesRow.domain false) (Rows.gapAssumesSpec.post enc Try.prog Try.f5 false true false false) := by
  refine returnsInHanded_of_change (C := Try.checked) own started (by kernel_rfl) Try.func5
    (ChangeSpec.witness6 (enc := enc) (C := Try.checked) false ⟨#[], #[.agg #[.int .u8 0, .int .u8 0, .slice none 0 0, .slice none 0 0, .slice none 0 0], .agg #[.int .i64 0, .int .i64 0, .int .i64 0, .int .i64 0, .int .i64 0, .int .i64 0, .int .u8 0, .int .u8 0, .bool false, .bool false, .bool false]], []⟩ 8 (by kernel_rfl) (by kernel_rfl) (by kernel_rfl) (by kernel_rfl)) ?_
  intro W base args ds gs before hval hW _ _
  exact gapAssumes_contract H enc W base args ds gs before hval hW

theorem gapAssumes_holds : Rows.GapAssumesSaid :=
  OpenClaim.holds_of_wide 5 Try.f5 rfl rfl rfl rfl rfl rfl rfl ⟨rfl, rfl, rfl, rfl, rfl⟩ rfl rfl rfl rfl rfl (by kernel_rfl) Try.func5 (by kernel_rfl)
    (of_decide_eq_true (by kernel_rfl)) (by unfold Func.isWrapper; rw [if_neg (of_decide_eq_false (by kernel_rfl))]; exact ⟨rfl, rfl⟩)
    (fun os started H enc _ => gapAssumes_lifted os started H enc)
end Go.Proofs.Ytpfcfaakdhamlaa

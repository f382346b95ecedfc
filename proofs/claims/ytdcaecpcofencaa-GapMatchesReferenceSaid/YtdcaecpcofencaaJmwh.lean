/-
  The law GapMatchesReference of package gap holds: new gaps, assignments, conditions, joins, order, widening, bounds and validity are as in the reference implementation.
  No condition: every input that the row speaks of.
-/
import Derived.Test.YtdcaecpcofencaaJmw
import Derived.Test.YtdcaecpcofencaaJop2
namespace Go.Proofs.Ytdcaecpcofencaa
open Go.ChangeShapes Go.WideShapes Go.ChangeAt Go.RowKit
set_option maxRecDepth 100000
set_option linter.unusedVariables false
set_option linter.unusedSimpArgs false

theorem gapMatchesReference_contract (H : Type) (enc : TypeId × Value → H) (W : World) (base : Nat) (args : Array Value) (ds gs : List (DataW H)) (before : List MemPlace)
    (hval : ∀ (j : Nat) t v, Try.f3.params[j]? = some t → args[j]? = some v → Value.okWide Try.prog W .any base t v)
    (hW : DataW.Whole enc Try.prog Try.f3.params.toList Rows.gapMatchesReferenceSpec.vars false W args.toList ds gs before) :
    Calls Try.prog 3 args W fun e W' => ∃ v, e = .returned v ∧ Rows.gapMatchesReferenceSpec.post enc Try.prog Try.f3 false true false false W args v W' := by
  have hW' := hW
  obtain ⟨p, q, hA0, hV, rfl, hfz, hnd⟩ := hW
  have hA : DataW.TrodAll enc Try.prog W 0 (fun _ => true) true Try.f3.params.toList args.toList ds p := hA0
  rw [Try.params3] at hA hval
  obtain ⟨v0, vs0, d0, ds0, p0, q0, hargs, rfl, rfl, h0, r0⟩ := trodAll_cons hA
  obtain ⟨v1, vs1, d1, ds1, p1, q1, rfl, rfl, rfl, h1, r1⟩ := trodAll_cons r0
  obtain ⟨v2, vs2, d2, ds2, p2, q2, rfl, rfl, rfl, h2, r2⟩ := trodAll_cons r1
  obtain ⟨rfl, rfl, rfl⟩ := trodAll_nil r2
  obtain rfl : args = #[v0, v1, v2] := by cases args; simp_all
  obtain ⟨rfl, rfl⟩ := trodVars_none hV
  obtain ⟨a0, b0, l0, o0, c0, rfl, ha0, hb0, hl0⟩ := open_raw (hval 0 _ v0 rfl rfl) h0
  obtain ⟨a1, b1, l1, o1, c1, rfl, ha1, hb1, hl1⟩ := open_raw (hval 1 _ v1 rfl rfl) h1
  obtain ⟨op2, vv2, ww2, uu2, cc2, dd2, f0_2, f1_2, hd2, w0_2, w1_2, rfl, hf0_2, hf1_2, z0_2, z1_2, z2_2, z3_2, z4_2, z5_2⟩ := open_step (hval 2 _ v2 rfl rfl) h2
  refine (matches_walk W a0 b0 ha0 hb0 l0 o0 _ c0 rfl hl0 a1 b1 l1 o1 _ c1 rfl hl1 op2 vv2 ww2 uu2 cc2 dd2 f0_2 f1_2 hd2 w0_2 w1_2 hf0_2 hf1_2 z2_2 z3_2 z4_2 z5_2).mono fun e W' ⟨he, hg⟩ => ?_
  subst he
  exact ⟨_, rfl, post_true (T := 4) (by kernel_rfl) (by kernel_rfl) rfl rfl (by kernel_rfl) hW' hg rfl⟩

set_option maxRecDepth 100000 in
theorem gapMatchesReference_lifted (os : Os) (started : os.Started) (H : Type) (enc : TypeId × Value → H) :
    ReturnsInHanded {} Try.checked os 3 .any (Rows.gapMatchesReferenceSpec.pre6 enc Try.prog Try.f3 Rows.gapMatchesReferenceRow.domain false) (Rows.gapMatchesReferenceSpec.post enc Try.prog Try.f3 false true false false) := by
  refine returnsInHanded_of_change (C := Try.checked) own started (by kernel_rfl) Try.func3
    (ChangeSpec.witness6 (enc := enc) (C := Try.checked) false ⟨#[], #[.agg #[.int .u8 0, .int .u8 0, .slice none 0 0], .agg #[.int .u8 0, .int .u8 0, .slice none 0 0], .agg #[.int .i64 0, .int .i64 0, .int .i64 0, .int .i64 0, .int .i64 0, .int .i64 0, .int .u8 0, .int .u8 0, .bool false, .bool false, .bool false]], []⟩ 8 (by kernel_rfl) (by kernel_rfl) (by kernel_rfl) (by kernel_rfl)) ?_
  intro W base args ds gs before hval hW _ _
  exact gapMatchesReference_contract H enc W base args ds gs before hval hW

theorem gapMatchesReference_holds : Rows.GapMatchesReferenceSaid :=
  OpenClaim.holds_of_wide 3 Try.f3 rfl rfl rfl rfl rfl rfl rfl ⟨rfl, rfl, rfl, rfl, rfl⟩ rfl rfl rfl rfl rfl (by kernel_rfl) Try.func3 (by kernel_rfl)
    (of_decide_eq_true (by kernel_rfl)) (by unfold Func.isWrapper; rw [if_neg (of_decide_eq_false (by kernel_rfl))]; exact ⟨rfl, rfl⟩)
    (fun os started H enc _ => gapMatchesReference_lifted os started H enc)
end Go.Proofs.Ytdcaecpcofencaa

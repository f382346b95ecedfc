/-
  The law SpanMatchesReference of package span holds: sets, their joins, meets, widening and order, operators and refinements, for any operator's number, and what is valid, are as in the reference implementation.
  No condition: every input that the row speaks of.
-/
import Derived.Test.YtdopjadlbhacfaaAms
import Derived.Test.YtdopjadlbhacfaaBrx
import Derived.Test.YtdopjadlbhacfaaBwd
import Derived.Test.YtdopjadlbhacfaaBva
import Derived.Test.YtdopjadlbhacfaaBv
import Derived.Test.YtdopjadlbhacfaaAl
import Derived.Test.YtdopjadlbhacfaaMk
namespace Go.Proofs.Ytdopjadlbhacfaa
section
open Go.RowKit Go.Instr Sp
set_option maxRecDepth 100000
set_option linter.unusedVariables false
set_option linter.unusedSimpArgs false

/-! SpanMatchesReference: all contracts. -/
theorem in_same {lo hi : Int} (k : Nat) (h : lo ≤ hi) : byA lo hi 1 k = ⟨lo, hi, 1, 0, k⟩ := by
  have t : topOf lo hi 1 = hi := by unfold topOf; rw [if_pos (by omega)]; omega
  unfold byA
  rw [t]
  split
  · rename_i e; rw [e]
  · have : lo % 1 = 0 := by omega
    rw [this]
set_option maxHeartbeats 2000000 in
theorem matches_law (x0 x1 x2 x3 y0 y1 y2 y3 n0 n1 n2 n3 n4 n5 : Int) (hn2 : n2 ≤ 9223372036854775807) (w : World) :
    Calls Try.prog 3 #[.agg #[.int .i64 x0, .int .i64 x1, .int .i64 x2, .int .i64 x3], .agg #[.int .i64 y0, .int .i64 y1, .int .i64 y2, .int .i64 y3], .agg #[.int .i64 n0, .int .i64 n1, .int .i64 n2, .int .i64 n3, .int .i64 n4, .int .i64 n5]] w fun e w' => e = .returned (.bool true) ∧ Below w.heap.size w w' := by
  have A := made_val x0 x1 x2 x3
  have B := made_val y0 y1 y2 y3
  have CA := hidA (fun w => lmade_any x0 x1 x2 x3 w)
  have CB := hidA (fun w => lmade_any y0 y1 y2 y3 w)
  have sa := (val_stp A).1
  have sb := made_small x0 x1 x2 x3
  have ta := (val_stp B).1
  have tb := made_small y0 y1 y2 y3
  have hst := mul_small sa (by omega) ta tb
  clear sa sb ta tb
  generalize madeA x0 x1 x2 x3 = a at *
  generalize madeA y0 y1 y2 y3 = b at *
  obtain ⟨c1, hc1⟩ : ∃ c : Bool, c = true ↔ VP n0 n1 n2 n3 n4 := by
    by_cases h : VP n0 n1 n2 n3 n4
    · exact ⟨true, fun _ => h, fun _ => rfl⟩
    · exact ⟨false, fun e => (by cases e), fun e => absurd e h⟩
  obtain ⟨is, m, M, -⟩ := meet_ex a b A B
  have v1 := wr_range n0
  have v2 := wr_range n2
  have v3 := wr_range n3
  have k1 := maskOf_lt (n := n1) (show 255 < 256 by omega)
  have k4 := maskOf_lt (n := n4) (show 255 < 256 by omega)
  have lohi : (if wr n3 < wr n2 then wr n3 else wr n2) ≤ (if wr n2 < wr n3 then wr n3 else wr n2) := by split <;> split <;> omega
  have hlo : inV (if wr n3 < wr n2 then wr n3 else wr n2) := by unfold inV; split <;> omega
  have hhi : inV (if wr n2 < wr n3 then wr n3 else wr n2) := by unfold inV; split <;> omega
  refine matches_walk x0 x1 x2 x3 y0 y1 y2 y3 n0 n1 n2 n3 n4 n5 a b (oneA (wr n0) (maskOf n1 255)) (joinA a b) m (widenA a b) ⟨_, _, 1, 0, maskOf n4 255⟩ (allA (maskOf n4 255)) (opA n5 a b) c1 (hasB a (wr n0) (maskOf n1 255)) (leB a b) is (wr n0) (wr n2) (wr n3) _ _ (maskOf n1 255) (maskOf n4 255)
    (hidA (fun w => examples_any w)) CA CB (hidA (fun w => wrapA n0 w)) (hidA (bits_mask8 (k := 255) n1 (by omega))) (hidA (fun w => wrapA n2 w)) (hidA (fun w => wrapA n3 w))
    (hidA (fun w => svalid_all n0 n1 n2 n3 n4 hn2 c1 hc1 w)) (hidA (fun w => rvalid_all n0 n1 n2 n3 n4 c1 hc1 w))
    (hidA (fun w => shas_any a A _ _ k1 w)) (hidA (fun w => has_any a (val_wb A) _ _ k1 A.k w))
    (hidA (fun w => sof_any _ _ w)) (hidA (fun w => of_any _ _ v1 w))
    (hidA (fun w => sjoin_any a b A B w)) (hidA (fun w => join_any a b A B w))
    (hidA (fun w => lmeet_any a b A B is m M w)) (hidA (fun w => rmeet_any a b A B is m M w))
    (hidA (fun w => sleq_any a b A B w)) (hidA (fun w => leq_any a b A B w))
    (hidA (fun w => swiden_any a b A B w)) (hidA (fun w => widen_any a b A B w))
    (hidA rfl) (hidA rfl) (hidA (bits_mask8 (k := 255) n4 (by omega)))
    (hidA (fun w => sin_any _ _ _ w)) (hidA (fun w => by have h := in_any _ _ (maskOf n4 255) lohi hlo hhi w; rw [in_same _ lohi] at h; exact h))
    (hidA (fun w => sall_any _ w)) (hidA (fun w => all_any _ w))
    (hidA (fun w => sop_any0 n5 a b A B w)) (hidA (fun w => opS_any n5 a b A B hst w)) (hidA (fun k _ _ => ?_)) w
  obtain ⟨q, r, i1, C1, D1⟩ := both_any k true a b A B
  obtain ⟨s, t, i2, C2, D2⟩ := both_any k false a b A B
  exact ⟨opA k a b, q, r, s, t, i1, i2, hidA (fun w => sop_any0 k a b A B w), hidA (fun w => opS_any k a b A B hst w), hidA (fun w => lrefine_walk k true a b q r i1 (hidA C1) w), hidA D1, hidA (fun w => lrefine_walk k false a b s t i2 (hidA C2) w), hidA D2⟩
end

section
open Go.ChangeShapes Go.WideShapes Go.ChangeAt Go.RowKit Sp
set_option maxRecDepth 100000
set_option linter.unusedVariables false
set_option linter.unusedSimpArgs false

theorem spanMatchesReference_contract (H : Type) (enc : TypeId × Value → H) (W : World) (base : Nat) (args : Array Value) (ds gs : List (DataW H)) (before : List MemPlace)
    (hval : ∀ (j : Nat) t v, Try.f3.params[j]? = some t → args[j]? = some v → Value.okWide Try.prog W .any base t v)
    (hW : DataW.Whole enc Try.prog Try.f3.params.toList Rows.spanMatchesReferenceSpec.vars false W args.toList ds gs before) :
    Calls Try.prog 3 args W fun e W' => ∃ v, e = .returned v ∧ Rows.spanMatchesReferenceSpec.post enc Try.prog Try.f3 false true false false W args v W' := by
  have hW' := hW
  obtain ⟨p, q, hA0, hV, rfl, hfz, hnd⟩ := hW
  have hA : DataW.TrodAll enc Try.prog W 0 (fun _ => true) true Try.f3.params.toList args.toList ds p := hA0
  rw [Try.params3] at hA hval
  obtain ⟨v0, vs0, d0, ds0, p0, q0, hargs, rfl, rfl, h0, r0⟩ := trodAll_cons hA
  obtain ⟨v1, vs1, d1, ds1, p1, q1, rfl, rfl, rfl, h1, r1⟩ := trodAll_cons r0
  obtain ⟨v2, vs2, d2, ds2, p2, q2, rfl, rfl, rfl, h2, r2⟩ := trodAll_cons r1
  obtain ⟨rfl, rfl, rfl⟩ := trodAll_nil r2
  obtain rfl : args = #[v0, v1, v2] := by cases args; simp_all
  obtain ⟨rfl, rfl⟩ := trodVars_none hV
  obtain ⟨x0_0, x0_1, x0_2, x0_3, rfl⟩ := open_raw (hval 0 _ v0 rfl rfl) h0
  obtain ⟨x1_0, x1_1, x1_2, x1_3, rfl⟩ := open_raw (hval 1 _ v1 rfl rfl) h1
  obtain ⟨x2_0, x2_1, x2_2, x2_3, x2_4, x2_5, rfl, hx2⟩ := open_arr6 (hval 2 _ v2 rfl rfl) h2
  refine (matches_law _ _ _ _ _ _ _ _ _ _ _ _ _ _ hx2.2 W).mono fun e W' ⟨he, hg⟩ => ?_
  subst he
  exact ⟨_, rfl, post_true (T := 4) (by kernel_rfl) (by kernel_rfl) rfl rfl (by kernel_rfl) hW' hg rfl⟩

set_option maxRecDepth 100000 in
theorem spanMatchesReference_lifted (os : Os) (started : os.Started) (H : Type) (enc : TypeId × Value → H) :
    ReturnsInHanded {} Try.checked os 3 .any (Rows.spanMatchesReferenceSpec.pre6 enc Try.prog Try.f3 Rows.spanMatchesReferenceRow.domain false) (Rows.spanMatchesReferenceSpec.post enc Try.prog Try.f3 false true false false) := by
  refine returnsInHanded_of_change (C := Try.checked) own started (by kernel_rfl) Try.func3
    (ChangeSpec.witness6 (enc := enc) (C := Try.checked) false ⟨#[], #[.agg #[.int .i64 0, .int .i64 0, .int .i64 0, .int .i64 0], .agg #[.int .i64 0, .int .i64 0, .int .i64 0, .int .i64 0], .agg #[.int .i64 0, .int .i64 0, .int .i64 0, .int .i64 0, .int .i64 0, .int .i64 0]], []⟩ 8 (by kernel_rfl) (by kernel_rfl) (by kernel_rfl) (by kernel_rfl)) ?_
  intro W base args ds gs before hval hW _ _
  exact spanMatchesReference_contract H enc W base args ds gs before hval hW

theorem spanMatchesReference_holds : Rows.SpanMatchesReferenceSaid :=
  OpenClaim.holds_of_wide 3 Try.f3 rfl rfl rfl rfl rfl rfl rfl ⟨rfl, rfl, rfl, rfl, rfl⟩ rfl rfl rfl rfl rfl (by kernel_rfl) Try.func3 (by kernel_rfl)
    (of_decide_eq_true (by kernel_rfl)) (by unfold Func.isWrapper; rw [if_neg (of_decide_eq_false (by kernel_rfl))]; exact ⟨rfl, rfl⟩)
    (fun os started H enc _ => spanMatchesReference_lifted os started H enc)
end
end Go.Proofs.Ytdopjadlbhacfaa

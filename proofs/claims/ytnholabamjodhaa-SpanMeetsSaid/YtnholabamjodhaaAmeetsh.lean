/-
  The law SpanMeets of package span holds: a word is in the meet of two sets exactly if it is in both; the meet is in both, and a set that is in both is in the meet.
  No condition: every input that the row speaks of.
-/
import Derived.Test.YtnholabamjodhaaAmt
import Derived.Test.YtnholabamjodhaaBmw
import Derived.Test.YtnholabamjodhaaAop2
namespace Go.Proofs.Ytnholabamjodhaa
open Go.ChangeShapes Go.WideShapes Go.ChangeAt Go.RowKit Sp
set_option maxRecDepth 100000
set_option linter.unusedVariables false
set_option linter.unusedSimpArgs false

theorem maskOf_lt3 (n : Int) {a : Ab} (A : Val a) : maskOf n a.k < 256 := maskOf_lt A.k
theorem meets_law (x0 x1 x2 x3 y0 y1 y2 y3 n0 n1 : Int) (w : World) :
    Calls Try.prog 6 #[.agg #[.int .i64 x0, .int .i64 x1, .int .i64 x2, .int .i64 x3], .agg #[.int .i64 y0, .int .i64 y1, .int .i64 y2, .int .i64 y3], .agg #[.int .i64 n0, .int .i64 n1]] w fun e w' => e = .returned (.bool true) ∧ Below w.heap.size w w' := by
  have A := made_val x0 x1 x2 x3
  have B := made_val y0 y1 y2 y3
  have CA := hidA (fun w => lmade_any x0 x1 x2 x3 w)
  have CB := hidA (fun w => lmade_any y0 y1 y2 y3 w)
  generalize madeA x0 x1 x2 x3 = a at *
  generalize madeA y0 y1 y2 y3 = b at *
  have mv := at_mem A n0
  have kv := maskOf_lt3 n1 A
  have sv := maskOf_sb n1 a.k
  have CV := hidA (fun w => at_any a A n0 n1 w)
  generalize atA a n0 = v at *
  generalize maskOf n1 a.k = vk at *
  obtain ⟨is, m, M, _⟩ := meet_ex a b A B
  refine meets_walk x0 x1 x2 x3 y0 y1 y2 y3 n0 n1 a b m is (hasB b v vk) v vk (hidA (fun w => examples_any w)) CA CB
    (hidA (fun w => lmeet_any a b A B is m M w)) (hidA (fun w => lmeet_any b a B A is m (meet_swap M) w)) (hidA (fun w => lmeet_any a a A A true a (meet_self A) w)) CV
    (hidA (fun h w => ?_)) (hidA (fun h w => ?_)) (hidA (fun h w => ?_)) (hidA (fun w => ?_)) (hidA (fun w => shas_any b B v vk kv w)) (hidA (fun h w => ?_)) (hidA (fun h => ?_)) w
  · subst h
    exact svalid_any m (meet_le M).1 w
  · subst h
    obtain ⟨V, L1, L2⟩ := meet_le M
    have c := sleq_any m a V A w
    rw [(leB_iff V A).2 L1] at c; exact c
  · subst h
    obtain ⟨V, L1, L2⟩ := meet_le M
    have c := sleq_any m b V B w
    rw [(leB_iff V B).2 L2] at c; exact c
  · have c := shas_any a A v vk kv w
    rw [(hasB_iff A v vk).2 ⟨mv, sv⟩] at c; exact c
  · subst h
    obtain ⟨V, hm, hk⟩ := M.some rfl
    have c := shas_any m V v vk kv w
    have e : hasB m v vk = hasB b v vk := by
      rw [Bool.eq_iff_iff, hasB_iff V, hasB_iff B, hm, hk]
      exact ⟨fun ⟨h1, h2⟩ => ⟨h1.2, sb_trans h2 (sb_and_r _ _)⟩, fun ⟨h1, h2⟩ => ⟨⟨mv, h1⟩, sb_and sv h2⟩⟩
    rw [e] at c; exact c
  · subst h
    cases hh : hasB b v vk with
    | false => rfl
    | true => exact absurd ⟨mv, ((hasB_iff B v vk).1 hh).1⟩ ((M.none rfl).2 v)

theorem spanMeets_contract (H : Type) (enc : TypeId × Value → H) (W : World) (base : Nat) (args : Array Value) (ds gs : List (DataW H)) (before : List MemPlace)
    (hval : ∀ (j : Nat) t v, Try.f6.params[j]? = some t → args[j]? = some v → Value.okWide Try.prog W .any base t v)
    (hW : DataW.Whole enc Try.prog Try.f6.params.toList Rows.spanMeetsSpec.vars false W args.toList ds gs before) :
    Calls Try.prog 6 args W fun e W' => ∃ v, e = .returned v ∧ Rows.spanMeetsSpec.post enc Try.prog Try.f6 false true false false W args v W' := by
  have hW' := hW
  obtain ⟨p, q, hA0, hV, rfl, hfz, hnd⟩ := hW
  have hA : DataW.TrodAll enc Try.prog W 0 (fun _ => true) true Try.f6.params.toList args.toList ds p := hA0
  rw [Try.params6] at hA hval
  obtain ⟨v0, vs0, d0, ds0, p0, q0, hargs, rfl, rfl, h0, r0⟩ := trodAll_cons hA
  obtain ⟨v1, vs1, d1, ds1, p1, q1, rfl, rfl, rfl, h1, r1⟩ := trodAll_cons r0
  obtain ⟨v2, vs2, d2, ds2, p2, q2, rfl, rfl, rfl, h2, r2⟩ := trodAll_cons r1
  obtain ⟨rfl, rfl, rfl⟩ := trodAll_nil r2
  obtain rfl : args = #[v0, v1, v2] := by cases args; simp_all
  obtain ⟨rfl, rfl⟩ := trodVars_none hV
  obtain ⟨x0_0, x0_1, x0_2, x0_3, rfl⟩ := open_raw (hval 0 _ v0 rfl rfl) h0
  obtain ⟨x1_0, x1_1, x1_2, x1_3, rfl⟩ := open_raw (hval 1 _ v1 rfl rfl) h1
  obtain ⟨x2_0, x2_1, rfl⟩ := open_arr2 (hval 2 _ v2 rfl rfl) h2
  refine (meets_law _ _ _ _ _ _ _ _ _ _ W).mono fun e W' ⟨he, hg⟩ => ?_
  subst he
  exact ⟨_, rfl, post_true (T := 4) (by kernel_rfl) (by kernel_rfl) rfl rfl (by kernel_rfl) hW' hg rfl⟩

set_option maxRecDepth 100000 in
theorem spanMeets_lifted (os : Os) (started : os.Started) (H : Type) (enc : TypeId × Value → H) :
    ReturnsInHanded {} Try.checked os 6 .any (Rows.spanMeetsSpec.pre6 enc Try.prog Try.f6 Rows.spanMeetsRow.domain false) (Rows.spanMeetsSpec.post enc Try.prog Try.f6 false true false false) := by
  refine returnsInHanded_of_change (C := Try.checked) own started (by kernel_rfl) Try.func6
    (ChangeSpec.witness6 (enc := enc) (C := Try.checked) false ⟨#[], #[.agg #[.int .i64 0, .int .i64 0, .int .i64 0, .int .i64 0], .agg #[.int .i64 0, .int .i64 0, .int .i64 0, .int .i64 0], .agg #[.int .i64 0, .int .i64 0]], []⟩ 8 (by kernel_rfl) (by kernel_rfl) (by kernel_rfl) (by kernel_rfl)) ?_
  intro W base args ds gs before hval hW _ _
  exact spanMeets_contract H enc W base args ds gs before hval hW

theorem spanMeets_holds : Rows.SpanMeetsSaid :=
  OpenClaim.holds_of_wide 6 Try.f6 rfl rfl rfl rfl rfl rfl rfl ⟨rfl, rfl, rfl, rfl, rfl⟩ rfl rfl rfl rfl rfl (by kernel_rfl) Try.func6 (by kernel_rfl)
    (of_decide_eq_true (by kernel_rfl)) (by unfold Func.isWrapper; rw [if_neg (of_decide_eq_false (by kernel_rfl))]; exact ⟨rfl, rfl⟩)
    (fun os started H enc _ => spanMeets_lifted os started H enc)
end Go.Proofs.Ytnholabamjodhaa

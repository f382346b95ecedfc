/-
  The law SpanJoins of package span holds: the join of two sets has both, and is in each set that has both, whose mask has at least the bits of both; join is commutative, associative, and has no effect on one set with itself.
  No condition: every input that the row speaks of.
-/
import Derived.Test.YtnholabamjodhaaAjn
import Derived.Test.YtnholabamjodhaaAop
namespace Go.Proofs.Ytnholabamjodhaa
open Go.ChangeShapes Go.WideShapes Go.ChangeAt Go.RowKit Sp
set_option maxRecDepth 100000
set_option linter.unusedVariables false
set_option linter.unusedSimpArgs false

theorem joins_law (x0 x1 x2 x3 y0 y1 y2 y3 t0 t1 t2 t3 : Int) (w : World) :
    Calls Try.prog 5 #[.agg #[.int .i64 x0, .int .i64 x1, .int .i64 x2, .int .i64 x3], .agg #[.int .i64 y0, .int .i64 y1, .int .i64 y2, .int .i64 y3], .agg #[.int .i64 t0, .int .i64 t1, .int .i64 t2, .int .i64 t3]] w fun e w' => e = .returned (.bool true) ∧ Below w.heap.size w w' := by
  have A := made_val x0 x1 x2 x3
  have B := made_val y0 y1 y2 y3
  have C := made_val t0 t1 t2 t3
  have CA := hidA (fun w => lmade_any x0 x1 x2 x3 w)
  have CB := hidA (fun w => lmade_any y0 y1 y2 y3 w)
  have CC := hidA (fun w => lmade_any t0 t1 t2 t3 w)
  generalize madeA x0 x1 x2 x3 = a at *
  generalize madeA y0 y1 y2 y3 = b at *
  generalize madeA t0 t1 t2 t3 = c at *
  have J := join_val A B
  have R := join_val B C
  refine joins_walk x0 x1 x2 x3 y0 y1 y2 y3 t0 t1 t2 t3 a b c (joinA a b) (joinA (joinA a b) c) (joinA b c) (leB a c) (leB b c) (leB (joinA a b) c) (leB a b) (hidA (fun w => examples_any w)) CA CB CC
    (hidA (fun w => sjoin_any a b A B w)) (hidA (fun w => svalid_any _ J w)) (hidA (fun w => ?_)) (hidA (fun w => ?_)) (hidA (fun w => ?_)) (hidA (fun w => ?_))
    (hidA (fun w => sjoin_any _ c J C w)) (hidA (fun w => sjoin_any b c B C w)) (hidA (fun w => ?_)) (hidA (fun w => sleq_any a c A C w)) (hidA (fun w => sleq_any b c B C w)) (hidA (fun w => sleq_any _ c J C w)) ?_ (hidA (fun w => sleq_any a b A B w)) ?_ w
  · have h := sleq_any a _ A J w
    rw [(leB_iff A J).2 (le_join_l A B)] at h; exact h
  · have h := sleq_any b _ B J w
    rw [(leB_iff B J).2 (le_join_r A B)] at h; exact h
  · have h := sjoin_any b a B A w
    rw [join_comm b a] at h; exact h
  · have h := sjoin_any a a A A w
    rw [join_self A] at h; exact h
  · have h := sjoin_any a _ A R w
    rw [← join_assoc A B C] at h; exact h
  · intro h1 h2
    exact (leB_iff J C).2 (join_least A B C ((leB_iff A C).1 h1) ((leB_iff B C).1 h2))
  · cases hu : leB a b with
    | true => exact Or.inl ⟨rfl, (join_iff A B).1 ((leB_iff A B).1 hu)⟩
    | false =>
      refine Or.inr ⟨rfl, fun h => ?_⟩
      rw [(leB_iff A B).2 ((join_iff A B).2 h)] at hu
      cases hu

theorem spanJoins_contract (H : Type) (enc : TypeId × Value → H) (W : World) (base : Nat) (args : Array Value) (ds gs : List (DataW H)) (before : List MemPlace)
    (hval : ∀ (j : Nat) t v, Try.f5.params[j]? = some t → args[j]? = some v → Value.okWide Try.prog W .any base t v)
    (hW : DataW.Whole enc Try.prog Try.f5.params.toList Rows.spanJoinsSpec.vars false W args.toList ds gs before) :
    Calls Try.prog 5 args W fun e W' => ∃ v, e = .returned v ∧ Rows.spanJoinsSpec.post enc Try.prog Try.f5 false true false false W args v W' := by
  have hW' := hW
  obtain ⟨p, q, hA0, hV, rfl, hfz, hnd⟩ := hW
  have hA : DataW.TrodAll enc Try.prog W 0 (fun _ => true) true Try.f5.params.toList args.toList ds p := hA0
  rw [Try.params5] at hA hval
  obtain ⟨v0, vs0, d0, ds0, p0, q0, hargs, rfl, rfl, h0, r0⟩ := trodAll_cons hA
  obtain ⟨v1, vs1, d1, ds1, p1, q1, rfl, rfl, rfl, h1, r1⟩ := trodAll_cons r0
  obtain ⟨v2, vs2, d2, ds2, p2, q2, rfl, rfl, rfl, h2, r2⟩ := trodAll_cons r1
  obtain ⟨rfl, rfl, rfl⟩ := trodAll_nil r2
  obtain rfl : args = #[v0, v1, v2] := by cases args; simp_all
  obtain ⟨rfl, rfl⟩ := trodVars_none hV
  obtain ⟨x0_0, x0_1, x0_2, x0_3, rfl⟩ := open_raw (hval 0 _ v0 rfl rfl) h0
  obtain ⟨x1_0, x1_1, x1_2, x1_3, rfl⟩ := open_raw (hval 1 _ v1 rfl rfl) h1
  obtain ⟨x2_0, x2_1, x2_2, x2_3, rfl⟩ := open_raw (hval 2 _ v2 rfl rfl) h2
  refine (joins_law _ _ _ _ _ _ _ _ _ _ _ _ W).mono fun e W' ⟨he, hg⟩ => ?_
  subst he
  exact ⟨_, rfl, post_true (T := 4) (by kernel_rfl) (by kernel_rfl) rfl rfl (by kernel_rfl) hW' hg rfl⟩

set_option maxRecDepth 100000 in
theorem spanJoins_lifted (os : Os) (started : os.Started) (H : Type) (enc : TypeId × Value → H) :
    ReturnsInHanded {} Try.checked os 5 .any (Rows.spanJoinsSpec.pre6 enc Try.prog Try.f5 Rows.spanJoinsRow.domain false) (Rows.spanJoinsSpec.post enc Try.prog Try.f5 false true false false) := by
  refine returnsInHanded_of_change (C := Try.checked) own started (by kernel_rfl) Try.func5
    (ChangeSpec.witness6 (enc := enc) (C := Try.checked) false ⟨#[], #[.agg #[.int .i64 0, .int .i64 0, .int .i64 0, .int .i64 0], .agg #[.int .i64 0, .int .i64 0, .int .i64 0, .int .i64 0], .agg #[.int .i64 0, .int .i64 0, .int .i64 0, .int .i64 0]], []⟩ 8 (by kernel_rfl) (by kernel_rfl) (by kernel_rfl) (by kernel_rfl)) ?_
  intro W base args ds gs before hval hW _ _
  exact spanJoins_contract H enc W base args ds gs before hval hW

theorem spanJoins_holds : Rows.SpanJoinsSaid :=
  OpenClaim.holds_of_wide 5 Try.f5 rfl rfl rfl rfl rfl rfl rfl ⟨rfl, rfl, rfl, rfl, rfl⟩ rfl rfl rfl rfl rfl (by kernel_rfl) Try.func5 (by kernel_rfl)
    (of_decide_eq_true (by kernel_rfl)) (by unfold Func.isWrapper; rw [if_neg (of_decide_eq_false (by kernel_rfl))]; exact ⟨rfl, rfl⟩)
    (fun os started H enc _ => spanJoins_lifted os started H enc)
end Go.Proofs.Ytnholabamjodhaa

/-
  The law SpanOrder of package span holds: a set is in another one exactly if all of its words are: the ends, the second value, and any other one; the operators but division and remainder keep the order.
  No condition: every input that the row speaks of.
-/
import Derived.Test.YtnholabamjodhaaAord
import Derived.Test.YtnholabamjodhaaAoh
import Derived.Test.YtnholabamjodhaaAop
namespace Go.Proofs.Ytnholabamjodhaa
open Go.ChangeShapes Go.WideShapes Go.ChangeAt Go.RowKit Sp
set_option maxRecDepth 100000
set_option linter.unusedVariables false
set_option linter.unusedSimpArgs false

theorem order_law (x0 x1 x2 x3 y0 y1 y2 y3 t0 t1 t2 t3 : Int) (w : World) :
    Calls Try.prog 7 #[.agg #[.int .i64 x0, .int .i64 x1, .int .i64 x2, .int .i64 x3], .agg #[.int .i64 y0, .int .i64 y1, .int .i64 y2, .int .i64 y3], .agg #[.int .i64 t0, .int .i64 t1, .int .i64 t2, .int .i64 t3]] w fun e w' => e = .returned (.bool true) ∧ Below w.heap.size w w' := by
  have A := made_val x0 x1 x2 x3
  have B := made_val y0 y1 y2 y3
  have C := made_val t0 t1 t2 t3
  have sA := made_small x0 x1 x2 x3
  have sC := made_small t0 t1 t2 t3
  have CA := hidA (fun w => lmade_any x0 x1 x2 x3 w)
  have CB := hidA (fun w => lmade_any y0 y1 y2 y3 w)
  have CC := hidA (fun w => lmade_any t0 t1 t2 t3 w)
  generalize madeA x0 x1 x2 x3 = a at *
  generalize madeA y0 y1 y2 y3 = b at *
  generalize madeA t0 t1 t2 t3 = c at *
  have J := join_val A B
  have sJ := stp_lt J
  have L := le_join_l A B
  have m1 : stp a * stp c ≤ 4611686018427387904 := mul_small (val_stp A).1 (by omega) (val_stp C).1 sC
  have m2 : stp (joinA a b) * stp c ≤ 4611686018427387904 := mul_small (val_stp J).1 (by omega) (val_stp C).1 sC
  have m3 : stp c * stp a ≤ 4611686018427387904 := by rw [Int.mul_comm]; exact m1
  have m4 : stp c * stp (joinA a b) ≤ 4611686018427387904 := by rw [Int.mul_comm]; exact m2
  have hk : maskOf 255 a.k < 256 := maskOf_lt A.k
  have LE : ∀ {p q : Ab}, Val p → Val q → Le p q → ∀ w, Calls Try.prog 22 #[.agg #[.int .i64 p.lo, .int .i64 p.hi, .int .i64 p.m, .int .i64 p.r, .int .i64 p.k], .agg #[.int .i64 q.lo, .int .i64 q.hi, .int .i64 q.m, .int .i64 q.r, .int .i64 q.k]] w fun e w' => e = .returned (.bool true) ∧ Below w.heap.size w w' := by
    intro p q P Q h w
    have g := sleq_any p q P Q w
    rw [(leB_iff P Q).2 h] at g; exact g
  refine order_walk x0 x1 x2 x3 y0 y1 y2 y3 t0 t1 t2 t3 a b c (joinA a b) (opA 9 a c) (opA 9 (joinA a b) c) (opA 10 c a) (opA 10 c (joinA a b)) (atA a 0) (atA a 1) (atA a (-1)) (maskOf 255 a.k) (maskOf 255 a.k) (maskOf 255 a.k)
    (leB a b) _ (hasB b (atA a 0) (maskOf 255 a.k)) (hasB b (atA a 1) (maskOf 255 a.k)) (hasB b (atA a (-1)) (maskOf 255 a.k)) (leB b a) (sbB a.k b.k) (hidA (fun w => examples_any w)) CA CB CC
    (hidA (fun w => sleq_any a b A B w)) (hidA (fun w => at_any a A 0 255 w)) (hidA (fun w => at_any a A 1 255 w)) (hidA (fun w => at_any a A (-1) 255 w))
    (hidA (fun w => shas_any b B _ _ hk w)) (hidA (fun w => shas_any b B _ _ hk w)) (hidA (fun w => shas_any b B _ _ hk w))
    (hidA (LE A A (le_refl a))) (hidA (fun w => sleq_any b a B A w)) (hidA (fun w => sjoin_any a b A B w)) (hidA (bits_not8 A.k B.k)) (hidA rfl) (hidA (order_is A B)) (hidA (fun h g => le_anti A B ((leB_iff A B).1 h) ((leB_iff B A).1 g)))
    (hidA (fun k k1 k2 => ⟨opA k a c, opA k (joinA a b) c, hidA (fun w => sop_any k a c A C m1 w), hidA (fun w => sop_any k _ c J C m2 w), hidA (LE (op_val k A C) (op_val k J C) (op_mono (by omega) A J C L))⟩))
    (hidA (fun w => sop_any 9 a c A C m1 w)) (hidA (fun w => sop_any 9 _ c J C m2 w)) (hidA (LE (op_val 9 A C) (op_val 9 J C) (op_mono (by omega) A J C L)))
    (hidA (fun w => sop_any 10 c a C A m3 w)) (hidA (fun w => sop_any 10 c _ C J m4 w)) (hidA (LE (op_val 10 C A) (op_val 10 C J) (max_mono A J C L))) w

theorem spanOrder_contract (H : Type) (enc : TypeId × Value → H) (W : World) (base : Nat) (args : Array Value) (ds gs : List (DataW H)) (before : List MemPlace)
    (hval : ∀ (j : Nat) t v, Try.f7.params[j]? = some t → args[j]? = some v → Value.okWide Try.prog W .any base t v)
    (hW : DataW.Whole enc Try.prog Try.f7.params.toList Rows.spanOrderSpec.vars false W args.toList ds gs before) :
    Calls Try.prog 7 args W fun e W' => ∃ v, e = .returned v ∧ Rows.spanOrderSpec.post enc Try.prog Try.f7 false true false false W args v W' := by
  have hW' := hW
  obtain ⟨p, q, hA0, hV, rfl, hfz, hnd⟩ := hW
  have hA : DataW.TrodAll enc Try.prog W 0 (fun _ => true) true Try.f7.params.toList args.toList ds p := hA0
  rw [Try.params7] at hA hval
  obtain ⟨v0, vs0, d0, ds0, p0, q0, hargs, rfl, rfl, h0, r0⟩ := trodAll_cons hA
  obtain ⟨v1, vs1, d1, ds1, p1, q1, rfl, rfl, rfl, h1, r1⟩ := trodAll_cons r0
  obtain ⟨v2, vs2, d2, ds2, p2, q2, rfl, rfl, rfl, h2, r2⟩ := trodAll_cons r1
  obtain ⟨rfl, rfl, rfl⟩ := trodAll_nil r2
  obtain rfl : args = #[v0, v1, v2] := by cases args; simp_all
  obtain ⟨rfl, rfl⟩ := trodVars_none hV
  obtain ⟨x0_0, x0_1, x0_2, x0_3, rfl⟩ := open_raw (hval 0 _ v0 rfl rfl) h0
  obtain ⟨x1_0, x1_1, x1_2, x1_3, rfl⟩ := open_raw (hval 1 _ v1 rfl rfl) h1
  obtain ⟨x2_0, x2_1, x2_2, x2_3, rfl⟩ := open_raw (hval 2 _ v2 rfl rfl) h2
  refine (order_law _ _ _ _ _ _ _ _ _ _ _ _ W).mono fun e W' ⟨he, hg⟩ => ?_
  subst he
  exact ⟨_, rfl, post_true (T := 4) (by kernel_rfl) (by kernel_rfl) rfl rfl (by kernel_rfl) hW' hg rfl⟩

set_option maxRecDepth 100000 in
theorem spanOrder_lifted (os : Os) (started : os.Started) (H : Type) (enc : TypeId × Value → H) :
    ReturnsInHanded {} Try.checked os 7 .any (Rows.spanOrderSpec.pre6 enc Try.prog Try.f7 Rows.spanOrderRow.domain false) (Rows.spanOrderSpec.post enc Try.prog Try.f7 false true false false) := by
  refine returnsInHanded_of_change (C := Try.checked) own started (by kernel_rfl) Try.func7
    (ChangeSpec.witness6 (enc := enc) (C := Try.checked) false ⟨#[], #[.agg #[.int .i64 0, .int .i64 0, .int .i64 0, .int .i64 0], .agg #[.int .i64 0, .int .i64 0, .int .i64 0, .int .i64 0], .agg #[.int .i64 0, .int .i64 0, .int .i64 0, .int .i64 0]], []⟩ 8 (by kernel_rfl) (by kernel_rfl) (by kernel_rfl) (by kernel_rfl)) ?_
  intro W base args ds gs before hval hW _ _
  exact spanOrder_contract H enc W base args ds gs before hval hW

theorem spanOrder_holds : Rows.SpanOrderSaid :=
  OpenClaim.holds_of_wide 7 Try.f7 rfl rfl rfl rfl rfl rfl rfl ⟨rfl, rfl, rfl, rfl, rfl⟩ rfl rfl rfl rfl rfl (by kernel_rfl) Try.func7 (by kernel_rfl)
    (of_decide_eq_true (by kernel_rfl)) (by unfold Func.isWrapper; rw [if_neg (of_decide_eq_false (by kernel_rfl))]; exact ⟨rfl, rfl⟩)
    (fun os started H enc _ => spanOrder_lifted os started H enc)
end Go.Proofs.Ytnholabamjodhaa

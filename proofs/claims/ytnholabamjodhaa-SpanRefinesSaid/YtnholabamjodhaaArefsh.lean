/-
  The law SpanRefines of package span holds: if a comparison of two words holds, or does not hold, they are in the parts that are left; these are valid, and within both sets; if nothing is left, no two words compare so.
  No condition: every input that the row speaks of.
-/
import Derived.Test.YtnholabamjodhaaArf
import Derived.Test.YtnholabamjodhaaBrr
import Derived.Test.YtnholabamjodhaaAop
namespace Go.Proofs.Ytnholabamjodhaa
open Go.ChangeShapes Go.WideShapes Go.ChangeAt Go.RowKit Sp
set_option maxRecDepth 100000
set_option linter.unusedVariables false
set_option linter.unusedSimpArgs false

theorem maskOf_lt4 (n : Int) {a : Ab} (A : Val a) : maskOf n a.k < 256 := maskOf_lt A.k
theorem refines_law (x0 x1 x2 x3 y0 y1 y2 y3 n0 n1 n2 n3 : Int) (w : World) :
    Calls Try.prog 8 #[.agg #[.int .i64 x0, .int .i64 x1, .int .i64 x2, .int .i64 x3], .agg #[.int .i64 y0, .int .i64 y1, .int .i64 y2, .int .i64 y3], .agg #[.int .i64 n0, .int .i64 n1, .int .i64 n2, .int .i64 n3]] w fun e w' => e = .returned (.bool true) ∧ Below w.heap.size w w' := by
  have A := made_val x0 x1 x2 x3
  have B := made_val y0 y1 y2 y3
  have CA := hidA (fun w => lmade_any x0 x1 x2 x3 w)
  have CB := hidA (fun w => lmade_any y0 y1 y2 y3 w)
  generalize madeA x0 x1 x2 x3 = a at *
  generalize madeA y0 y1 y2 y3 = b at *
  have mv := at_mem A n0
  have mu := at_mem B n2
  have kv := maskOf_lt4 n1 A
  have ku := maskOf_lt4 n3 B
  have sv := maskOf_sb n1 a.k
  have su := maskOf_sb n3 b.k
  have CV := hidA (fun w => at_any a A n0 n1 w)
  have CW := hidA (fun w => at_any b B n2 n3 w)
  generalize atA a n0 = v at *
  generalize atA b n2 = u at *
  generalize maskOf n1 a.k = vk at *
  generalize maskOf n3 b.k = uk at *
  refine refines_walk x0 x1 x2 x3 y0 y1 y2 y3 n0 n1 n2 n3 a b v u vk uk (hidA (fun w => examples_any w)) CA CB CV CW (hidA (mem_in A mv)) (hidA (mem_in B mu)) (hidA fun k k1 k2 => ?_) w
  obtain ⟨i, q, r, R, C⟩ := srefine_any k (cmpB k v u) a b A B k1 k2
  obtain ⟨j, s, t, S, D⟩ := srefine_any k (!cmpB k v u) a b A B k1 k2
  obtain ⟨rfl, mq, mr⟩ := R.all v u mv mu rfl
  obtain ⟨Q, RR, kq, kr, iq, ir⟩ := R.some rfl
  have CC := lrefine_walk k (cmpB k v u) a b q r true (hidA C)
  have DD := lrefine_walk k (!cmpB k v u) a b s t j (hidA D)
  have le : ∀ (x y : Ab), Val x → Val y → x.k = y.k → (∀ v, Mem x v → Mem y v) → leB x y = true := fun x y X Y hk h => (leB_iff X Y).2 ⟨h, by rw [hk]; exact sb_refl _⟩
  refine ⟨q, r, s, t, j, hidA CC, hidA DD, hidA (fun w => ?_), hidA (fun w => ?_), hidA (fun w => ?_), hidA (fun w => ?_), hidA (fun w => svalid_any q Q w), hidA (fun w => svalid_any r RR w), hidA (fun h w => ?_), hidA (fun h w => ?_)⟩
  · have c := shas_any q Q v vk kv w
    rw [(hasB_iff Q v vk).2 ⟨mq, by rw [kq]; exact sv⟩] at c; exact c
  · have c := shas_any r RR u uk ku w
    rw [(hasB_iff RR u uk).2 ⟨mr, by rw [kr]; exact su⟩] at c; exact c
  · have c := sleq_any q a Q A w
    rw [le q a Q A kq iq] at c; exact c
  · have c := sleq_any r b RR B w
    rw [le r b RR B kr ir] at c; exact c
  · obtain ⟨X, Y, kx, ky, ix, iy⟩ := S.some h
    have c := sleq_any s a X A w
    rw [le s a X A kx ix] at c; exact c
  · obtain ⟨X, Y, kx, ky, ix, iy⟩ := S.some h
    have c := sleq_any t b Y B w
    rw [le t b Y B ky iy] at c; exact c

theorem spanRefines_contract (H : Type) (enc : TypeId × Value → H) (W : World) (base : Nat) (args : Array Value) (ds gs : List (DataW H)) (before : List MemPlace)
    (hval : ∀ (j : Nat) t v, Try.f8.params[j]? = some t → args[j]? = some v → Value.okWide Try.prog W .any base t v)
    (hW : DataW.Whole enc Try.prog Try.f8.params.toList Rows.spanRefinesSpec.vars false W args.toList ds gs before) :
    Calls Try.prog 8 args W fun e W' => ∃ v, e = .returned v ∧ Rows.spanRefinesSpec.post enc Try.prog Try.f8 false true false false W args v W' := by
  have hW' := hW
  obtain ⟨p, q, hA0, hV, rfl, hfz, hnd⟩ := hW
  have hA : DataW.TrodAll enc Try.prog W 0 (fun _ => true) true Try.f8.params.toList args.toList ds p := hA0
  rw [Try.params8] at hA hval
  obtain ⟨v0, vs0, d0, ds0, p0, q0, hargs, rfl, rfl, h0, r0⟩ := trodAll_cons hA
  obtain ⟨v1, vs1, d1, ds1, p1, q1, rfl, rfl, rfl, h1, r1⟩ := trodAll_cons r0
  obtain ⟨v2, vs2, d2, ds2, p2, q2, rfl, rfl, rfl, h2, r2⟩ := trodAll_cons r1
  obtain ⟨rfl, rfl, rfl⟩ := trodAll_nil r2
  obtain rfl : args = #[v0, v1, v2] := by cases args; simp_all
  obtain ⟨rfl, rfl⟩ := trodVars_none hV
  obtain ⟨x0_0, x0_1, x0_2, x0_3, rfl⟩ := open_raw (hval 0 _ v0 rfl rfl) h0
  obtain ⟨x1_0, x1_1, x1_2, x1_3, rfl⟩ := open_raw (hval 1 _ v1 rfl rfl) h1
  obtain ⟨x2_0, x2_1, x2_2, x2_3, rfl⟩ := open_arr4 (hval 2 _ v2 rfl rfl) h2
  refine (refines_law _ _ _ _ _ _ _ _ _ _ _ _ W).mono fun e W' ⟨he, hg⟩ => ?_
  subst he
  exact ⟨_, rfl, post_true (T := 4) (by kernel_rfl) (by kernel_rfl) rfl rfl (by kernel_rfl) hW' hg rfl⟩

set_option maxRecDepth 100000 in
theorem spanRefines_lifted (os : Os) (started : os.Started) (H : Type) (enc : TypeId × Value → H) :
    ReturnsInHanded {} Try.checked os 8 .any (Rows.spanRefinesSpec.pre6 enc Try.prog Try.f8 Rows.spanRefinesRow.domain false) (Rows.spanRefinesSpec.post enc Try.prog Try.f8 false true false false) := by
  refine returnsInHanded_of_change (C := Try.checked) own started (by kernel_rfl) Try.func8
    (ChangeSpec.witness6 (enc := enc) (C := Try.checked) false ⟨#[], #[.agg #[.int .i64 0, .int .i64 0, .int .i64 0, .int .i64 0], .agg #[.int .i64 0, .int .i64 0, .int .i64 0, .int .i64 0], .agg #[.int .i64 0, .int .i64 0, .int .i64 0, .int .i64 0]], []⟩ 8 (by kernel_rfl) (by kernel_rfl) (by kernel_rfl) (by kernel_rfl)) ?_
  intro W base args ds gs before hval hW _ _
  exact spanRefines_contract H enc W base args ds gs before hval hW

theorem spanRefines_holds : Rows.SpanRefinesSaid :=
  OpenClaim.holds_of_wide 8 Try.f8 rfl rfl rfl rfl rfl rfl rfl ⟨rfl, rfl, rfl, rfl, rfl⟩ rfl rfl rfl rfl rfl (by kernel_rfl) Try.func8 (by kernel_rfl)
    (of_decide_eq_true (by kernel_rfl)) (by unfold Func.isWrapper; rw [if_neg (of_decide_eq_false (by kernel_rfl))]; exact ⟨rfl, rfl⟩)
    (fun os started H enc _ => spanRefines_lifted os started H enc)
end Go.Proofs.Ytnholabamjodhaa

/-
  The law SpanSound of package span holds: for two words in two sets, the result of each operator for their values, with the union of their masks, is in the result for the sets; all results are valid.
  No condition: every input that the row speaks of.
-/
import Derived.Test.YtnholabamjodhaaAsnd
import Derived.Test.YtnholabamjodhaaAoh
import Derived.Test.YtnholabamjodhaaAop
namespace Go.Proofs.Ytnholabamjodhaa
open Go.ChangeShapes Go.WideShapes Go.ChangeAt Go.RowKit Sp
set_option maxRecDepth 100000
set_option linter.unusedVariables false
set_option linter.unusedSimpArgs false

theorem made_stp (lo n m k : Int) : stp (madeA lo n m k) ≤ 1048576 := by
  have h := made_ok lo n m
  have hm := madeM_bd m
  unfold madeA
  rw [by_stp _ h.1]
  split <;> omega
theorem maskOf_lt' (n : Int) {a : Ab} (A : Val a) : maskOf n a.k < 256 := maskOf_lt A.k
theorem sound_law (x0 x1 x2 x3 y0 y1 y2 y3 n0 n1 n2 n3 : Int) (w : World) :
    Calls Try.prog 4 #[.agg #[.int .i64 x0, .int .i64 x1, .int .i64 x2, .int .i64 x3], .agg #[.int .i64 y0, .int .i64 y1, .int .i64 y2, .int .i64 y3], .agg #[.int .i64 n0, .int .i64 n1, .int .i64 n2, .int .i64 n3]] w fun e w' => e = .returned (.bool true) ∧ Below w.heap.size w w' := by
  have A := made_val x0 x1 x2 x3
  have B := made_val y0 y1 y2 y3
  have sA := made_stp x0 x1 x2 x3
  have sB := made_stp y0 y1 y2 y3
  have CA := hidA (fun w => lmade_any x0 x1 x2 x3 w)
  have CB := hidA (fun w => lmade_any y0 y1 y2 y3 w)
  generalize madeA x0 x1 x2 x3 = a at *
  generalize madeA y0 y1 y2 y3 = b at *
  have mv := at_mem A n0
  have mu := at_mem B n2
  have kv := maskOf_lt' n1 A
  have ku := maskOf_lt' n3 B
  have sv := maskOf_sb n1 a.k
  have su := maskOf_sb n3 b.k
  have CV := hidA (fun w => at_any a A n0 n1 w)
  have CW := hidA (fun w => at_any b B n2 n3 w)
  generalize atA a n0 = v at *
  generalize atA b n2 = u at *
  generalize maskOf n1 a.k = vk at *
  generalize maskOf n3 b.k = uk at *
  have HA : Hid (∀ w, Calls Try.prog 14 #[.agg #[.int .i64 a.lo, .int .i64 a.hi, .int .i64 a.m, .int .i64 a.r, .int .i64 a.k], .agg #[.int .i64 v, .int .i64 vk]] w fun e w' => e = .returned (.bool true) ∧ Below w.heap.size w w') := hidA (fun w => by
    have h := shas_any a A v vk kv w
    rw [(hasB_iff A v vk).2 ⟨mv, sv⟩] at h; exact h)
  have HB : Hid (∀ w, Calls Try.prog 14 #[.agg #[.int .i64 b.lo, .int .i64 b.hi, .int .i64 b.m, .int .i64 b.r, .int .i64 b.k], .agg #[.int .i64 u, .int .i64 uk]] w fun e w' => e = .returned (.bool true) ∧ Below w.heap.size w w') := hidA (fun w => by
    have h := shas_any b B u uk ku w
    rw [(hasB_iff B u uk).2 ⟨mu, su⟩] at h; exact h)
  refine sound_walk x0 x1 x2 x3 y0 y1 y2 y3 n0 n1 n2 n3 a b A B v u vk uk CV CW HA HB (hidA fun k k1 k2 => ?_) (hidA (bits_or8 kv ku)) (hidA (fun w => examples_any w)) CA CB w
  have C := op_val k A B
  refine ⟨opA k a b, opM k v u, hidA (fun w => sop_any k a b A B (mul_small (val_stp A).1 (by omega) (val_stp B).1 sB) w), hidA (fun w => svalid_any _ C w), hidA (fun w => ?_), hidA (fun w => ?_)⟩
  · have h := op_any k v u w
    rw [opF_in k (mem_in A mv) (mem_in B mu)] at h; exact h
  · have h := shas_any (opA k a b) C (opM k v u) (vk ||| uk) (or_lt kv ku) w
    rw [(hasB_iff C _ _).2 ⟨op_mem k A B ⟨k1, k2⟩ mv mu, by rw [op_k]; exact sb_or_mono sv su⟩] at h; exact h

theorem spanSound_contract (H : Type) (enc : TypeId × Value → H) (W : World) (base : Nat) (args : Array Value) (ds gs : List (DataW H)) (before : List MemPlace)
    (hval : ∀ (j : Nat) t v, Try.f4.params[j]? = some t → args[j]? = some v → Value.okWide Try.prog W .any base t v)
    (hW : DataW.Whole enc Try.prog Try.f4.params.toList Rows.spanSoundSpec.vars false W args.toList ds gs before) :
    Calls Try.prog 4 args W fun e W' => ∃ v, e = .returned v ∧ Rows.spanSoundSpec.post enc Try.prog Try.f4 false true false false W args v W' := by
  have hW' := hW
  obtain ⟨p, q, hA0, hV, rfl, hfz, hnd⟩ := hW
  have hA : DataW.TrodAll enc Try.prog W 0 (fun _ => true) true Try.f4.params.toList args.toList ds p := hA0
  rw [Try.params4] at hA hval
  obtain ⟨v0, vs0, d0, ds0, p0, q0, hargs, rfl, rfl, h0, r0⟩ := trodAll_cons hA
  obtain ⟨v1, vs1, d1, ds1, p1, q1, rfl, rfl, rfl, h1, r1⟩ := trodAll_cons r0
  obtain ⟨v2, vs2, d2, ds2, p2, q2, rfl, rfl, rfl, h2, r2⟩ := trodAll_cons r1
  obtain ⟨rfl, rfl, rfl⟩ := trodAll_nil r2
  obtain rfl : args = #[v0, v1, v2] := by cases args; simp_all
  obtain ⟨rfl, rfl⟩ := trodVars_none hV
  obtain ⟨x0_0, x0_1, x0_2, x0_3, rfl⟩ := open_raw (hval 0 _ v0 rfl rfl) h0
  obtain ⟨x1_0, x1_1, x1_2, x1_3, rfl⟩ := open_raw (hval 1 _ v1 rfl rfl) h1
  obtain ⟨x2_0, x2_1, x2_2, x2_3, rfl⟩ := open_arr4 (hval 2 _ v2 rfl rfl) h2
  refine (sound_law _ _ _ _ _ _ _ _ _ _ _ _ W).mono fun e W' ⟨he, hg⟩ => ?_
  subst he
  exact ⟨_, rfl, post_true (T := 4) (by kernel_rfl) (by kernel_rfl) rfl rfl (by kernel_rfl) hW' hg rfl⟩

set_option maxRecDepth 100000 in
theorem spanSound_lifted (os : Os) (started : os.Started) (H : Type) (enc : TypeId × Value → H) :
    ReturnsInHanded {} Try.checked os 4 .any (Rows.spanSoundSpec.pre6 enc Try.prog Try.f4 Rows.spanSoundRow.domain false) (Rows.spanSoundSpec.post enc Try.prog Try.f4 false true false false) := by
  refine returnsInHanded_of_change (C := Try.checked) own started (by kernel_rfl) Try.func4
    (ChangeSpec.witness6 (enc := enc) (C := Try.checked) false ⟨#[], #[.agg #[.int .i64 0, .int .i64 0, .int .i64 0, .int .i64 0], .agg #[.int .i64 0, .int .i64 0, .int .i64 0, .int .i64 0], .agg #[.int .i64 0, .int .i64 0, .int .i64 0, .int .i64 0]], []⟩ 8 (by kernel_rfl) (by kernel_rfl) (by kernel_rfl) (by kernel_rfl)) ?_
  intro W base args ds gs before hval hW _ _
  exact spanSound_contract H enc W base args ds gs before hval hW

theorem spanSound_holds : Rows.SpanSoundSaid :=
  OpenClaim.holds_of_wide 4 Try.f4 rfl rfl rfl rfl rfl rfl rfl ⟨rfl, rfl, rfl, rfl, rfl⟩ rfl rfl rfl rfl rfl (by kernel_rfl) Try.func4 (by kernel_rfl)
    (of_decide_eq_true (by kernel_rfl)) (by unfold Func.isWrapper; rw [if_neg (of_decide_eq_false (by kernel_rfl))]; exact ⟨rfl, rfl⟩)
    (fun os started H enc _ => spanSound_lifted os started H enc)
end Go.Proofs.Ytnholabamjodhaa

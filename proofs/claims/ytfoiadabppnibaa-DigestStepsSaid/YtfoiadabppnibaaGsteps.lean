/-
  The law DigestSteps of package digest holds: Back undoes Step, Step undoes Back, and different words, and different digests, give different steps.
  No condition: every input that the row speaks of.
-/
import Derived.Test.YtfoiadabppnibaaGe
import Derived.Test.YtfoiadabppnibaaGpost
namespace Go.Proofs.Ytfoiadabppnibaa
open Go.ChangeShapes Go.WideShapes Go.ChangeAt Go.RowKit
set_option linter.unusedVariables false
set_option maxRecDepth 100000 in
set_option maxHeartbeats 2000000 in
theorem steps_walk (h v w : BitVec 64) (W : World) :
    Calls Try.prog 4 #[.int .u64 (h.toNat : Int), .int .u64 (v.toNat : Int), .int .u64 (w.toNat : Int)] W fun e w' => e = .returned (.bool true) ∧ Below W.heap.size W w' := by
  have C1 := hid (fun W => step_any h w W)
  have C2 := hid (fun W => back_any h (stepB h w) W)
  have C3 := hid (fun W => back_any h w W)
  have C4 := hid (fun W => step_any h (backB h w) W)
  have C5 := hid (fun W => step_any h v W)
  have C6 := hid (fun W => step_any v h W)
  have C7 := hid (fun W => step_any w h W)
  rw [back_step] at C2
  rw [step_back] at C4
  have q1 : (((stepB h v).toNat : Int) == ((stepB h w).toNat : Int)) = ((v.toNat : Int) == (w.toNat : Int)) := eq_iff ⟨step_inj, fun e => by rw [e]⟩
  have q2 : (((stepB v h).toNat : Int) == ((stepB w h).toNat : Int)) = ((v.toNat : Int) == (w.toNat : Int)) := eq_iff ⟨step_inj', fun e => by rw [e]⟩
  obtain ⟨a1, e1⟩ : ∃ a : Int, ((stepB h w).toNat : Int) = a := ⟨_, rfl⟩
  obtain ⟨a3, e3⟩ : ∃ a : Int, ((backB h w).toNat : Int) = a := ⟨_, rfl⟩
  obtain ⟨a5, e5⟩ : ∃ a : Int, ((stepB h v).toNat : Int) = a := ⟨_, rfl⟩
  obtain ⟨a6, e6⟩ : ∃ a : Int, ((stepB v h).toNat : Int) = a := ⟨_, rfl⟩
  obtain ⟨a7, e7⟩ : ∃ a : Int, ((stepB w h).toNat : Int) = a := ⟨_, rfl⟩
  obtain ⟨nh, e8⟩ : ∃ a : Int, (h.toNat : Int) = a := ⟨_, rfl⟩
  obtain ⟨nv, e9⟩ : ∃ a : Int, (v.toNat : Int) = a := ⟨_, rfl⟩
  obtain ⟨nw, e10⟩ : ∃ a : Int, (w.toNat : Int) = a := ⟨_, rfl⟩
  simp only [e1, e3, e5, e6, e7, e8, e9, e10] at C1 C2 C3 C4 C5 C6 C7 q1 q2 ⊢
  clear e1 e3 e5 e6 e7 e8 e9 e10
  cases hvw : (nv == nw) <;> rw [hvw] at q1 q2
  all_goals
    go_enter Try.func4, Try.ntmps4
    go_wp2_with fail
    refine (examples_any _).mono ?_
    rintro e w0 ⟨rfl, hb⟩
    have B0 := hid hb; clear hb
    go_wp2_with fail
    refine (C1.out _).mono ?_
    rintro e w1 ⟨rfl, rfl⟩
    go_wp2_with fail
    refine (C2.out _).mono ?_
    rintro e w2 ⟨rfl, hb⟩
    have B2 := hid (below_step B0.out hb); clear hb
    go_wp2_with fail
    refine (C3.out _).mono ?_
    rintro e w3 ⟨rfl, hb⟩
    have B3 := hid (below_step B2.out hb); clear hb
    go_wp2_with fail
    refine (C4.out _).mono ?_
    rintro e w4 ⟨rfl, rfl⟩
    go_wp2_with fail
    refine (C5.out _).mono ?_
    rintro e w5 ⟨rfl, rfl⟩
    go_wp2_with fail
    refine (C1.out _).mono ?_
    rintro e w6 ⟨rfl, rfl⟩
    go_wp2_with fail
    refine (C6.out _).mono ?_
    rintro e w7 ⟨rfl, rfl⟩
    go_wp2_with fail
    refine (C7.out _).mono ?_
    rintro e w8 ⟨rfl, rfl⟩
    go_wp2_with fail
    go_ret
    exact ⟨rfl, B3.out⟩

theorem digestSteps_contract (H : Type) (enc : TypeId × Value → H) (W : World) (base : Nat) (args : Array Value) (ds gs : List (DataW H)) (before : List MemPlace)
    (hval : ∀ (j : Nat) t v, Try.f4.params[j]? = some t → args[j]? = some v → Value.okWide Try.prog W .any base t v)
    (hW : DataW.Whole enc Try.prog Try.f4.params.toList Rows.digestStepsSpec.vars false W args.toList ds gs before) :
    Calls Try.prog 4 args W fun e W' => ∃ v, e = .returned v ∧ Rows.digestStepsSpec.post enc Try.prog Try.f4 false true false false W args v W' := by
  have hW' := hW
  obtain ⟨p, q, hA0, hV, rfl, hfz, hnd⟩ := hW
  have hA : DataW.TrodAll enc Try.prog W 0 (fun _ => true) true Try.f4.params.toList args.toList ds p := hA0
  rw [Try.params4] at hA hval
  obtain ⟨v0, vs0, d0, ds0, p0, q0, hargs, rfl, rfl, h0, r0⟩ := trodAll_cons hA
  obtain ⟨v1, vs1, d1, ds1, p1, q1, rfl, rfl, rfl, h1, r1⟩ := trodAll_cons r0
  obtain ⟨v2, vs2, d2, ds2, p2, q2, rfl, rfl, rfl, h2, r2⟩ := trodAll_cons r1
  obtain ⟨rfl, rfl, rfl⟩ := trodAll_nil r2
  obtain rfl : args = #[v0, v1, v2] := by cases args; simp_all
  obtain ⟨rfl, rfl⟩ := trodVars_none hV
  obtain ⟨t0, rfl, rfl, rfl, wf0⟩ := open_int Try.underlying25 (hval 0 25 v0 rfl rfl) h0
  obtain ⟨t1, rfl, rfl, rfl, wf1⟩ := open_int Try.underlying25 (hval 1 25 v1 rfl rfl) h1
  obtain ⟨t2, rfl, rfl, rfl, wf2⟩ := open_int Try.underlying25 (hval 2 25 v2 rfl rfl) h2
  obtain ⟨x0, rfl⟩ := bdU wf0
  obtain ⟨x1, rfl⟩ := bdU wf1
  obtain ⟨x2, rfl⟩ := bdU wf2
  refine (steps_walk x0 x1 x2 W).mono fun e W' ⟨he, hg⟩ => ?_
  subst he
  exact ⟨_, rfl, post_true (T := 4) (by kernel_rfl) (by kernel_rfl) rfl rfl (by kernel_rfl) hW' hg rfl⟩

set_option maxRecDepth 100000 in
theorem digestSteps_lifted (os : Os) (started : os.Started) (H : Type) (enc : TypeId × Value → H) :
    ReturnsInHanded {} Try.checked os 4 .any (Rows.digestStepsSpec.pre6 enc Try.prog Try.f4 Rows.digestStepsRow.domain false) (Rows.digestStepsSpec.post enc Try.prog Try.f4 false true false false) := by
  refine returnsInHanded_of_change (C := Try.checked) own started (by kernel_rfl) Try.func4
    (ChangeSpec.witness6 (enc := enc) (C := Try.checked) false ⟨#[], #[.int .u64 0, .int .u64 0, .int .u64 0], []⟩ 8 (by kernel_rfl) (by kernel_rfl) (by kernel_rfl) (by kernel_rfl)) ?_
  intro W base args ds gs before hval hW _ _
  exact digestSteps_contract H enc W base args ds gs before hval hW

theorem digestSteps_holds : Rows.DigestStepsSaid :=
  OpenClaim.holds_of_wide 4 Try.f4 rfl rfl rfl rfl rfl rfl rfl ⟨rfl, rfl, rfl, rfl, rfl⟩ rfl rfl rfl rfl rfl (by kernel_rfl) Try.func4 (by kernel_rfl)
    (of_decide_eq_true (by kernel_rfl)) (by unfold Func.isWrapper; rw [if_neg (of_decide_eq_false (by kernel_rfl))]; exact ⟨rfl, rfl⟩)
    (fun os started H enc _ => digestSteps_lifted os started H enc)
end Go.Proofs.Ytfoiadabppnibaa

/-
  The law DigestJoins of package digest holds: pairs that differ in one element have different digests.
  No condition: every input that the row speaks of.
-/
import Derived.Test.YtfoiadabppnibaaGe
import Derived.Test.YtfoiadabppnibaaGpost
namespace Go.Proofs.Ytfoiadabppnibaa
open Go.ChangeShapes Go.WideShapes Go.ChangeAt Go.RowKit
set_option linter.unusedVariables false

set_option maxRecDepth 100000 in
set_option maxHeartbeats 2000000 in
theorem joins_walk (a b c : BitVec 64) (W : World) :
    Calls Try.prog 7 #[.int .u64 (a.toNat : Int), .int .u64 (b.toNat : Int), .int .u64 (c.toNat : Int)] W fun e w' => e = .returned (.bool true) ∧ Below W.heap.size W w' := by
  have C1 := hid (fun W => join_any a b W)
  have C2 := hid (fun W => join_any a c W)
  have C3 := hid (fun W => join_any c b W)
  have q1 : (((joinB a b).toNat : Int) == ((joinB a c).toNat : Int)) = ((b.toNat : Int) == (c.toNat : Int)) := eq_iff (join_right a b c)
  have q2 : (((joinB a b).toNat : Int) == ((joinB c b).toNat : Int)) = ((a.toNat : Int) == (c.toNat : Int)) := eq_iff (join_left a b c)
  obtain ⟨a1, e1⟩ : ∃ x : Int, ((joinB a b).toNat : Int) = x := ⟨_, rfl⟩
  obtain ⟨a2, e2⟩ : ∃ x : Int, ((joinB a c).toNat : Int) = x := ⟨_, rfl⟩
  obtain ⟨a3, e3⟩ : ∃ x : Int, ((joinB c b).toNat : Int) = x := ⟨_, rfl⟩
  obtain ⟨na, e4⟩ : ∃ x : Int, (a.toNat : Int) = x := ⟨_, rfl⟩
  obtain ⟨nb, e5⟩ : ∃ x : Int, (b.toNat : Int) = x := ⟨_, rfl⟩
  obtain ⟨nc, e6⟩ : ∃ x : Int, (c.toNat : Int) = x := ⟨_, rfl⟩
  simp only [e1, e2, e3, e4, e5, e6] at C1 C2 C3 q1 q2 ⊢
  clear e1 e2 e3 e4 e5 e6
  cases h1 : (nb == nc) <;> rw [h1] at q1 <;> cases h2 : (na == nc) <;> rw [h2] at q2
  all_goals
    go_enter Try.func7, Try.ntmps7
    go_wp2_with fail
    refine (examples_any _).mono ?_
    rintro e w0 ⟨rfl, hb⟩
    have B0 := hid (hb); clear hb
    go_wp2_with fail
    refine (C1.out _).mono ?_
    rintro e w1 ⟨rfl, rfl⟩
    go_wp2_with fail
    refine (C2.out _).mono ?_
    rintro e w2 ⟨rfl, rfl⟩
    go_wp2_with fail
    refine (C3.out _).mono ?_
    rintro e w3 ⟨rfl, rfl⟩
    go_wp2_with fail
    go_ret
    exact ⟨rfl, B0.out⟩

theorem digestJoins_contract (H : Type) (enc : TypeId × Value → H) (W : World) (base : Nat) (args : Array Value) (ds gs : List (DataW H)) (before : List MemPlace)
    (hval : ∀ (j : Nat) t v, Try.f7.params[j]? = some t → args[j]? = some v → Value.okWide Try.prog W .any base t v)
    (hW : DataW.Whole enc Try.prog Try.f7.params.toList Rows.digestJoinsSpec.vars false W args.toList ds gs before) :
    Calls Try.prog 7 args W fun e W' => ∃ v, e = .returned v ∧ Rows.digestJoinsSpec.post enc Try.prog Try.f7 false true false false W args v W' := by
  have hW' := hW
  obtain ⟨p, q, hA0, hV, rfl, hfz, hnd⟩ := hW
  have hA : DataW.TrodAll enc Try.prog W 0 (fun _ => true) true Try.f7.params.toList args.toList ds p := hA0
  rw [Try.params7] at hA hval
  obtain ⟨v0, vs0, d0, ds0, p0, q0, hargs, rfl, rfl, h0, r0⟩ := trodAll_cons hA
  obtain ⟨v1, vs1, d1, ds1, p1, q1, rfl, rfl, rfl, h1, r1⟩ := trodAll_cons r0
  obtain ⟨v2, vs2, d2, ds2, p2, q2, rfl, rfl, rfl, h2, r2⟩ := trodAll_cons r1
  obtain ⟨rfl, rfl, rfl⟩ := trodAll_nil r2
  obtain rfl : args = #[v0, v1, v2] := by cases args; simp_all
  obtain ⟨rfl, rfl⟩ := trodVars_none hV
  obtain ⟨t0, rfl, rfl, rfl, wf0⟩ := open_int Try.underlying25 (hval 0 25 v0 rfl rfl) h0
  obtain ⟨t1, rfl, rfl, rfl, wf1⟩ := open_int Try.underlying25 (hval 1 25 v1 rfl rfl) h1
  obtain ⟨t2, rfl, rfl, rfl, wf2⟩ := open_int Try.underlying25 (hval 2 25 v2 rfl rfl) h2
  obtain ⟨x0, rfl⟩ := bdU wf0
  obtain ⟨x1, rfl⟩ := bdU wf1
  obtain ⟨x2, rfl⟩ := bdU wf2
  refine (joins_walk x0 x1 x2 W).mono fun e W' ⟨he, hg⟩ => ?_
  subst he
  exact ⟨_, rfl, post_true (T := 4) (by kernel_rfl) (by kernel_rfl) rfl rfl (by kernel_rfl) hW' hg rfl⟩

set_option maxRecDepth 100000 in
theorem digestJoins_lifted (os : Os) (started : os.Started) (H : Type) (enc : TypeId × Value → H) :
    ReturnsInHanded {} Try.checked os 7 .any (Rows.digestJoinsSpec.pre6 enc Try.prog Try.f7 Rows.digestJoinsRow.domain false) (Rows.digestJoinsSpec.post enc Try.prog Try.f7 false true false false) := by
  refine returnsInHanded_of_change (C := Try.checked) own started (by kernel_rfl) Try.func7
    (ChangeSpec.witness6 (enc := enc) (C := Try.checked) false ⟨#[], #[.int .u64 0, .int .u64 0, .int .u64 0], []⟩ 8 (by kernel_rfl) (by kernel_rfl) (by kernel_rfl) (by kernel_rfl)) ?_
  intro W base args ds gs before hval hW _ _
  exact digestJoins_contract H enc W base args ds gs before hval hW

theorem digestJoins_holds : Rows.DigestJoinsSaid :=
  OpenClaim.holds_of_wide 7 Try.f7 rfl rfl rfl rfl rfl rfl rfl ⟨rfl, rfl, rfl, rfl, rfl⟩ rfl rfl rfl rfl rfl (by kernel_rfl) Try.func7 (by kernel_rfl)
    (of_decide_eq_true (by kernel_rfl)) (by unfold Func.isWrapper; rw [if_neg (of_decide_eq_false (by kernel_rfl))]; exact ⟨rfl, rfl⟩)
    (fun os started H enc _ => digestJoins_lifted os started H enc)
end Go.Proofs.Ytfoiadabppnibaa

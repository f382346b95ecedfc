/-
  The law DigestMatchesReference of package digest holds: steps, digests, texts and what is parsed are as in the reference.
  No condition: every input that the row speaks of.
-/
import Derived.Test.YtfoiadabppnibaaGrd
import Derived.Test.YtfoiadabppnibaaGpost
import Derived.ChangeMaps5
namespace Go.Proofs.Ytfoiadabppnibaa
open Go.ChangeShapes Go.WideShapes Go.ChangeAt Go.RowKit
set_option linter.unusedVariables false

set_option maxRecDepth 100000 in
set_option maxHeartbeats 4000000 in
theorem match_walk (l : List Int) (pl : Option Addr) (cl : Nat) (b : List UInt8) (pb : Option Addr) (cb : Nat) (s : ByteArray) (h1 : l.length ≤ 60) (h2 : b.length ≤ 200) (h3 : s.size ≤ 200) (W : World)
    (hl : IntsAt W (.slice pl l.length cl) l) (hb : BytesAt W (.slice pb b.length cb) b) :
    Calls Try.prog 3 #[.slice pl l.length cl, .slice pb b.length cb, .string s] W fun e w' => e = .returned (.bool true) ∧ Below W.heap.size W w' := by
  have IL := hid hl
  have IB := hid hb
  clear hl hb
  have t1 : decide ((60 : Int) < (l.length : Int)) = false := by simp; omega
  have t2 : decide ((200 : Int) < (b.length : Int)) = false := by simp; omega
  have t3 : decide ((200 : Int) < (s.size : Int)) = false := by simp; omega
  go_enter Try.func3, Try.ntmps3
  go_wp2_with fail
  refine (examples_any _).mono ?_
  rintro e w0 ⟨rfl, hb⟩
  have B0 := hid hb; clear hb
  go_wp2_with fail
  refine (words_any _ _ _ (IL.out.below B0.out)).mono ?_
  rintro e w1 ⟨rfl, rfl⟩
  go_wp2_with fail
  refine (bytes_any _ _ _ (IB.out.below B0.out)).mono ?_
  rintro e w2 ⟨rfl, hb⟩
  have B2 := hid (below_step B0.out hb); clear hb
  go_wp2_with fail
  refine (rwords_any _ _ _ (IL.out.below B2.out)).mono ?_
  rintro e w3 ⟨rfl, rfl⟩
  go_wp2_with fail
  refine (rbytes_any _ _ _ (IB.out.below B2.out)).mono ?_
  rintro e w4 ⟨rfl, rfl⟩
  go_wp2_with fail
  refine (join_any (wordsB l) (bytesB b) _).mono ?_
  rintro e w5 ⟨rfl, rfl⟩
  go_wp2_with fail
  refine (rjoin_any (wordsB l) (bytesB b) _).mono ?_
  rintro e w6 ⟨rfl, rfl⟩
  go_wp2_with fail
  refine (step_any (wordsB l) (bytesB b) _).mono ?_
  rintro e w7 ⟨rfl, rfl⟩
  go_wp2_with fail
  refine (rstep_any (wordsB l) (bytesB b) _).mono ?_
  rintro e w8 ⟨rfl, rfl⟩
  go_wp2_with fail
  refine (back_any (wordsB l) (bytesB b) _).mono ?_
  rintro e w9 ⟨rfl, hb⟩
  have B9 := hid (below_step B2.out hb); clear hb
  go_wp2_with fail
  refine (rback_any (wordsB l) (bytesB b) _).mono ?_
  rintro e w10 ⟨rfl, rfl⟩
  go_wp2_with fail
  refine (text_any (wordsB l).toNat (wordsB l).isLt _).mono ?_
  rintro e w11 ⟨rfl, hb⟩
  have B11 := hid (below_step B9.out hb); clear hb
  go_wp2_with fail
  refine (rtext_any (wordsB l).toNat (wordsB l).isLt _).mono ?_
  rintro e w12 ⟨rfl, rfl⟩
  go_wp2_with fail
  refine (parsed_any s _).mono ?_
  rintro e w13 ⟨rfl, hb⟩
  have B13 := hid (below_step B11.out hb); clear hb
  go_wp2_with fail
  refine (rparse_walk s h3 _).mono ?_
  rintro e w14 ⟨rfl, hb⟩
  have B14 := hid (below_step B13.out hb); clear hb
  go_wp2_with fail
  go_ret
  exact ⟨rfl, B14.out⟩

set_option maxHeartbeats 1000000 in
theorem match_other (nl : Nat) (pl : Option Addr) (cl : Nat) (nb : Nat) (pb : Option Addr) (cb : Nat) (s : ByteArray) (h : 60 < nl ∨ 200 < nb ∨ 200 < s.size) (W : World) :
    Calls Try.prog 3 #[.slice pl nl cl, .slice pb nb cb, .string s] W fun e w' => e = .returned (.bool true) ∧ Below W.heap.size W w' := by
  cases t1 : decide ((60 : Int) < (nl : Int))
  · cases t2 : decide ((200 : Int) < (nb : Int))
    · have t3 : decide ((200 : Int) < (s.size : Int)) = true := by simp at t1 t2 ⊢; omega
      clear h
      go_enter Try.func3, Try.ntmps3
      go_wp2_with fail
      refine (examples_any _).mono ?_
      rintro e w0 ⟨rfl, hb⟩
      have B0 := hid hb; clear hb
      go_wp2_with fail
      go_ret
      exact ⟨rfl, B0.out⟩
    · clear h
      go_enter Try.func3, Try.ntmps3
      go_wp2_with fail
      refine (examples_any _).mono ?_
      rintro e w0 ⟨rfl, hb⟩
      have B0 := hid hb; clear hb
      go_wp2_with fail
      go_ret
      exact ⟨rfl, B0.out⟩
  · clear h
    go_enter Try.func3, Try.ntmps3
    go_wp2_with fail
    refine (examples_any _).mono ?_
    rintro e w0 ⟨rfl, hb⟩
    have B0 := hid hb; clear hb
    go_wp2_with fail
    go_ret
    exact ⟨rfl, B0.out⟩

theorem digestMatchesReference_contract (H : Type) (enc : TypeId × Value → H) (W : World) (base : Nat) (args : Array Value) (ds gs : List (DataW H)) (before : List MemPlace)
    (hval : ∀ (j : Nat) t v, Try.f3.params[j]? = some t → args[j]? = some v → Value.okWide Try.prog W .any base t v)
    (hW : DataW.Whole enc Try.prog Try.f3.params.toList Rows.digestMatchesReferenceSpec.vars false W args.toList ds gs before) :
    Calls Try.prog 3 args W fun e W' => ∃ v, e = .returned v ∧ Rows.digestMatchesReferenceSpec.post enc Try.prog Try.f3 false true false false W args v W' := by
  have hW' := hW
  obtain ⟨p, q, hA0, hV, rfl, hfz, hnd⟩ := hW
  have hA : DataW.TrodAll enc Try.prog W 0 (fun _ => true) true Try.f3.params.toList args.toList ds p := hA0
  rw [Try.params3] at hA hval
  obtain ⟨v0, vs0, d0, ds0, p0, q0, hargs, rfl, rfl, h0, r0⟩ := trodAll_cons hA
  obtain ⟨v1, vs1, d1, ds1, p1, q1, rfl, rfl, rfl, h1, r1⟩ := trodAll_cons r0
  obtain ⟨v2, vs2, d2, ds2, p2, q2, rfl, rfl, rfl, h2, r2⟩ := trodAll_cons r1
  obtain ⟨rfl, rfl, rfl⟩ := trodAll_nil r2
  obtain rfl : args = #[v0, v1, v2] := by cases args; simp_all
  obtain ⟨rfl, rfl⟩ := trodVars_none hV
  obtain ⟨t0, in0⟩ := open_intl (hval 0 _ v0 rfl rfl) h0
  obtain ⟨t1, in1⟩ := open_bytesl (hval 1 _ v1 rfl rfl) h1
  obtain ⟨s2, rfl, rfl, rfl, hs2⟩ := Go.ChangeMaps.open_string Try.underlying9 (hval 2 9 v2 rfl rfl) h2
  obtain ⟨pa, pc, rfl, iv0, -⟩ := in0
  obtain ⟨qa, qc, rfl, -, -, iv1⟩ := in1
  by_cases hbig : 60 < t0.length ∨ 200 < t1.length ∨ 200 < s2.size
  · refine (match_other t0.length pa pc t1.length qa qc s2 hbig W).mono fun e W' ⟨he, hg⟩ => ?_
    subst he
    exact ⟨_, rfl, post_true (T := 4) (by kernel_rfl) (by kernel_rfl) rfl rfl (by kernel_rfl) hW' hg rfl⟩
  · refine (match_walk t0 pa pc t1 qa qc s2 (by omega) (by omega) (by omega) W (iv0 (by omega)) (iv1 (by omega))).mono fun e W' ⟨he, hg⟩ => ?_
    subst he
    exact ⟨_, rfl, post_true (T := 4) (by kernel_rfl) (by kernel_rfl) rfl rfl (by kernel_rfl) hW' hg rfl⟩


set_option maxRecDepth 100000 in
theorem digestMatchesReference_lifted (os : Os) (started : os.Started) (H : Type) (enc : TypeId × Value → H) :
    ReturnsInHanded {} Try.checked os 3 .any (Rows.digestMatchesReferenceSpec.pre6 enc Try.prog Try.f3 Rows.digestMatchesReferenceRow.domain false) (Rows.digestMatchesReferenceSpec.post enc Try.prog Try.f3 false true false false) := by
  refine returnsInHanded_of_change (C := Try.checked) own started (by kernel_rfl) Try.func3
    (ChangeSpec.witness6 (enc := enc) (C := Try.checked) false ⟨#[], #[.slice none 0 0, .slice none 0 0, .string ⟨#[]⟩], []⟩ 8 (by kernel_rfl) (by kernel_rfl) (by kernel_rfl) (by kernel_rfl)) ?_
  intro W base args ds gs before hval hW _ _
  exact digestMatchesReference_contract H enc W base args ds gs before hval hW

theorem digestMatchesReference_holds : Rows.DigestMatchesReferenceSaid :=
  OpenClaim.holds_of_wide 3 Try.f3 rfl rfl rfl rfl rfl rfl rfl ⟨rfl, rfl, rfl, rfl, rfl⟩ rfl rfl rfl rfl rfl (by kernel_rfl) Try.func3 (by kernel_rfl)
    (of_decide_eq_true (by kernel_rfl)) (by unfold Func.isWrapper; rw [if_neg (of_decide_eq_false (by kernel_rfl))]; exact ⟨rfl, rfl⟩)
    (fun os started H enc _ => digestMatchesReference_lifted os started H enc)
end Go.Proofs.Ytfoiadabppnibaa

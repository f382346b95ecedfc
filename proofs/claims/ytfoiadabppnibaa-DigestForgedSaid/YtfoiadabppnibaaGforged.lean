/-
  The law DigestForged of package digest holds: behind each list of words there is one word that gives any wanted digest.
  No condition: every input that the row speaks of.
-/
import Derived.Test.YtfoiadabppnibaaGa
import Derived.Test.YtfoiadabppnibaaGpost
namespace Go.Proofs.Ytfoiadabppnibaa
open Go.ChangeShapes Go.WideShapes Go.ChangeAt Go.RowKit
set_option linter.unusedVariables false

theorem ofInt_wrap (x : BitVec 64) : BitVec.ofInt 64 (IntKind.i64.wrap (x.toNat : Int)) = x := by
  apply BitVec.eq_of_toNat_eq
  have := x.isLt
  rw [BitVec.toNat_ofInt, IntKind.wrap_i64]
  omega
theorem forged_end (l : List Int) (want : BitVec 64) : wordsB (l ++ [IntKind.i64.wrap ((backB (stepsB (stepB c3 (BitVec.ofNat 64 (l.length + 1))) (l.map (BitVec.ofInt 64))) want).toNat : Int)]) = want := by
  unfold wordsB
  rw [List.map_append, List.map_cons, List.map_nil, ofInt_wrap, steps_snoc, List.length_append, List.length_cons, List.length_nil]
  exact step_back _ _
set_option maxRecDepth 100000 in
set_option maxHeartbeats 4000000 in
theorem forged_walk (l : List Int) (p : Option Addr) (c : Nat) (h60 : l.length ≤ 60) (want : BitVec 64) (W : World) (hv : IntsAt W (.slice p l.length c) l) :
    Calls Try.prog 8 #[.slice p l.length c, .int .u64 (want.toNat : Int)] W fun e w' => e = .returned (.bool true) ∧ Below W.heap.size W w' := by
  have C0 := hid (fun W => step_v (a := 2611923443488327891) (b := (l.length : Int) + 1) (h := c3) (x := BitVec.ofNat 64 (l.length + 1)) rfl (by rw [BitVec.toNat_ofNat]; omega) W)
  obtain ⟨i0, hi, hz0, hz1, hz2⟩ := info_parts infoInt
  have HV := hid hv
  clear hv
  go_enter Try.func8, Try.ntmps8
  go_wp2_with fail
  refine (examples_any _).mono ?_
  rintro e w0 ⟨rfl, hb⟩
  have HV0 := hid (HV.out.below hb)
  have B0 := hid hb; clear hb HV
  go_wp2_with fail
  refine (C0.out _).mono ?_
  rintro e w1 ⟨rfl, rfl⟩
  go_wp2_with fail
  go_loop [6, 7] (fun h i => ∃ k : Nat, k ≤ l.length ∧ i = .int .i64 k ∧ h = .int .u64 ((stepsB (stepB c3 (BitVec.ofNat 64 (l.length + 1))) ((l.take k).map (BitVec.ofInt 64))).toNat : Int)) (fun _ i => l.length - (intOf i).toNat)
  case atStart => exact ⟨0, by omega, rfl, rfl⟩
  case round =>
    obtain ⟨k, hk, rfl, rfl⟩ := hrel
    by_cases hlt : k < l.length
    · obtain ⟨-, p', c', e1, -, h2⟩ := HV0.out
      simp only [Value.slice.injEq, true_and] at e1
      obtain ⟨e2, e3⟩ := e1
      obtain ⟨b, o, e4, hc⟩ := h2 (by omega)
      rw [e4] at e2
      clear e3 e4 h2
      subst e2
      have hcell := hc k hlt
      clear hc
      have HS := hid (steps_take (stepB c3 (BitVec.ofNat 64 (l.length + 1))) l k hlt)
      go_wp2_with fail
      refine (step_v rfl (u64Of _) _).mono ?_
      rintro e w1 ⟨rfl, rfl⟩
      go_wp2
      go_round
      case rel => exact ⟨k + 1, by omega, by go_num, by rw [← HS.out]; simp [List.getElem?_eq_getElem hlt, List.map_take]⟩
      case measure => simp [intOf]; omega
    · obtain rfl : k = l.length := by omega
      obtain ⟨H, hH⟩ : ∃ H, stepsB (stepB c3 (BitVec.ofNat 64 (l.length + 1))) ((l.take l.length).map (BitVec.ofInt 64)) = H := ⟨_, rfl⟩
      rw [hH]
      have HH := hid hH
      clear hH
      go_wp2_with fail
      refine (back_any H want _).mono ?_
      rintro e w2 ⟨rfl, hb⟩
      have HV2 := hid (HV0.out.below hb)
      have B2 := hid (below_step B0.out hb); clear hb HV0
      obtain ⟨z, hz⟩ : ∃ z : Int, IntKind.i64.wrap ((backB H want).toNat : Int) = z := ⟨_, rfl⟩
      have HZ := hid hz
      go_wp2_with (with_reducible refine wpList_append_vals rfl (.tmp 37) (.tmp 38) 22 rfl w2.heap.size 3 i0 (.int .i64 0) 8 Try.underlying22 hi hz0 hz1 hz2 rfl (by decide) _ 0 [] rfl (own_new _ _) _ (i64s l) rfl (HV2.out.below (below_a (Below.refl _ _) _)).vals (i64sOne _) (by simp [i64s]; omega) (by simp) ?_)
      intro v3 w3 hown hb
      have OW := hid hown
      have B3 := hid (hb.mono (Nat.le_refl _))
      have hsz : w2.heap.size ≤ w3.heap.size := by have := hb.size; simp at this; omega
      have SZ := hid hsz
      have B4 := hid ((below_a (below_a (Below.refl _ w2) (.cells #[] 3)) (.cells #[] 3)))
      clear hown hb hsz
      go_wp2_with (with_reducible refine wpList_append_vals rfl (.tmp 39) (.tmp 42) 22 rfl w2.heap.size 3 i0 (.int .i64 0) 8 Try.underlying22 hi hz0 hz1 hz2 rfl (by decide) v3 _ _ rfl (OW.out.alloc _) _ [.int .i64 z] rfl (vals_one _ _ _) (by simp [Value.oneCell']) (by simp [i64s]; omega) (by simp; have := SZ.out; omega) ?_)
      intro v4 w4 hown hb
      have hiv : IntsAt w4 v4 (l ++ [z]) := ValsAt.ints (by have := owns_vals hown; simpa [i64s] using this) (by simp; omega)
      have C := hid (words_any v4 _ w4 hiv)
      have HE := hid (forged_end l want)
      rw [List.take_length] at HH
      rw [HH.out, hz] at HE
      rw [HE.out] at C
      have hb4 : Below W.heap.size W w4 := (below_step B2.out (((below_a (Below.refl _ w2) (.cells #[] 3)).trans (B3.out)).trans ((below_a (Below.refl _ w3) _).mono SZ.out |>.trans hb)))
      have B5 := hid hb4
      clear hb hb4 hown hiv
      go_wp2_with fail
      refine C.out.mono ?_
      rintro e w5 ⟨rfl, rfl⟩
      go_wp2_with fail
      go_ret
      exact ⟨rfl, B5.out⟩

set_option maxHeartbeats 1000000 in
theorem forged_big (n : Nat) (p : Option Addr) (c : Nat) (h60 : 60 < n) (want : BitVec 64) (W : World) :
    Calls Try.prog 8 #[.slice p n c, .int .u64 (want.toNat : Int)] W fun e w' => e = .returned (.bool true) ∧ Below W.heap.size W w' := by
  have x1 : decide ((60 : Int) < (n : Int)) = true := by simp; omega
  go_enter Try.func8, Try.ntmps8
  go_wp2_with fail
  refine (examples_any _).mono ?_
  rintro e w0 ⟨rfl, hb⟩
  have B0 := hid hb; clear hb
  go_wp2_with fail
  go_ret
  exact ⟨rfl, B0.out⟩

theorem digestForged_contract (H : Type) (enc : TypeId × Value → H) (W : World) (base : Nat) (args : Array Value) (ds gs : List (DataW H)) (before : List MemPlace)
    (hval : ∀ (j : Nat) t v, Try.f8.params[j]? = some t → args[j]? = some v → Value.okWide Try.prog W .any base t v)
    (hW : DataW.Whole enc Try.prog Try.f8.params.toList Rows.digestForgedSpec.vars false W args.toList ds gs before) :
    Calls Try.prog 8 args W fun e W' => ∃ v, e = .returned v ∧ Rows.digestForgedSpec.post enc Try.prog Try.f8 false true false false W args v W' := by
  have hW' := hW
  obtain ⟨p, q, hA0, hV, rfl, hfz, hnd⟩ := hW
  have hA : DataW.TrodAll enc Try.prog W 0 (fun _ => true) true Try.f8.params.toList args.toList ds p := hA0
  rw [Try.params8] at hA hval
  obtain ⟨v0, vs0, d0, ds0, p0, q0, hargs, rfl, rfl, h0, r0⟩ := trodAll_cons hA
  obtain ⟨v1, vs1, d1, ds1, p1, q1, rfl, rfl, rfl, h1, r1⟩ := trodAll_cons r0
  obtain ⟨rfl, rfl, rfl⟩ := trodAll_nil r1
  obtain rfl : args = #[v0, v1] := by cases args; simp_all
  obtain ⟨rfl, rfl⟩ := trodVars_none hV
  obtain ⟨t0, in0⟩ := open_intl (hval 0 _ v0 rfl rfl) h0
  obtain ⟨t1, rfl, rfl, rfl, wf1⟩ := open_int Try.underlying25 (hval 1 25 v1 rfl rfl) h1
  obtain ⟨x1, rfl⟩ := bdU wf1
  obtain ⟨pa, pc, rfl, iv0, iz0⟩ := in0
  by_cases h60 : t0.length ≤ 60
  · refine (forged_walk t0 pa pc h60 x1 W (iv0 (by omega))).mono fun e W' ⟨he, hg⟩ => ?_
    subst he
    exact ⟨_, rfl, post_true (T := 4) (by kernel_rfl) (by kernel_rfl) rfl rfl (by kernel_rfl) hW' hg rfl⟩
  · refine (forged_big t0.length pa pc (by omega) x1 W).mono fun e W' ⟨he, hg⟩ => ?_
    subst he
    exact ⟨_, rfl, post_true (T := 4) (by kernel_rfl) (by kernel_rfl) rfl rfl (by kernel_rfl) hW' hg rfl⟩


set_option maxRecDepth 100000 in
theorem digestForged_lifted (os : Os) (started : os.Started) (H : Type) (enc : TypeId × Value → H) :
    ReturnsInHanded {} Try.checked os 8 .any (Rows.digestForgedSpec.pre6 enc Try.prog Try.f8 Rows.digestForgedRow.domain false) (Rows.digestForgedSpec.post enc Try.prog Try.f8 false true false false) := by
  refine returnsInHanded_of_change (C := Try.checked) own started (by kernel_rfl) Try.func8
    (ChangeSpec.witness6 (enc := enc) (C := Try.checked) false ⟨#[], #[.slice none 0 0, .int .u64 0], []⟩ 8 (by kernel_rfl) (by kernel_rfl) (by kernel_rfl) (by kernel_rfl)) ?_
  intro W base args ds gs before hval hW _ _
  exact digestForged_contract H enc W base args ds gs before hval hW

theorem digestForged_holds : Rows.DigestForgedSaid :=
  OpenClaim.holds_of_wide 8 Try.f8 rfl rfl rfl rfl rfl rfl rfl ⟨rfl, rfl, rfl, rfl, rfl⟩ rfl rfl rfl rfl rfl (by kernel_rfl) Try.func8 (by kernel_rfl)
    (of_decide_eq_true (by kernel_rfl)) (by unfold Func.isWrapper; rw [if_neg (of_decide_eq_false (by kernel_rfl))]; exact ⟨rfl, rfl⟩)
    (fun os started H enc _ => digestForged_lifted os started H enc)
end Go.Proofs.Ytfoiadabppnibaa

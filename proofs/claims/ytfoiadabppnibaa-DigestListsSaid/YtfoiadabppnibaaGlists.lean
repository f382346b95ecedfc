/-
  The law DigestLists of package digest holds: lists of one length that differ in exactly one word have different digests; equal ones have the same.
  No condition: every input that the row speaks of.
-/
import Derived.Test.YtfoiadabppnibaaGa
import Derived.Test.YtfoiadabppnibaaGpost
import Derived.Deep.AppendLies
import Derived.Deep.RegionHeld3
namespace Go.Proofs.Ytfoiadabppnibaa
open Go.ChangeShapes Go.WideShapes Go.ChangeAt Go.RowKit
set_option linter.unusedVariables false

theorem and63 (i : Int) : ∃ j : Nat, j ≤ 63 ∧ bits .and .i64 i 63 = (j : Int) := by
  refine ⟨(BitVec.ofInt 64 i &&& 63#64).toNat, ?_, ?_⟩
  · rw [BitVec.toNat_and]
    exact Nat.and_le_right
  · have h : (BitVec.ofInt 64 i &&& 63#64).toNat ≤ 63 := by rw [BitVec.toNat_and]; exact Nat.and_le_right
    show IntKind.i64.wrap (((BitVec.ofInt 64 i &&& 63#64).toNat : Nat) : Int) = _
    rw [IntKind.wrap_i64]
    omega
theorem take_vals (w : World) (b o c n : Nat) (l : List Int) (h : ∀ i, i < l.length → w.cell? ⟨b, o + i, none⟩ = some (.int .i64 (l.getD i 0))) (hn : n ≤ l.length) : ValsAt w (.slice (some ⟨b, o, none⟩) n c) (i64s (l.take n)) := by
  have e : (i64s (l.take n)).length = n := by simp [i64s]; omega
  refine ⟨some ⟨b, o, none⟩, c, by rw [e], (fun h => by cases h), fun _ => ⟨b, o, rfl, fun i u hi => ?_⟩⟩
  have hlt : i < n := by have := (List.getElem?_eq_some_iff.1 hi).1; omega
  rw [h i (by omega), ← hi]
  simp [i64s, List.getD, List.getElem?_take_of_lt hlt, List.getElem?_eq_getElem (show i < l.length by omega)]
theorem set_last (l : List Int) (n : Nat) (h : l.length = n + 1) (v : Int) : l.set n v = l.take n ++ [v] := by
  rw [List.set_eq_take_append_cons_drop, if_pos (by omega), List.drop_eq_nil_of_le (by omega)]
def lW (w : World) (b o : Nat) (kk n1 : Nat) (lk ln : Int) : Prop := w.cell? ⟨b, o + kk, none⟩ = some (.int .i64 lk) ∧ w.cell? ⟨b, o + n1, none⟩ = some (.int .i64 ln)
set_option maxRecDepth 100000 in
set_option maxHeartbeats 8000000 in
theorem lists_walk (l : List Int) (b o c : Nat) (h0 : 0 < l.length) (h60 : l.length ≤ 60) (hlc : l.length ≤ c) (hcm : c ≤ 9223372036854775807) (ni nw : Int) (hl : ∀ z ∈ l, -9223372036854775808 ≤ z ∧ z ≤ 9223372036854775807) (hw : -9223372036854775808 ≤ nw ∧ nw ≤ 9223372036854775807) (W : World)
    (hv : ∀ i, i < l.length → W.cell? ⟨b, o + i, none⟩ = some (.int .i64 (l.getD i 0))) :
    Calls Try.prog 5 #[.slice (some ⟨b, o, none⟩) l.length c, .int .i64 ni, .int .i64 nw] W fun e w' => e = .returned (.bool true) ∧ Below W.heap.size W w' := by
  obtain ⟨i0, hi, hz0, hz1, hz2⟩ := info_parts infoInt
  obtain ⟨j, hj, hb63⟩ := and63 ni
  obtain ⟨kk, hkk⟩ : ∃ kk : Nat, j % l.length = kk := ⟨_, rfl⟩
  have hk : kk < l.length := by rw [← hkk]; exact Nat.mod_lt _ h0
  have hmod : (j : Int) % (l.length : Int) = (kk : Int) := by rw [← hkk]; omega
  obtain ⟨n1, hn1⟩ : ∃ n1 : Nat, l.length = n1 + 1 := ⟨l.length - 1, by omega⟩
  have hn2 : (l.length : Int) - 1 = (n1 : Int) := by omega
  have hn3 : n1 < l.length := by omega
  have q1 := eq_iff' (words_set l kk nw hk hw (hl _ (List.getElem_mem hk)))
  have q2 := eq_iff' (words_set l n1 nw hn3 hw (hl _ (List.getElem_mem hn3)))
  rw [set_last l n1 hn1 nw] at q2
  have hc1 := hv kk hk
  have hc2 := hv n1 hn3
  rw [show l.getD kk 0 = l[kk] by simp [List.getD, List.getElem?_eq_getElem hk]] at hc1
  rw [show l.getD n1 0 = l[n1] by simp [List.getD, List.getElem?_eq_getElem hn3]] at hc2
  obtain ⟨lk, hlk⟩ : ∃ z : Int, l[kk] = z := ⟨_, rfl⟩
  obtain ⟨ln, hln⟩ : ∃ z : Int, l[n1] = z := ⟨_, rfl⟩
  rw [hlk] at q1 hc1
  rw [hln] at q2 hc2
  have KL := hid (show (i64s l)[kk]? = some (.int .i64 lk) by simp [i64s, List.getElem?_eq_getElem hk, hlk])
  have HV := hid hv
  have HC1 := hid hc1
  have HC2 := hid hc2
  have HN1 := hid hn1
  have iv : IntsAt W (.slice (some ⟨b, o, none⟩) l.length c) l := ⟨by omega, _, _, rfl, (fun h => by cases h), fun _ => ⟨b, o, rfl, hv⟩⟩
  have IV := hid iv
  have HL := hid (show (i64s l).length = l.length by simp [i64s])
  clear hv hkk hlk hln hc1 hc2 hn1 hl hw iv
  have t1 : ((l.length : Int) == 0) = false := by rw [beq_eq_false_iff_ne]; omega
  have t2 : decide ((60 : Int) < (l.length : Int)) = false := by simp; omega
  go_enter Try.func5, Try.ntmps5
  go_wp2_with fail
  refine (examples_any _).mono ?_
  rintro e w0 ⟨rfl, hb⟩
  have B0 := hid hb; clear hb
  have V0 := hid ((IV.out.below B0.out).vals)
  have VP := hid (fun i (hi : i < l.length) => cell_below B0.out (HV.out i hi))
  go_wp2_with (with_reducible refine wpList_append_new rfl (.tmp 30) (.tmp 31) 22 rfl 3 i0 (.int .i64 0) 8 Try.underlying22 hi hz0 hz1 hz2 rfl (by decide) w0 rfl rfl (.slice (some ⟨b, o, none⟩) l.length c) (i64s l) rfl V0.out (i64sOne _) (by rw [HL.out]; omega) (by rw [HL.out]; exact h0) ?_)
  intro g cap w1 hown hb hg1 hg2
  rw [HL.out] at hown
  rw [HL.out]
  have hcell := hown.cellAt kk (by omega)
  rw [KL.out] at hcell
  have hfr := hown.frozenAt kk
  have hst := hown.stored kk (.int .i64 nw)
  have hB2 : Below w0.heap.size w0 (w1.setCell ⟨g, kk, none⟩ (.int .i64 nw)) := hb.setCell hg1 _
  have hsz : (w1.setCell ⟨g, kk, none⟩ (.int .i64 nw)).heap.size = w1.heap.size := by simp [World.setCell]
  have OW2 := hid (show ((w1.setCell ⟨g, kk, none⟩ (.int .i64 nw)).alloc (.cells #[] 3)).ownsRow w1.heap.size 3 1 (.slice (some ⟨w1.heap.size, 0, none⟩) 0 0) 0 [] by
    have := own_new (w1.setCell ⟨g, kk, none⟩ (.int .i64 nw)) 3
    rwa [hsz] at this)
  have V2 := hid (show ValsAt ((w1.setCell ⟨g, kk, none⟩ (.int .i64 nw)).alloc (.cells #[] 3)) (.slice (some ⟨b, o, none⟩) n1 c) (i64s (l.take n1)) from (take_vals _ b o c n1 l (fun i hi => cell_below hB2 (VP.out i hi)) (by omega)).below (below_a0 _ _))
  have HO := hid (show IntsAt (w1.setCell ⟨g, kk, none⟩ (.int .i64 nw)) (.slice (some ⟨g, 0, none⟩) l.length cap) (l.set kk nw) from ValsAt.ints (by have := owns_vals hst.1; rwa [show i64s (l.set kk nw) = (i64s l).set kk (.int .i64 nw) by simp [i64s, List.map_set]]) (by simp; omega))
  have HS := hid hsz
  have B1 := hid (below_step B0.out hB2)
  have HB2 := hid hB2
  have hg0 := hg2
  have HL2 := hid (show (i64s (l.take n1)).length = n1 by simp [i64s]; omega)
  clear hown hb hg1 hg2 hst hB2 hsz
  go_wp2_with (with_reducible refine wpList_append_vals rfl (.tmp 37) (.tmp 42) 22 rfl w1.heap.size 3 i0 (.int .i64 0) 8 Try.underlying22 hi hz0 hz1 hz2 rfl (by decide) (.slice (some ⟨w1.heap.size, 0, none⟩) 0 0) 0 [] rfl OW2.out (.slice (some ⟨b, o, none⟩) n1 c) (i64s (l.take n1)) rfl V2.out (i64sOne _) (by rw [HL2.out]; omega) (by simp) ?_)
  intro v3 w3 hown hb
  have OW := hid hown
  have hsz : w1.heap.size ≤ w3.heap.size := by have := hb.size; simp [World.setCell] at this; omega
  have SZ := hid hsz
  have B3 := hid ((below_a0 (w1.setCell ⟨g, kk, none⟩ (.int .i64 nw)) (.cells #[] 3)).trans (hb.mono (by rw [HS.out]; exact Nat.le_refl _)))
  clear hown hb hsz
  go_wp2_with (with_reducible refine wpList_append_vals rfl (.tmp 43) (.tmp 45) 22 rfl w1.heap.size 3 i0 (.int .i64 0) 8 Try.underlying22 hi hz0 hz1 hz2 rfl (by decide) v3 _ _ rfl (OW.out.alloc _) _ [.int .i64 nw] rfl (vals_one _ _ _) (by simp [Value.oneCell']) (by simp only [HL2.out, List.length_cons, List.length_nil]; omega) (by simp; have := SZ.out; omega) ?_)
  intro v4 w4 hown hb
  have hiv : IntsAt w4 v4 (l.take n1 ++ [nw]) := ValsAt.ints (by have := owns_vals hown; simpa [i64s] using this) (by simp; omega)
  have B4 := hid (B3.out.trans (((below_a0 w3 (.cells #[.int .i64 nw] 3)).mono (by rw [HS.out]; exact SZ.out)).trans (hb.mono (by rw [HS.out]; exact Nat.le_refl _))))
  have BW := hid (below_step B1.out B4.out)
  have IL := hid (IV.out.below BW.out)
  have IO := hid (HO.out.below B4.out)
  have IV4 := hid hiv
  have P1 := hid (cell_below BW.out HC1.out)
  have P2 := hid (cell_below BW.out HC2.out)
  clear hown hb hiv
  go_wp2_with fail
  refine (words_any _ _ _ IL.out).mono ?_
  rintro e w5 ⟨rfl, rfl⟩
  go_wp2_with fail
  refine (words_any _ _ _ IV4.out).mono ?_
  rintro e w6 ⟨rfl, rfl⟩
  go_wp2_with fail
  have hsA := Below.refl w4.heap.size w4
  have hsd := hsA.drew
  have CO := hid (fun W' (h : Below w4.heap.size w4 W') => words_any _ _ W' (IO.out.below h))
  have VD := hid (show ValsAt w4.drew (.slice (some ⟨b, o, none⟩) l.length c) (i64s l) from (IL.out.below hsd).vals)
  have hLs := HL.out
  have hw1 : IntKind.i64.wrap (n1 : Int) = (n1 : Int) := by rw [IntKind.wrap_i64]; omega
  have hw2 : IntKind.i64.wrap ((l.length : Int) - 1) = (n1 : Int) := by rw [hn2]; exact hw1
  have hw3 : (n1 : Int) < (l.length : Int) := by omega
  have hw4 : (0 : Int) ≤ (n1 : Int) := by omega
  have hw5 : (kk : Int) < (l.length : Int) := by omega
  have hw6 : (0 : Int) ≤ (kk : Int) := by omega
  go_region_held3 (fun W' => W'.cell? ⟨b, o + kk, none⟩ = some (.int .i64 lk) ∧ W'.cell? ⟨b, o + n1, none⟩ = some (.int .i64 ln) ∧ Below w4.heap.size w4 W')
    (first | (with_reducible exact ⟨P1.out, P2.out, hsA⟩) | (with_reducible exact ⟨cell_below hsd P1.out, cell_below hsd P2.out, hsd⟩) | (exact ⟨cell_below (below_a hsd _) P1.out, cell_below (below_a hsd _) P2.out, below_a hsd _⟩) | (with_reducible exact ⟨cell_below (by with_reducible assumption) P1.out, cell_below (by with_reducible assumption) P2.out, by with_reducible assumption⟩) | fail)
    (first
      | (go_at_call_of 11 (Value.slice (some ⟨g, 0, none⟩) l.length cap); (with_reducible refine (CO.out _ (by with_reducible assumption)).mono ?_); rintro e y1 ⟨rfl, rfl⟩)
      | (refine step_append_new (by rfl) (.tmp 64) (.tmp 65) 22 (by rfl) 3 i0 (.int .i64 0) 8 Try.underlying22 hi hz0 hz1 hz2 (by rfl) (by decide) w4.drew (by rfl) w4.heap.size (by rfl) (by rfl) (.slice (some ⟨b, o, none⟩) l.length c) (i64s l) (by rfl) VD.out (i64sOne _) (by rw [HL.out]; omega) (by rw [HL.out]; exact h0) ?_; intro g5 cp5 w5 hown5 hb5 _ _; have hz5 : Below w4.heap.size w4 w5 := hsd.trans hb5; have I5 := hid (show IntsAt w5 (.slice (some ⟨g5, 0, none⟩) l.length cp5) l by have h5 := ValsAt.ints (owns_vals hown5) (by omega); rwa [HL.out] at h5))
      | (go_at_call 11; (with_reducible refine (words_any _ _ _ I5.out).mono ?_); rintro e y2 ⟨rfl, rfl⟩))
  all_goals
    go_wp2_with fail
    go_ret
    exact ⟨rfl, below_step BW.out (show Below w4.heap.size w4 _ by assumption)⟩

set_option maxHeartbeats 1000000 in
theorem lists_other (n : Nat) (p : Option Addr) (c : Nat) (h60 : n = 0 ∨ 60 < n) (ni nw : Int) (W : World) :
    Calls Try.prog 5 #[.slice p n c, .int .i64 ni, .int .i64 nw] W fun e w' => e = .returned (.bool true) ∧ Below W.heap.size W w' := by
  rcases h60 with rfl | h60
  · go_enter Try.func5, Try.ntmps5
    go_wp2_with fail
    refine (examples_any _).mono ?_
    rintro e w0 ⟨rfl, hb⟩
    have B0 := hid hb; clear hb
    go_wp2_with fail
    go_ret
    exact ⟨rfl, B0.out⟩
  · have x1 : decide ((60 : Int) < (n : Int)) = true := by simp; omega
    have x2 : ((n : Int) == 0) = false := by rw [beq_eq_false_iff_ne]; omega
    go_enter Try.func5, Try.ntmps5
    go_wp2_with fail
    refine (examples_any _).mono ?_
    rintro e w0 ⟨rfl, hb⟩
    have B0 := hid hb; clear hb
    go_wp2_with fail
    go_ret
    exact ⟨rfl, B0.out⟩

theorem digestLists_contract (H : Type) (enc : TypeId × Value → H) (W : World) (base : Nat) (args : Array Value) (ds gs : List (DataW H)) (before : List MemPlace)
    (hval : ∀ (j : Nat) t v, Try.f5.params[j]? = some t → args[j]? = some v → Value.okWide Try.prog W .any base t v)
    (hW : DataW.Whole enc Try.prog Try.f5.params.toList Rows.digestListsSpec.vars false W args.toList ds gs before) :
    Calls Try.prog 5 args W fun e W' => ∃ v, e = .returned v ∧ Rows.digestListsSpec.post enc Try.prog Try.f5 false true false false W args v W' := by
  have hW' := hW
  obtain ⟨p, q, hA0, hV, rfl, hfz, hnd⟩ := hW
  have hA : DataW.TrodAll enc Try.prog W 0 (fun _ => true) true Try.f5.params.toList args.toList ds p := hA0
  rw [Try.params5] at hA hval
  obtain ⟨v0, vs0, d0, ds0, p0, q0, hargs, rfl, rfl, h0, r0⟩ := trodAll_cons hA
  obtain ⟨v1, vs1, d1, ds1, p1, q1, rfl, rfl, rfl, h1, r1⟩ := trodAll_cons r0
  obtain ⟨v2, vs2, d2, ds2, p2, q2, rfl, rfl, rfl, h2, r2⟩ := trodAll_cons r1
  obtain ⟨rfl, rfl, rfl⟩ := trodAll_nil r2
  obtain rfl : args = #[v0, v1, v2] := by cases args; simp_all
  obtain ⟨rfl, rfl⟩ := trodVars_none hV
  obtain ⟨t0, in0⟩ := open_intl (hval 0 _ v0 rfl rfl) h0
  obtain ⟨t1, rfl, rfl, rfl, wf1⟩ := open_int Try.underlying3 (hval 1 3 v1 rfl rfl) h1
  obtain ⟨t2, rfl, rfl, rfl, wf2⟩ := open_int Try.underlying3 (hval 2 3 v2 rfl rfl) h2
  obtain ⟨pa, pc, rfl, iv0, iz0, ic0, im0⟩ := in0
  by_cases h60 : t0.length = 0 ∨ 60 < t0.length
  · refine (lists_other t0.length pa pc h60 t1 t2 W).mono fun e W' ⟨he, hg⟩ => ?_
    subst he
    exact ⟨_, rfl, post_true (T := 4) (by kernel_rfl) (by kernel_rfl) rfl rfl (by kernel_rfl) hW' hg rfl⟩
  · obtain ⟨-, p', c', e1, -, h2⟩ := iv0 (by omega)
    simp only [Value.slice.injEq, true_and] at e1
    obtain ⟨rfl, rfl⟩ := e1
    obtain ⟨b, o, rfl, hc⟩ := h2 (by omega)
    refine (lists_walk t0 b o pc (by omega) (by omega) ic0 im0 t1 t2 iz0 (bd64 wf2) W hc).mono fun e W' ⟨he, hg⟩ => ?_
    subst he
    exact ⟨_, rfl, post_true (T := 4) (by kernel_rfl) (by kernel_rfl) rfl rfl (by kernel_rfl) hW' hg rfl⟩


set_option maxRecDepth 100000 in
theorem digestLists_lifted (os : Os) (started : os.Started) (H : Type) (enc : TypeId × Value → H) :
    ReturnsInHanded {} Try.checked os 5 .any (Rows.digestListsSpec.pre6 enc Try.prog Try.f5 Rows.digestListsRow.domain false) (Rows.digestListsSpec.post enc Try.prog Try.f5 false true false false) := by
  refine returnsInHanded_of_change (C := Try.checked) own started (by kernel_rfl) Try.func5
    (ChangeSpec.witness6 (enc := enc) (C := Try.checked) false ⟨#[], #[.slice none 0 0, .int .i64 0, .int .i64 0], []⟩ 8 (by kernel_rfl) (by kernel_rfl) (by kernel_rfl) (by kernel_rfl)) ?_
  intro W base args ds gs before hval hW _ _
  exact digestLists_contract H enc W base args ds gs before hval hW

theorem digestLists_holds : Rows.DigestListsSaid :=
  OpenClaim.holds_of_wide 5 Try.f5 rfl rfl rfl rfl rfl rfl rfl ⟨rfl, rfl, rfl, rfl, rfl⟩ rfl rfl rfl rfl rfl (by kernel_rfl) Try.func5 (by kernel_rfl)
    (of_decide_eq_true (by kernel_rfl)) (by unfold Func.isWrapper; rw [if_neg (of_decide_eq_false (by kernel_rfl))]; exact ⟨rfl, rfl⟩)
    (fun os started H enc _ => digestLists_lifted os started H enc)
end Go.Proofs.Ytfoiadabppnibaa

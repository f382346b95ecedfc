/-
  The law DigestBytes of package digest holds: bytes of one length that differ in exactly one byte have different digests; so have at most 7 bytes, and the same with a zero behind them.
  No condition: every input that the row speaks of.
-/
import Derived.Test.YtfoiadabppnibaaGa
import Derived.Test.YtfoiadabppnibaaGpost
import Derived.Deep.RegionHeld3
namespace Go.Proofs.Ytfoiadabppnibaa
open Go.ChangeShapes Go.WideShapes Go.ChangeAt Go.RowKit
set_option linter.unusedVariables false

theorem and1023 (i : Int) : ∃ j : Nat, j ≤ 1023 ∧ bits .and .i64 i 1023 = (j : Int) := by
  refine ⟨(BitVec.ofInt 64 i &&& 1023#64).toNat, ?_, ?_⟩
  · rw [BitVec.toNat_and]
    exact Nat.and_le_right
  · have h : (BitVec.ofInt 64 i &&& 1023#64).toNat ≤ 1023 := by rw [BitVec.toNat_and]; exact Nat.and_le_right
    show IntKind.i64.wrap (((BitVec.ofInt 64 i &&& 1023#64).toNat : Nat) : Int) = _
    rw [IntKind.wrap_i64]
    omega
theorem vals8_len (l : List UInt8) : (vals8 l).length = l.length := by simp [vals8]
theorem BytesAt.vals {w : World} {v : Value} {l : List UInt8} (h : BytesAt w v l) : ValsAt w v (vals8 l) := by
  obtain ⟨hm, p, c, rfl, c1, c2, hp, h2⟩ := h
  refine ⟨p, c, by rw [vals8_len], hp, fun h0 => ?_⟩
  rw [vals8_len] at h0
  obtain ⟨b, o, rfl, h3⟩ := h2 h0
  refine ⟨b, o, rfl, fun i u hi => ?_⟩
  have hlt : i < l.length := by have := (List.getElem?_eq_some_iff.1 hi).1; rwa [vals8_len] at this
  rw [h3 i hlt, ← hi]
  simp [vals8, List.getElem?_eq_getElem hlt]
theorem owns_bytes {w : World} {base : Nat} {e : TypeId} {v : Value} {n : Nat} {l : List UInt8} (h : w.ownsRow base e 1 v n (vals8 l)) (hm : l.length ≤ 1000000) : BytesAt w v l := by
  have hl : l.length = n := by have := h.1; rw [vals8_len] at this; omega
  obtain ⟨p, c, hv, hp, h2⟩ := owns_vals h
  have hcap : n ≤ c ∧ c ≤ 9223372036854775807 := by
    rcases h.2 with ⟨h3, h0⟩ | ⟨g, cap, cur, h3, hb, hg, h4, h5, -⟩
    · rw [hv] at h3
      simp only [Value.slice.injEq] at h3
      omega
    · rw [hv] at h3
      simp only [Value.slice.injEq] at h3
      unfold maxLen at h5
      omega
  refine ⟨hm, p, c, by rw [hv, vals8_len], by omega, hcap.2, hp, fun h0 => ?_⟩
  obtain ⟨b, o, rfl, h3⟩ := h2 (by rw [vals8_len]; exact h0)
  exact ⟨b, o, rfl, fun i hi => h3 i _ (by simp [vals8, List.getElem?_eq_getElem hi])⟩
theorem vals8_set (l : List UInt8) (k : Nat) (v : UInt8) : vals8 (l.set k v) = (vals8 l).set k (.int .u8 (v.toNat : Int)) := by simp [vals8, List.map_set]
theorem u8_beq (a b : UInt8) : ((a.toNat : Int) == (b.toNat : Int)) = (a == b) := by
  by_cases h : a = b
  · subst h; simp
  · have h1 : ((a.toNat : Int) == (b.toNat : Int)) = false := by
      rw [beq_eq_false_iff_ne]
      intro e
      exact h (UInt8.toNat_inj.1 (by omega))
    rw [h1]
    simp [h]
theorem eq_ub {a b : BitVec 64} {c d : UInt8} (h : a = b ↔ c = d) : ((b.toNat : Int) == (a.toNat : Int)) = (c == d) := by
  by_cases e : c = d
  · rw [h.2 e, e]; simp
  · have e2 : ¬ a = b := fun k => e (h.1 k)
    have f1 : ((b.toNat : Int) == (a.toNat : Int)) = false := by simp; exact fun k => e2 (BitVec.eq_of_toNat_eq (by omega))
    have f2 : (c == d) = false := by simp; exact e
    rw [f1, f2]
set_option maxRecDepth 100000 in
set_option maxHeartbeats 8000000 in
theorem bytes_walk (l : List UInt8) (b o c : Nat) (h0 : 0 < l.length) (h200 : l.length ≤ 200) (hlc : l.length ≤ c) (hcm : c ≤ 9223372036854775807) (ni : Int) (v : UInt8) (W : World)
    (hv : ∀ i (hi : i < l.length), W.cell? ⟨b, o + i, none⟩ = some (.int .u8 (l[i].toNat : Int))) :
    Calls Try.prog 6 #[.slice (some ⟨b, o, none⟩) l.length c, .int .i64 ni, .int .u8 (v.toNat : Int)] W fun e w' => e = .returned (.bool true) ∧ Below W.heap.size W w' := by
  obtain ⟨i0, hi, hz0, hz1, hz2⟩ := info_parts infoU8
  obtain ⟨j, hj, hb63⟩ := and1023 ni
  obtain ⟨kk, hkk⟩ : ∃ kk : Nat, j % l.length = kk := ⟨_, rfl⟩
  have hk : kk < l.length := by rw [← hkk]; exact Nat.mod_lt _ h0
  have hmod : (j : Int) % (l.length : Int) = (kk : Int) := by rw [← hkk]; omega
  have hc1 := hv kk hk
  have hq := bytes_set l kk v hk
  have KL := hid (show (vals8 l)[kk]? = some (.int .u8 (l[kk].toNat : Int)) by simp [vals8, List.getElem?_eq_getElem hk])
  obtain ⟨lk, hlk⟩ : ∃ z : UInt8, l[kk] = z := ⟨_, rfl⟩
  rw [hlk] at hq hc1 KL
  have q1 : (((bytesB l).toNat : Int) == ((bytesB (l.set kk v)).toNat : Int)) = ((v.toNat : Int) == (lk.toNat : Int)) := by
    rw [u8_beq]
    exact eq_ub hq
  have HV := hid hv
  have HC1 := hid hc1
  have iv : BytesAt W (.slice (some ⟨b, o, none⟩) l.length c) l := ⟨by omega, _, _, rfl, hlc, hcm, (fun h => by cases h), fun _ => ⟨b, o, rfl, hv⟩⟩
  have IV := hid iv
  have HL := hid (vals8_len l)
  clear hv hkk hlk hc1 iv hq
  have t1 : ((l.length : Int) == 0) = false := by rw [beq_eq_false_iff_ne]; omega
  have t2 : decide ((200 : Int) < (l.length : Int)) = false := by simp; omega
  go_enter Try.func6, Try.ntmps6
  go_wp2_with fail
  refine (examples_any _).mono ?_
  rintro e w0 ⟨rfl, hb⟩
  have B0 := hid hb; clear hb
  have V0 := hid ((IV.out.below B0.out).vals)
  go_wp2_with (with_reducible refine wpList_append_new rfl (.tmp 27) (.tmp 28) 23 rfl 5 i0 (.int .u8 0) 1 Try.underlying23 hi hz0 hz1 hz2 rfl (by decide) w0 rfl rfl (.slice (some ⟨b, o, none⟩) l.length c) (vals8 l) rfl V0.out (u8One _) (by rw [HL.out]; omega) (by rw [HL.out]; exact h0) ?_)
  intro g cap w1 hown hb hg1 hg2
  rw [HL.out] at hown
  rw [HL.out]
  have hcell := hown.cellAt kk (by omega)
  rw [KL.out] at hcell
  have hfr := hown.frozenAt kk
  have hst := hown.stored kk (.int .u8 (v.toNat : Int))
  have hB2 : Below w0.heap.size w0 (w1.setCell ⟨g, kk, none⟩ (.int .u8 (v.toNat : Int))) := hb.setCell hg1 _
  have IO := hid (show BytesAt (w1.setCell ⟨g, kk, none⟩ (.int .u8 (v.toNat : Int))) (.slice (some ⟨g, 0, none⟩) l.length cap) (l.set kk v) from by
    have h5 := hst.1
    rw [← vals8_set] at h5
    exact owns_bytes h5 (by simp; omega))
  have B1 := hid (below_step B0.out hB2)
  have hs1 : ((w1.setCell ⟨g, kk, none⟩ (.int .u8 (v.toNat : Int)))).heap.size = w1.heap.size := by simp [World.setCell]
  have HS := hid hs1
  clear hown hb hg1 hst hB2 hs1
  go_wp2_with fail
  obtain ⟨w2, hw2⟩ : ∃ w2, (w1.setCell ⟨g, kk, none⟩ (.int .u8 (v.toNat : Int))) = w2 := ⟨_, rfl⟩
  rw [hw2] at IO B1 HS ⊢
  clear hw2
  have IL := hid (IV.out.below B1.out)
  have P1 := hid (cell_below B1.out HC1.out)
  have hsA := Below.refl w2.heap.size w2
  have hsd := hsA.drew
  have C1 := hid (fun W' (h : Below w2.heap.size w2 W') => bytes_any _ _ W' (IL.out.below h))
  have C2 := hid (fun W' (h : Below w2.heap.size w2 W') => bytes_any _ _ W' (IO.out.below h))
  have hw5 : (kk : Int) < (l.length : Int) := by omega
  have hw6 : (0 : Int) ≤ (kk : Int) := by omega
  go_region_held3 (fun W' => W'.cell? ⟨b, o + kk, none⟩ = some (.int .u8 (lk.toNat : Int)) ∧ Below w2.heap.size w2 W')
    (first | (with_reducible exact ⟨P1.out, hsA⟩) | (with_reducible exact ⟨cell_below hsd P1.out, hsd⟩) | (with_reducible exact ⟨cell_below (by with_reducible assumption) P1.out, by with_reducible assumption⟩) | fail)
    (first
      | (go_at_call_of 12 (Value.slice (some ⟨g, 0, none⟩) l.length cap); (with_reducible refine (C2.out _ (by with_reducible assumption)).mono ?_); rintro e y1 ⟨rfl, hy1⟩; have hs1 : Below w2.heap.size w2 y1 := below_step (by with_reducible assumption) hy1)
      | (go_at_call_of 12 (Value.slice (some ⟨b, o, none⟩) l.length c); (with_reducible refine (C1.out _ (by with_reducible assumption)).mono ?_); rintro e y2 ⟨rfl, hy2⟩; have hs2 : Below w2.heap.size w2 y2 := below_step (by with_reducible assumption) hy2))
  have HB := hid (show Below w2.heap.size w2 y1 by assumption)
  have BY := hid (below_step B1.out HB.out)
  have IL2 := hid (IV.out.below BY.out)
  have VL2 := hid (IL2.out.vals)
  by_cases h8 : 8 ≤ l.length
  · have t8 : decide ((8 : Int) ≤ (l.length : Int)) = true := by simp; omega
    go_wp2_with fail
    go_ret
    exact ⟨rfl, BY.out⟩
  · have t8 : decide ((8 : Int) ≤ (l.length : Int)) = false := by simp; omega
    have hne : (((bytesB l).toNat : Int) != ((bytesB (l ++ [0])).toNat : Int)) = true := by
      have := bytes_zero l (by omega) (by omega)
      rw [bne_iff_ne]
      intro e
      exact this (BitVec.eq_of_toNat_eq (by omega))
    go_wp2_with fail
    refine (bytes_any _ _ _ IL2.out).mono ?_
    rintro e w4 ⟨rfl, hb⟩
    have B4 := hid (below_step BY.out hb)
    have VL4 := hid (VL2.out.below hb)
    clear hb
    go_wp2_with (with_reducible refine wpList_append_newg (by with_unfolding_all exact rfl) (.tmp 52) (.tmp 53) 23 rfl 5 i0 (.int .u8 0) 1 Try.underlying23 hi hz0 hz1 hz2 rfl (by decide) w4 rfl rfl (.slice (some ⟨b, o, none⟩) l.length c) (vals8 l) rfl VL4.out (u8One _) (by rw [HL.out]; omega) (by rw [HL.out]; exact h0) ?_)
    intro g5 cap5 w5 hown hb hg1 hg2
    have OW := hid hown
    have SZ := hid hb.size
    have B5 := hid (below_step B4.out hb)
    clear hown hb hg1 hg2
    go_wp2_with (with_reducible refine wpList_append_valsg (by with_unfolding_all exact rfl) (.tmp 54) (.tmp 55) 23 rfl w4.heap.size 5 i0 (.int .u8 0) 1 Try.underlying23 hi hz0 hz1 hz2 rfl (by decide) (.slice (some ⟨g5, 0, none⟩) (vals8 l).length cap5) _ _ rfl (OW.out.alloc _) (.slice (some ⟨w5.heap.size, 0, none⟩) 1 1) [.int .u8 0] rfl (vals_one _ _ _) (by simp [Value.oneCell']) (by simp only [HL.out, List.length_cons, List.length_nil]; omega) (by simp) (by simp; have := SZ.out; omega) ?_)
    intro v6 w6 hown hb
    have IB := hid (show BytesAt w6 v6 (l ++ [0]) from by
      have e1 : vals8 l ++ [Value.int .u8 0] = vals8 (l ++ [0]) := by simp [vals8]
      rw [e1] at hown
      exact owns_bytes hown (by simp; omega))
    have B6 := hid (B5.out.trans ((below_a (Below.refl _ w5) (.cells #[.int .u8 0] 5)).mono B5.out.size |>.trans (hb.mono B4.out.size)))
    clear hown hb
    go_wp2_with fail
    refine (bytes_any _ _ _ IB.out).mono ?_
    rintro e w7 ⟨rfl, hb⟩
    have B7 := hid (below_step B6.out hb)
    clear hb
    go_wp2_with fail
    go_ret
    exact ⟨rfl, B7.out⟩

set_option maxHeartbeats 1000000 in
theorem bytes_other (n : Nat) (p : Option Addr) (c : Nat) (h60 : n = 0 ∨ 200 < n) (ni nv : Int) (W : World) :
    Calls Try.prog 6 #[.slice p n c, .int .i64 ni, .int .u8 nv] W fun e w' => e = .returned (.bool true) ∧ Below W.heap.size W w' := by
  rcases h60 with rfl | h60
  · go_enter Try.func6, Try.ntmps6
    go_wp2_with fail
    refine (examples_any _).mono ?_
    rintro e w0 ⟨rfl, hb⟩
    have B0 := hid hb; clear hb
    go_wp2_with fail
    go_ret
    exact ⟨rfl, B0.out⟩
  · have x1 : decide ((200 : Int) < (n : Int)) = true := by simp; omega
    have x2 : ((n : Int) == 0) = false := by rw [beq_eq_false_iff_ne]; omega
    go_enter Try.func6, Try.ntmps6
    go_wp2_with fail
    refine (examples_any _).mono ?_
    rintro e w0 ⟨rfl, hb⟩
    have B0 := hid hb; clear hb
    go_wp2_with fail
    go_ret
    exact ⟨rfl, B0.out⟩

theorem digestBytes_contract (H : Type) (enc : TypeId × Value → H) (W : World) (base : Nat) (args : Array Value) (ds gs : List (DataW H)) (before : List MemPlace)
    (hval : ∀ (j : Nat) t v, Try.f6.params[j]? = some t → args[j]? = some v → Value.okWide Try.prog W .any base t v)
    (hW : DataW.Whole enc Try.prog Try.f6.params.toList Rows.digestBytesSpec.vars false W args.toList ds gs before) :
    Calls Try.prog 6 args W fun e W' => ∃ v, e = .returned v ∧ Rows.digestBytesSpec.post enc Try.prog Try.f6 false true false false W args v W' := by
  have hW' := hW
  obtain ⟨p, q, hA0, hV, rfl, hfz, hnd⟩ := hW
  have hA : DataW.TrodAll enc Try.prog W 0 (fun _ => true) true Try.f6.params.toList args.toList ds p := hA0
  rw [Try.params6] at hA hval
  obtain ⟨v0, vs0, d0, ds0, p0, q0, hargs, rfl, rfl, h0, r0⟩ := trodAll_cons hA
  obtain ⟨v1, vs1, d1, ds1, p1, q1, rfl, rfl, rfl, h1, r1⟩ := trodAll_cons r0
  obtain ⟨v2, vs2, d2, ds2, p2, q2, rfl, rfl, rfl, h2, r2⟩ := trodAll_cons r1
  obtain ⟨rfl, rfl, rfl⟩ := trodAll_nil r2
  obtain rfl : args = #[v0, v1, v2] := by cases args; simp_all
  obtain ⟨rfl, rfl⟩ := trodVars_none hV
  obtain ⟨t0, in0⟩ := open_bytesl (hval 0 _ v0 rfl rfl) h0
  obtain ⟨t1, rfl, rfl, rfl, wf1⟩ := open_int Try.underlying3 (hval 1 3 v1 rfl rfl) h1
  obtain ⟨t2, rfl, rfl, rfl, wf2⟩ := open_int Try.underlying5 (hval 2 5 v2 rfl rfl) h2
  obtain ⟨pa, pc, rfl, ic0, im0, iv0⟩ := in0
  obtain ⟨x2, rfl⟩ := bdB wf2
  by_cases h60 : t0.length = 0 ∨ 200 < t0.length
  · refine (bytes_other t0.length pa pc h60 t1 _ W).mono fun e W' ⟨he, hg⟩ => ?_
    subst he
    exact ⟨_, rfl, post_true (T := 4) (by kernel_rfl) (by kernel_rfl) rfl rfl (by kernel_rfl) hW' hg rfl⟩
  · obtain ⟨-, p', c', e1, -, -, -, h2⟩ := iv0 (by omega)
    simp only [Value.slice.injEq, true_and] at e1
    obtain ⟨rfl, rfl⟩ := e1
    obtain ⟨b, o, rfl, hc⟩ := h2 (by omega)
    refine (bytes_walk t0 b o pc (by omega) (by omega) ic0 im0 t1 x2 W hc).mono fun e W' ⟨he, hg⟩ => ?_
    subst he
    exact ⟨_, rfl, post_true (T := 4) (by kernel_rfl) (by kernel_rfl) rfl rfl (by kernel_rfl) hW' hg rfl⟩


set_option maxRecDepth 100000 in
theorem digestBytes_lifted (os : Os) (started : os.Started) (H : Type) (enc : TypeId × Value → H) :
    ReturnsInHanded {} Try.checked os 6 .any (Rows.digestBytesSpec.pre6 enc Try.prog Try.f6 Rows.digestBytesRow.domain false) (Rows.digestBytesSpec.post enc Try.prog Try.f6 false true false false) := by
  refine returnsInHanded_of_change (C := Try.checked) own started (by kernel_rfl) Try.func6
    (ChangeSpec.witness6 (enc := enc) (C := Try.checked) false ⟨#[], #[.slice none 0 0, .int .i64 0, .int .u8 0], []⟩ 8 (by kernel_rfl) (by kernel_rfl) (by kernel_rfl) (by kernel_rfl)) ?_
  intro W base args ds gs before hval hW _ _
  exact digestBytes_contract H enc W base args ds gs before hval hW

theorem digestBytes_holds : Rows.DigestBytesSaid :=
  OpenClaim.holds_of_wide 6 Try.f6 rfl rfl rfl rfl rfl rfl rfl ⟨rfl, rfl, rfl, rfl, rfl⟩ rfl rfl rfl rfl rfl (by kernel_rfl) Try.func6 (by kernel_rfl)
    (of_decide_eq_true (by kernel_rfl)) (by unfold Func.isWrapper; rw [if_neg (of_decide_eq_false (by kernel_rfl))]; exact ⟨rfl, rfl⟩)
    (fun os started H enc _ => digestBytes_lifted os started H enc)
end Go.Proofs.Ytfoiadabppnibaa

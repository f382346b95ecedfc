import Derived.Test.YtcjambgbbmffiaaNl
namespace Go.Proofs.Ytcjambgbbmffiaa
open Go.RowKit Go.Instr
set_option linter.unusedVariables false

/-! The reference's 'DepthC', 'SameInts'. -/
def RDepthCOk (t : Cd) : Prop := ∀ (x : Value) (w : World), cdIn w t x →
  Calls Try.prog 19 #[x] w fun e w' => e = .returned (.int .i64 (depthC t)) ∧ Below w.heap.size w w'
set_option maxRecDepth 100000 in
set_option maxHeartbeats 4000000 in
theorem rdepthC_step (op : Int) (l : List Ex) (r : List Cd) (IH : ∀ t, t ∈ r → RDepthCOk t) : RDepthCOk (.mk op l r) := by
  intro x w hx
  rw [cdIn] at hx
  obtain ⟨oa, ob, ca, cb, rfl, hl, hm, hxs, hl2, hm2, hcs⟩ := hx
  rw [depthC]
  have HI := hid IH; clear IH
  have Hxs := hid hxs; clear hxs
  have Hcs := hid hcs; clear hcs
  have Hlen := hid (depthsE_length l)
  have Hlen2 := hid (depthsC_length r)
  obtain ⟨len, hlen⟩ : ∃ len, l.length = len := ⟨_, rfl⟩
  obtain ⟨len2, hlen2⟩ : ∃ len, r.length = len := ⟨_, rfl⟩
  rw [hlen] at hl
  rw [hlen2] at hl2
  rw [hlen, hlen2]
  have Hl := hid hlen; clear hlen
  have Hl2 := hid hlen2; clear hlen2
  obtain ⟨W0, hW0⟩ : ∃ W0, w.alloc (.cells #[.int .i64 op, .slice oa len ca, .slice ob len2 cb] 27) = W0 := ⟨_, rfl⟩
  have hw0 : Below w.heap.size w W0 := by rw [← hW0]; exact below_a (Below.refl _ _) _
  have k0 : W0.cell? ⟨w.heap.size, 0, none⟩ = some (.int .i64 op) := by rw [← hW0]; simp [go_sem]
  have k1 : W0.cell? ⟨w.heap.size, 1, none⟩ = some (.slice oa len ca) := by rw [← hW0]; simp [go_sem]
  have k2 : W0.cell? ⟨w.heap.size, 2, none⟩ = some (.slice ob len2 cb) := by rw [← hW0]; simp [go_sem]
  have K0 := hid k0
  have K1 := hid k1
  have K2 := hid k2
  have BW := hid hw0
  clear hw0
  obtain ⟨m2, hm2e⟩ : ∃ m, cN op = m := ⟨_, rfl⟩
  have hm2b : m2 ≤ 2 := by rw [← hm2e]; unfold cN; split; · omega
                           split <;> omega
  obtain ⟨bE, hbE⟩ : ∃ b, decide (eN op = 2) = b := ⟨_, rfl⟩
  have HBE := hid hbE
  have CP := hid (fun W => by have := parts_any op W; rw [hm2e, hbE] at this; exact this)
  have HM2 := hid hm2e
  clear hm2e hbE
  go_enter Try.func19, Try.ntmps19
  go_wp2_with fail
  refine (CP.out _).mono ?_
  rintro e w1 ⟨rfl, rfl⟩
  clear hW0 k1 k2
  go_wp2_with fail
  clear k0
  go_loopw [3, 6] (fun d i wr => ∃ k : Nat, k ≤ m2 ∧ k ≤ len2 ∧ i = .int .i64 k ∧ d = .int .i64 (maxL ((depthsC r).take k)) ∧ Hid (Below W0.heap.size W0 wr)) (fun _ i _ => 2 - (intOf i).toNat)
  case atStart => exact ⟨0, Nat.zero_le _, Nat.zero_le _, rfl, rfl, hid (Below.refl _ _)⟩
  case round =>
    obtain ⟨k, hk, hkl, rfl, rfl, BR⟩ := hrel
    have q2 := cell_below BR.out K2.out
    by_cases hlt : k < m2 ∧ k < len2
    · obtain ⟨h1, h2⟩ := hlt
      obtain ⟨b, off, hob, hall⟩ := cdsIn_all Hcs.out (by intro h0; subst h0; have := Hl2.out; simp at this; omega)
      subst hob
      obtain ⟨t, ht⟩ : ∃ t, r[k]? = some t := ⟨_, List.getElem?_eq_getElem (by have := Hl2.out; omega)⟩
      obtain ⟨o', a', a2', ln', cp', ln2', cp2', c0, c1, c2, hin⟩ := hall k t ht
      have htake := hid (maxL_take _ _ _ (depthsC_at r k t ht))
      have hB := below_step BW.out BR.out
      have e0 := cell_below hB c0
      have e1 := cell_below hB c1
      have e2 := cell_below hB c2
      have Hti := hid (HI.out t (List.mem_of_getElem? ht) _ wr (cdIn_below hB _ _ hin))
      clear c0 c1 c2 hin ht hall hB
      go_wp2_with fail
      refine Hti.out.mono ?_
      rintro e w2 ⟨rfl, hb2⟩
      have BN := hid (below_step BR.out hb2)
      have hmx := maxL_nonneg ((depthsC r).take k)
      clear hb2 e0 e1 e2 q2
      go_wp2
      all_goals
        go_roundw
        case rel => exact ⟨k + 1, by omega, by omega, by go_num, by rw [htake.out] <;> first | rfl | (congr 1; omega), BN⟩
        case measure => simp [intOf]; omega
    · have hlen : (depthsC r).take (cN op) = (depthsC r).take k := by
        have h1 := Hlen2.out
        have h3 := Hl2.out
        rw [HM2.out]
        by_cases h4 : k = m2
        · rw [h4]
        · rw [List.take_of_length_le (by omega), List.take_of_length_le (by omega)]
      obtain ⟨A, hA⟩ : ∃ A, maxL ((depthsC r).take k) = A := ⟨_, rfl⟩
      have HCA := hid (show maxL ((depthsC r).take (cN op)) = A by rw [hlen, hA])
      have hAp : 0 ≤ A := by rw [← hA]; exact maxL_nonneg _
      rw [hA]
      have HR := hid hlt
      clear hlen hlt hA
      go_upto_region 4 with fail
      go_cut [23] (fun s wx => s = .bool false ∧ wx = wr)
      case first =>
        by_cases h1 : k < m2
        · have h2 : decide ((k : Int) < (len2 : Int)) = false := by have := HR.out; simp; omega
          have h3 : decide (k < len2) = false := by have := HR.out; simp; omega
          go_wp2_with fail
          go_meet
          exact ⟨rfl, rfl⟩
        · go_wp2_with fail
          go_meet
          exact ⟨rfl, rfl⟩
      case rest =>
        obtain ⟨rfl, rfl⟩ := hcut
        clear q2
        go_wp2_with fail
        go_loopw [3, 7] (fun d i wr => ∃ j : Nat, j ≤ 2 ∧ (j ≠ 0 → bE = true) ∧ j ≤ len ∧ i = .int .i64 j ∧ d = .int .i64 (max A (maxL ((depthsE l).take j))) ∧ Hid (Below W0.heap.size W0 wr)) (fun _ i _ => 2 - (intOf i).toNat)
        case atStart => exact ⟨0, by omega, fun h => absurd rfl h, Nat.zero_le _, rfl, by congr 1; simp [maxL]; omega, BR⟩
        case round =>
          obtain ⟨j, hj, hjb, hjl, rfl, rfl, BR2⟩ := hrel
          have q1 := cell_below BR2.out K1.out
          by_cases hlt : j < 2 ∧ j < len ∧ bE = true
          · obtain ⟨h1, h2, rfl⟩ := hlt
            obtain ⟨b, off, hoa, hall⟩ := exsIn_all Hxs.out (by intro h0; subst h0; have := Hl.out; simp at this; omega)
            subst hoa
            obtain ⟨t, ht⟩ : ∃ t, l[j]? = some t := ⟨_, List.getElem?_eq_getElem (by have := Hl.out; omega)⟩
            obtain ⟨o', n', v', a', ln', cp', c0, c1, c2, c3, hin⟩ := hall j t ht
            have htake := hid (maxL_take _ _ _ (depthsE_at l j t ht))
            have hB := below_step BW.out BR2.out
            have e0 := cell_below hB c0
            have e1 := cell_below hB c1
            have e2 := cell_below hB c2
            have e3 := cell_below hB c3
            have Hti := hid (rdepth_any t _ wr (exIn_below hB _ _ hin))
            obtain ⟨mx, hmx⟩ : ∃ mx, maxL ((depthsE l).take j) = mx := ⟨_, rfl⟩
            have hmxp : 0 ≤ mx := by rw [← hmx]; exact maxL_nonneg _
            rw [hmx] at htake ⊢
            obtain ⟨cur, hcur⟩ : ∃ cur, max A mx = cur := ⟨_, rfl⟩
            rw [hcur]
            have Hcur := hid hcur
            clear hcur hmx
            clear c0 c1 c2 c3 hin ht hall hB
            go_wp2_with fail
            refine Hti.out.mono ?_
            rintro e w2 ⟨rfl, hb2⟩
            have BN := hid (below_step BR2.out hb2)
            clear hb2 e0 e1 e2 e3 q1
            go_wp2
            all_goals
              go_roundw
              case rel => exact ⟨j + 1, by omega, fun _ => (by first | rfl | trivial), by omega, by go_num, by rw [htake.out]; congr 1; have := Hcur.out; omega, BN⟩
              case measure => simp [intOf]; omega
          · have hlen : (depthsE l).take (eN op) = (depthsE l).take j := by
              have h1 := Hlen.out
              have h3 := Hl.out
              have h5 := HBE.out
              rcases eN_two (op := op) with h6 | h6
              · have hb : bE = true := by rw [← h5]; simp [h6]
                rw [h6]
                have h7 : ¬ (j < 2 ∧ j < len) := fun h => hlt ⟨h.1, h.2, hb⟩
                by_cases h4 : j = 2
                · rw [h4]
                · rw [List.take_of_length_le (by omega), List.take_of_length_le (by omega)]
              · have hb : bE = false := by rw [← h5]; simp [h6]
                have hj0 : j = 0 := by
                  apply Classical.byContradiction
                  intro h
                  rw [hjb h] at hb
                  cases hb
                rw [h6, hj0]
            have HF := hid (show max (maxL ((depthsE l).take (eN op))) (maxL ((depthsC r).take (cN op))) = max A (maxL ((depthsE l).take j)) by rw [hlen, HCA.out]; omega)
            have HB := hid (below_step BW.out BR2.out)
            have HR2 := hid hlt
            clear hlen hlt hjb
            by_cases h1 : j < 2
            · by_cases h2 : j < len
              · have h3 : bE = false := by
                  have := HR2.out
                  cases bE with
                  | false => rfl
                  | true => exact absurd ⟨h1, h2, rfl⟩ this
                subst h3
                go_wp2_with fail
                go_ret
                exact ⟨ret_i (by rw [HF.out]), HB.out⟩
              · cases bE
                all_goals
                  go_wp2_with fail
                  go_ret
                  exact ⟨ret_i (by rw [HF.out]), HB.out⟩
            · cases bE
              all_goals
                go_wp2_with fail
                go_ret
                exact ⟨ret_i (by rw [HF.out]), HB.out⟩
mutual
theorem rdepthC_any : ∀ t, RDepthCOk t
  | .mk op l r => rdepthC_step op l r (rdepthCs_any r)
theorem rdepthCs_any : ∀ (l : List Cd) (t : Cd), t ∈ l → RDepthCOk t
  | [], _, h => by cases h
  | u :: _, _, .head _ => rdepthC_any u
  | _ :: r, t, .tail _ h => rdepthCs_any r t h
end
set_option maxHeartbeats 1000000 in
theorem rsame_any (l : List Int) (s u : Value) (w : World) (hs : intsIn w l s) (hu : intsIn w l u) (hm : l.length ≤ 3000000) :
    Calls Try.prog 20 #[s, u] w fun e w' => e = .returned (.bool true) ∧ Below w.heap.size w w' := by
  obtain ⟨oa, ca, rfl, ha1, ha2, hac⟩ := hs
  obtain ⟨ob, cb, rfl, hb1, hb2, hbc⟩ := hu
  have HA := hid hac
  have HB := hid hbc
  obtain ⟨len, hlen⟩ : ∃ len, l.length = len := ⟨_, rfl⟩
  rw [hlen] at ha1 hb1 hm HA HB ⊢
  clear hac hbc hlen
  go_enter Try.func20, Try.ntmps20
  go_wp2_with fail
  go_loopw [5] (fun i wr => ∃ k : Nat, k ≤ len ∧ i = .int .i64 (k : Int) ∧ Hid (Below w.heap.size w wr)) (fun i _ => len - (intOf i).toNat)
  case atStart => exact ⟨0, Nat.zero_le _, rfl, hid (Below.refl _ _)⟩
  case round =>
    obtain ⟨k, hk, rfl, BR⟩ := hrel
    by_cases hlt : k < len
    · obtain ⟨b, off, rfl, hcell⟩ := HA.out k hlt
      obtain ⟨b', off', rfl, hcell2⟩ := HB.out k hlt
      obtain ⟨e, he⟩ : ∃ e, l.getD k 0 = e := ⟨_, rfl⟩
      rw [he] at hcell hcell2
      have q0 := cell_below BR.out hcell
      have q1 := cell_below BR.out hcell2
      have hki : (k : Int) < (len : Int) := by omega
      clear he hcell hcell2
      go_upto_region 6 with fail
      go_region
      go_wp2_with fail
      go_roundw
      case rel => exact ⟨k + 1, by omega, by go_num, hid BR.out.drew⟩
      case measure => simp [intOf]; omega
    · go_wp2
      go_ret
      exact ⟨rfl, BR.out⟩
end Go.Proofs.Ytcjambgbbmffiaa

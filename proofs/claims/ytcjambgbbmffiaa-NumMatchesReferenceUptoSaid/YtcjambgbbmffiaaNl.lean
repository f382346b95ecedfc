import Derived.Test.YtcjambgbbmffiaaNk
import Derived.Deep.CutRange
import Derived.Deep.DeepCutAuto
namespace Go.Proofs.Ytcjambgbbmffiaa
open Go.RowKit Go.Instr
set_option linter.unusedVariables false

/-! The reference's 'ReadsC', 'DepthC', 'SameInts'. -/
def RReadsCOk (t : Cd) : Prop := (rdC t).length ≤ 1100000 → ∀ (x : Value) (w : World), cdIn w t x →
  Calls Try.prog 24 #[x] w fun e w' => ∃ v', e = .returned v' ∧ intsIn w' (sortU (rdC t)) v' ∧ Below w.heap.size w w'
theorem sortU_swap (a b : List Int) : sortU (a ++ b) = sortU (b ++ a) :=
  sorted_ext _ _ (sortU_lt _) (sortU_lt _) (fun x => by rw [sortU_mem, sortU_mem, List.mem_append, List.mem_append, or_comm])
theorem eN_two {op : Int} : eN op = 2 ∨ eN op = 0 := by unfold eN; split <;> simp
set_option maxRecDepth 100000 in
set_option maxHeartbeats 4000000 in
theorem rreadsC_step (op : Int) (l : List Ex) (r : List Cd) (IH : ∀ t, t ∈ r → RReadsCOk t) : RReadsCOk (.mk op l r) := by
  intro hmx x w hx
  rw [cdIn] at hx
  obtain ⟨oa, ob, ca, cb, rfl, hl, hm, hxs, hl2, hm2, hcs⟩ := hx
  rw [rdC] at hmx ⊢
  rw [List.length_append] at hmx
  have HI := hid IH; clear IH
  have Hxs := hid hxs; clear hxs
  have Hcs := hid hcs; clear hcs
  have HMX := hid hmx; clear hmx
  have Hlen := hid (rdsE_length l)
  have Hlen2 := hid (rdsC_length r)
  obtain ⟨len, hlen⟩ : ∃ len, l.length = len := ⟨_, rfl⟩
  obtain ⟨len2, hlen2⟩ : ∃ len, r.length = len := ⟨_, rfl⟩
  rw [hlen] at hl
  rw [hlen2] at hl2
  rw [hlen, hlen2]
  have Hl := hid hlen; clear hlen
  have Hl2 := hid hlen2; clear hlen2
  obtain ⟨W0, hW0⟩ : ∃ W0, w.alloc (.cells #[.int .i64 op, .slice oa len ca, .slice ob len2 cb] 27) = W0 := ⟨_, rfl⟩
  have hw0 : Below w.heap.size w W0 := by rw [← hW0]; exact below_a (Below.refl _ _) _
  have k0 : W0.cell? ⟨w.heap.size, 0, none⟩ = some (.int .i64 op) := by rw [← hW0]; simp [go_sem]
  have k1 : W0.cell? ⟨w.heap.size, 1, none⟩ = some (.slice oa len ca) := by rw [← hW0]; simp [go_sem]
  have k2 : W0.cell? ⟨w.heap.size, 2, none⟩ = some (.slice ob len2 cb) := by rw [← hW0]; simp [go_sem]
  have K0 := hid k0
  have K1 := hid k1
  have K2 := hid k2
  have BW := hid hw0
  clear hw0
  have k0 := cell_alloc (.cells #[] 3) k0
  obtain ⟨m2, hm2e⟩ : ∃ m, cN op = m := ⟨_, rfl⟩
  have hm2b : m2 ≤ 2 := by rw [← hm2e]; unfold cN; split; · omega
                           split <;> omega
  obtain ⟨bE, hbE⟩ : ∃ b, decide (eN op = 2) = b := ⟨_, rfl⟩
  have HBE := hid hbE
  have CP := hid (fun W => by have := parts_any op W; rw [hm2e, hbE] at this; exact this)
  have HM2 := hid hm2e
  clear hm2e hbE
  go_enter Try.func24, Try.ntmps24
  go_wp2_with fail
  refine (CP.out _).mono ?_
  rintro e w1 ⟨rfl, rfl⟩
  clear hW0 k1 k2
  go_wp2_with fail
  clear k0
  go_loopw [3, 6] (fun d i wr => ∃ k : Nat, k ≤ m2 ∧ k ≤ len2 ∧ i = .int .i64 k ∧ Hid (intsIn wr (sortU ((rdsC r).take k).flatten) d) ∧ Hid (Below W0.heap.size W0 wr)) (fun _ i _ => 2 - (intOf i).toNat)
  case atStart => exact ⟨0, Nat.zero_le _, Nat.zero_le _, rfl, hid (by rw [List.take_zero, List.flatten_nil, sortU_nil]; exact ints_nil _ _ _ (by omega)), hid (below_a (Below.refl _ _) _)⟩
  case round =>
    obtain ⟨k, hk, hkl, rfl, IN, BR⟩ := hrel
    have q2 := cell_below BR.out K2.out
    by_cases hlt : k < m2 ∧ k < len2
    · obtain ⟨h1, h2⟩ := hlt
      obtain ⟨b, off, hob, hall⟩ := cdsIn_all Hcs.out (by intro h0; subst h0; have := Hl2.out; simp at this; omega)
      subst hob
      obtain ⟨t, ht⟩ : ∃ t, r[k]? = some t := ⟨_, List.getElem?_eq_getElem (by have := Hl2.out; omega)⟩
      obtain ⟨o', a', a2', ln', cp', ln2', cp2', c0, c1, c2, hin⟩ := hall k t ht
      have htake := hid (flat_take _ _ _ (rdsC_at r k t ht))
      have hbnd : ((rdsC r).take k).flatten.length + (rdC t).length ≤ 1100000 := by
        have e1 := flat_len ((rdsC r).take (cN op)) (k + 1)
        rw [List.take_take, Nat.min_eq_left (by have := HM2.out; omega), htake.out, List.length_append] at e1
        have := HMX.out
        omega
      have hB := below_step BW.out BR.out
      have e0 := cell_below hB c0
      have e1 := cell_below hB c1
      have e2 := cell_below hB c2
      have Hti := hid (HI.out t (List.mem_of_getElem? ht) (by omega) _ wr (cdIn_below hB _ _ hin))
      have HBN := hid hbnd
      clear c0 c1 c2 hin ht hall hB hbnd
      go_wp2_with fail
      refine Hti.out.mono ?_
      rintro e w2 ⟨v2, rfl, hi2, hb2⟩
      have BN := hid (below_step BR.out hb2)
      have I2 := hid hi2
      have I1 := hid (intsIn_below hb2 IN.out)
      clear hb2 hi2 e0 e1 e2 q2
      go_wp2_with fail
      refine (union_any ((rdsC r).take k).flatten (sortU (rdC t)) _ _ _ I1.out I2.out (by have := HBN.out; have := sortU_len (rdC t); omega)).mono ?_
      rintro e w3 ⟨v3, rfl, hi3, hb3⟩
      have I3 := hid (show intsIn w3 (sortU ((rdsC r).take (k + 1)).flatten) v3 by rw [htake.out, ← sortU_two]; exact hi3)
      have B3 := hid (below_step BN.out hb3)
      clear hi3 hb3
      go_wp2
      go_roundw
      case rel => exact ⟨k + 1, by omega, by omega, by go_num, I3, B3⟩
      case measure => simp [intOf]; omega
    · have hlen : (rdsC r).take (cN op) = (rdsC r).take k := by
        have h1 := Hlen2.out
        have h3 := Hl2.out
        rw [HM2.out]
        by_cases h4 : k = m2
        · rw [h4]
        · rw [List.take_of_length_le (by omega), List.take_of_length_le (by omega)]
      obtain ⟨A, hA⟩ : ∃ A, ((rdsC r).take k).flatten = A := ⟨_, rfl⟩
      have HCA := hid (show ((rdsC r).take (cN op)).flatten = A by rw [hlen, hA])
      rw [hA] at IN
      have HR := hid hlt
      clear hlen hlt hA
      go_upto_region 4 with fail
      go_cut [24] (fun s wx => s = .bool false ∧ wx = wr)
      case first =>
        by_cases h1 : k < m2
        · have h2 : decide ((k : Int) < (len2 : Int)) = false := by have := HR.out; simp; omega
          have h3 : decide (k < len2) = false := by have := HR.out; simp; omega
          go_wp2_with fail
          go_meet
          exact ⟨rfl, rfl⟩
        · go_wp2_with fail
          go_meet
          exact ⟨rfl, rfl⟩
      case rest =>
        obtain ⟨rfl, rfl⟩ := hcut
        clear q2
        go_wp2_with fail
        go_loopw [3, 7] (fun d i wr => ∃ j : Nat, j ≤ 2 ∧ (j ≠ 0 → bE = true) ∧ j ≤ len ∧ i = .int .i64 j ∧ Hid (intsIn wr (sortU (A ++ ((rdsE l).take j).flatten)) d) ∧ Hid (Below W0.heap.size W0 wr)) (fun _ i _ => 2 - (intOf i).toNat)
        case atStart => exact ⟨0, by omega, fun h => absurd rfl h, Nat.zero_le _, rfl, hid (by rw [List.take_zero, List.flatten_nil, List.append_nil]; exact IN.out), BR⟩
        case round =>
          obtain ⟨j, hj, hjb, hjl, rfl, IN2, BR2⟩ := hrel
          have q1 := cell_below BR2.out K1.out
          by_cases hlt : j < 2 ∧ j < len ∧ bE = true
          · obtain ⟨h1, h2, rfl⟩ := hlt
            obtain ⟨b, off, hoa, hall⟩ := exsIn_all Hxs.out (by intro h0; subst h0; have := Hl.out; simp at this; omega)
            subst hoa
            obtain ⟨t, ht⟩ : ∃ t, l[j]? = some t := ⟨_, List.getElem?_eq_getElem (by have := Hl.out; omega)⟩
            obtain ⟨o', n', v', a', ln', cp', c0, c1, c2, c3, hin⟩ := hall j t ht
            have htake := hid (flat_take _ _ _ (rdsE_at l j t ht))
            have he2 : eN op = 2 := of_decide_eq_true HBE.out
            have hbnd : A.length + ((rdsE l).take j).flatten.length + (rdE t).length ≤ 1100000 := by
              have e1 := flat_len ((rdsE l).take (eN op)) (j + 1)
              rw [List.take_take, Nat.min_eq_left (by omega), htake.out, List.length_append] at e1
              have := HMX.out
              rw [HCA.out] at this
              omega
            have hB := below_step BW.out BR2.out
            have e0 := cell_below hB c0
            have e1 := cell_below hB c1
            have e2 := cell_below hB c2
            have e3 := cell_below hB c3
            have Hti := hid (rreads_any t (by omega) _ wr (exIn_below hB _ _ hin))
            have HBN := hid hbnd
            clear c0 c1 c2 c3 hin ht hall hB hbnd he2
            go_wp2_with fail
            refine Hti.out.mono ?_
            rintro e w2 ⟨v2, rfl, hi2, hb2⟩
            have BN := hid (below_step BR2.out hb2)
            have I2 := hid hi2
            have I1 := hid (intsIn_below hb2 IN2.out)
            clear hb2 hi2 e0 e1 e2 e3 q1
            go_wp2_with fail
            refine (union_any (A ++ ((rdsE l).take j).flatten) (sortU (rdE t)) _ _ _ I1.out I2.out (by have := HBN.out; have := sortU_len (rdE t); rw [List.length_append]; omega)).mono ?_
            rintro e w3 ⟨v3, rfl, hi3, hb3⟩
            have I3 := hid (show intsIn w3 (sortU (A ++ ((rdsE l).take (j + 1)).flatten)) v3 by rw [htake.out, ← List.append_assoc, ← sortU_two]; exact hi3)
            have B3 := hid (below_step BN.out hb3)
            clear hi3 hb3
            go_wp2
            go_roundw
            case rel => exact ⟨j + 1, by omega, fun _ => (by first | rfl | trivial), by omega, by go_num, I3, B3⟩
            case measure => simp [intOf]; omega
          · have hlen : (rdsE l).take (eN op) = (rdsE l).take j := by
              have h1 := Hlen.out
              have h3 := Hl.out
              have h5 := HBE.out
              rcases eN_two (op := op) with h6 | h6
              · have hb : bE = true := by rw [← h5]; simp [h6]
                rw [h6]
                have h7 : ¬ (j < 2 ∧ j < len) := fun h => hlt ⟨h.1, h.2, hb⟩
                by_cases h4 : j = 2
                · rw [h4]
                · rw [List.take_of_length_le (by omega), List.take_of_length_le (by omega)]
              · have hb : bE = false := by rw [← h5]; simp [h6]
                have hj0 : j = 0 := by
                  apply Classical.byContradiction
                  intro h
                  rw [hjb h] at hb
                  cases hb
                rw [h6, hj0]
            have HF := hid (show sortU (((rdsE l).take (eN op)).flatten ++ ((rdsC r).take (cN op)).flatten) = sortU (A ++ ((rdsE l).take j).flatten) by rw [hlen, HCA.out, sortU_swap])
            have HB := hid (below_step BW.out BR2.out)
            have HR2 := hid hlt
            clear hlen hlt hjb
            by_cases h1 : j < 2
            · by_cases h2 : j < len
              · have h3 : bE = false := by
                  have := HR2.out
                  cases bE with
                  | false => rfl
                  | true => exact absurd ⟨h1, h2, rfl⟩ this
                subst h3
                go_wp2_with fail
                go_ret
                exact ⟨_, rfl, by rw [HF.out]; exact IN2.out, HB.out⟩
              · cases bE
                all_goals
                  go_wp2_with fail
                  go_ret
                  exact ⟨_, rfl, by rw [HF.out]; exact IN2.out, HB.out⟩
            · cases bE
              all_goals
                go_wp2_with fail
                go_ret
                exact ⟨_, rfl, by rw [HF.out]; exact IN2.out, HB.out⟩
mutual
theorem rreadsC_any : ∀ t, RReadsCOk t
  | .mk op l r => rreadsC_step op l r (rreadsCs_any r)
theorem rreadsCs_any : ∀ (l : List Cd) (t : Cd), t ∈ l → RReadsCOk t
  | [], _, h => by cases h
  | u :: _, _, .head _ => rreadsC_any u
  | _ :: r, t, .tail _ h => rreadsCs_any r t h
end
end Go.Proofs.Ytcjambgbbmffiaa

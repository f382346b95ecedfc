import Derived.Test.YtcjambgbbmffiaaNa
namespace Go.Proofs.Ytcjambgbbmffiaa
open Go.RowKit Go.Instr
set_option linter.unusedVariables false

/-! 'num.appendReadsC'. -/
mutual
/-- What a condition reads, in the order in which it is met. -/
def rdC : Cd → List Int
  | .mk op l r => ((rdsE l).take (eN op)).flatten ++ ((rdsC r).take (cN op)).flatten
def rdsC : List Cd → List (List Int)
  | [] => []
  | t :: r => rdC t :: rdsC r
end
theorem rdsC_length : ∀ l, (rdsC l).length = l.length
  | [] => by simp [rdsC]
  | t :: r => by simp [rdsC, rdsC_length r]
theorem rdsC_at : ∀ (l : List Cd) (k : Nat) (t : Cd), l[k]? = some t → (rdsC l)[k]? = some (rdC t)
  | [], k, t, h => by simp at h
  | u :: r, 0, t, h => by simp at h; subst h; simp [rdsC]
  | u :: r, k + 1, t, h => by simp only [rdsC, List.getElem?_cons_succ]; exact rdsC_at r k t (by simpa using h)
def AppCOk (t : Cd) : Prop := ∀ (w0 : World) (x v : Value) (n m : Nat) (xs : List Int) (w : World), cdIn w0 t x → Below w0.heap.size w0 w → w.ownsRow w0.heap.size 3 1 v n (i64s xs) → n + (rdC t).length = m → m ≤ 2000000 →
  Calls Try.prog 49 #[v, x] w fun e w' => ∃ v', e = .returned v' ∧ w'.ownsRow w0.heap.size 3 1 v' m (i64s (xs ++ rdC t)) ∧ Below w0.heap.size w0 w'

set_option maxRecDepth 100000 in
set_option maxHeartbeats 2000000 in
theorem appC_step (op : Int) (l : List Ex) (r : List Cd) (IH : ∀ t, t ∈ r → AppCOk t) : AppCOk (.mk op l r) := by
  intro w0 x sv nn mm xs w hx hB hO hM hmm
  rw [cdIn] at hx
  obtain ⟨oa, ob, ca, cb, rfl, hl, hm, hxs, hl2, hm2, hcs⟩ := hx
  rw [rdC] at hM ⊢
  rw [List.length_append] at hM
  have HI := hid IH; clear IH
  have Hxs := hid hxs; clear hxs
  have Hcs := hid hcs; clear hcs
  have HB := hid hB; clear hB
  have HO := hid hO; clear hO
  have HM := hid hM; clear hM
  have Hlen := hid (rdsE_length l)
  have Hlen2 := hid (rdsC_length r)
  have hsz := HB.out.size
  obtain ⟨len, hlen⟩ : ∃ len, l.length = len := ⟨_, rfl⟩
  obtain ⟨len2, hlen2⟩ : ∃ len, r.length = len := ⟨_, rfl⟩
  rw [hlen] at hl
  rw [hlen2] at hl2
  rw [hlen, hlen2]
  have Hl := hid hlen; clear hlen
  have Hl2 := hid hlen2; clear hlen2
  go_enter Try.func49, Try.ntmps49
  go_wp2_with fail
  refine (operandsC_any op oa ob len ca len2 cb hl hm hl2 hm2 _).mono ?_
  rintro e w1 ⟨xa, xb, ka, kb, rfl, hxa, hxb, q1, q2, q3, q4, hb1⟩
  have hbb := below_step (below_a (Below.refl w.heap.size w) _) hb1
  have HB1 := hid (HB.out.trans (hbb.mono HB.out.size))
  have HO1 := hid (own_below HO.out hbb)
  clear hb1 hbb
  obtain ⟨m, hlm, hlm2⟩ : ∃ m, min len (eN op) = m ∧ m ≤ len := ⟨_, rfl, by omega⟩
  obtain ⟨m2, hlm3, hlm4⟩ : ∃ m, min len2 (cN op) = m ∧ m ≤ len2 := ⟨_, rfl, by omega⟩
  rw [hlm] at hxa q1 ⊢
  rw [hlm3] at hxb q3 ⊢
  have Hlm := hid hlm; clear hlm
  have Hlm3 := hid hlm3; clear hlm3
  have Hxa := hid hxa; clear hxa
  have Hxb := hid hxb; clear hxb
  have hend : (rdsE l).take (eN op) = (rdsE l).take m := by
    have h1 := Hlen.out
    have h2 := Hlm.out
    have h3 := Hl.out
    by_cases h4 : len ≤ eN op
    · rw [List.take_of_length_le (by omega), List.take_of_length_le (by omega)]
    · rw [show m = eN op by omega]
  have hend2 : (rdsC r).take (cN op) = (rdsC r).take m2 := by
    have h1 := Hlen2.out
    have h2 := Hlm3.out
    have h3 := Hl2.out
    by_cases h4 : len2 ≤ cN op
    · rw [List.take_of_length_le (by omega), List.take_of_length_le (by omega)]
    · rw [show m2 = cN op by omega]
  rw [hend, hend2] at HM
  have HE := hid hend
  have HE2 := hid hend2
  clear hend hend2
  obtain ⟨A, hA⟩ : ∃ A, ((rdsE l).take m).flatten = A := ⟨_, rfl⟩
  obtain ⟨n1, hn1⟩ : ∃ n1, nn + A.length = n1 := ⟨_, rfl⟩
  have HA := hid hA
  have HN1 := hid hn1
  have hn1m : n1 ≤ mm := by have := HM.out; rw [hA] at this; omega
  clear hA hn1
  go_wp2_with fail
  go_loopw [0, 18] (fun d i wr => ∃ (k c : Nat), k ≤ m ∧ i = .int .i64 k ∧ nn + ((rdsE l).take k).flatten.length = c ∧ Hid (wr.ownsRow w0.heap.size 3 1 d c (i64s (xs ++ ((rdsE l).take k).flatten))) ∧ Below w0.heap.size w0 wr) (fun _ i _ => m - (intOf i).toNat)
  case atStart => exact ⟨0, nn, Nat.zero_le _, rfl, by simp, hid (by simpa using HO1.out), HB1.out⟩
  case round =>
    obtain ⟨k, c, hk, rfl, hc, ho, hbr⟩ := hrel
    by_cases hlt : k < m
    · obtain ⟨t, ht⟩ : ∃ t, l[k]? = some t := ⟨_, List.getElem?_eq_getElem (by have := Hl.out; omega)⟩
      obtain ⟨b, off, hoa, hall⟩ := exsIn_all Hxs.out (by intro h; subst h; have := Hl.out; simp at this; omega)
      have hxa := Hxa.out (by omega)
      subst hxa
      subst hoa
      obtain ⟨o', n', v', a', ln', cp', c0, c1, c2, c3, hin⟩ := hall k t ht
      have htake := hid (flat_take _ _ _ (rdsE_at l k t ht))
      have hle : c + (rdE t).length ≤ mm := by
        have h1 := HM.out
        have h2 := htake.out
        have h3 := flat_len ((rdsE l).take m) (k + 1)
        rw [List.take_take, Nat.min_eq_left (by omega), h2, List.length_append] at h3
        omega
      obtain ⟨c', hc'⟩ : ∃ c', c + (rdE t).length = c' := ⟨_, rfl⟩
      have HC := hid (show nn + ((rdsE l).take (k + 1)).flatten.length = c' by rw [htake.out, List.length_append]; omega)
      have hti := fun (W : World) (hB : Below w0.heap.size w0 W) (hW : W.ownsRow w0.heap.size 3 1 u0 c (i64s (xs ++ ((rdsE l).take k).flatten))) => app_any t w0 _ _ c c' (xs ++ ((rdsE l).take k).flatten) W hin hB hW hc' (by omega)
      have e0 := cell_below hbr c0
      have e1 := cell_below hbr c1
      have e2 := cell_below hbr c2
      have e3 := cell_below hbr c3
      have Hti := hid hti; clear hti
      have HR := hid hbr
      have hklt : (k : Int) < (m : Int) := by omega
      clear c0 c1 c2 c3 hin ht hc hc' hle hbr hall
      go_wp2_with fail
      refine (Hti.out _ (HR.out.alloc HR.out.size _) (ho.out.alloc _)).mono ?_
      rintro e w2 ⟨d2, rfl, ho2, hb2⟩
      have HO2 := hid (show w2.ownsRow w0.heap.size 3 1 d2 c' (i64s (xs ++ ((rdsE l).take (k + 1)).flatten)) by rw [htake.out, ← List.append_assoc]; exact ho2)
      have HB2 := hid hb2
      clear ho2 hb2 e0 e1 e2 e3
      go_wp2
      go_roundw
      case rel => exact ⟨k + 1, c', by omega, by go_num, HC.out, HO2, HB2.out⟩
      case measure => simp [intOf]; omega
    · have hkm : k = m := by omega
      subst hkm
      have hcn : c = n1 := by have := HN1.out; rw [← HA.out] at this; omega
      subst hcn
      have HO3 := hid (show wr.ownsRow w0.heap.size 3 1 u0 c (i64s (xs ++ A)) by rw [← HA.out]; exact ho.out)
      have HB3 := hid hbr
      clear hlt hc ho hbr
      go_wp2_with fail
      go_loopw [0, 28] (fun d i wr => ∃ (j c2 : Nat), j ≤ m2 ∧ i = .int .i64 j ∧ c + ((rdsC r).take j).flatten.length = c2 ∧ Hid (wr.ownsRow w0.heap.size 3 1 d c2 (i64s (xs ++ A ++ ((rdsC r).take j).flatten))) ∧ Below w0.heap.size w0 wr) (fun _ i _ => m2 - (intOf i).toNat)
      case atStart => exact ⟨0, c, Nat.zero_le _, rfl, by simp, hid (by simpa using HO3.out), HB3.out⟩
      case round =>
        obtain ⟨j, c2, hj, rfl, hc2, ho, hbr⟩ := hrel
        by_cases hlt : j < m2
        · obtain ⟨t, ht⟩ : ∃ t, r[j]? = some t := ⟨_, List.getElem?_eq_getElem (by have := Hl2.out; omega)⟩
          obtain ⟨b, off, hob, hall⟩ := cdsIn_all Hcs.out (by intro h; subst h; have := Hl2.out; simp at this; omega)
          have hxb := Hxb.out (by omega)
          subst hxb
          subst hob
          obtain ⟨o', a', a2', ln', cp', ln2', cp2', c0, c1, c3, hin⟩ := hall j t ht
          have htake := hid (flat_take _ _ _ (rdsC_at r j t ht))
          have hle : c2 + (rdC t).length ≤ mm := by
            have h1 := HM.out
            rw [HA.out] at h1
            have h2 := htake.out
            have h3 := flat_len ((rdsC r).take m2) (j + 1)
            rw [List.take_take, Nat.min_eq_left (by omega), h2, List.length_append] at h3
            have h4 := HN1.out
            omega
          obtain ⟨c', hc'⟩ : ∃ c', c2 + (rdC t).length = c' := ⟨_, rfl⟩
          have HC := hid (show c + ((rdsC r).take (j + 1)).flatten.length = c' by rw [htake.out, List.length_append]; omega)
          have hti := fun (W : World) (d : Value) (hB : Below w0.heap.size w0 W) (hW : W.ownsRow w0.heap.size 3 1 d c2 (i64s (xs ++ A ++ ((rdsC r).take j).flatten))) => HI.out t (List.mem_of_getElem? ht) w0 _ _ c2 c' (xs ++ A ++ ((rdsC r).take j).flatten) W hin hB hW hc' (by omega)
          have e0 := cell_below hbr c0
          have e1 := cell_below hbr c1
          have e2 := cell_below hbr c3
          have Hti := hid hti; clear hti
          have HR := hid hbr
          have hjlt : (j : Int) < (m2 : Int) := by omega
          clear c0 c1 c3 hin ht hc2 hc' hle hbr hall
          go_wp2_with fail
          refine (Hti.out _ _ (HR.out.alloc HR.out.size _) (ho.out.alloc _)).mono ?_
          rintro e w2 ⟨d2, rfl, ho2, hb2⟩
          have HO2 := hid (show w2.ownsRow w0.heap.size 3 1 d2 c' (i64s (xs ++ A ++ ((rdsC r).take (j + 1)).flatten)) by rw [htake.out, ← List.append_assoc]; exact ho2)
          have HB2 := hid hb2
          clear ho2 hb2 e0 e1 e2
          go_wp2
          go_roundw
          case rel => exact ⟨j + 1, c', by omega, by go_num, HC.out, HO2, HB2.out⟩
          case measure => simp [intOf]; omega
        · have hjm : j = m2 := by omega
          subst hjm
          have HF := hid (show c2 = mm by have h1 := HM.out; rw [HA.out] at h1; have h4 := HN1.out; omega)
          clear hc2
          go_wp2
          go_ret
          exact ⟨_, rfl, by rw [HE.out, HE2.out, HA.out, ← List.append_assoc, ← HF.out]; exact ho.out, hbr⟩

mutual
theorem appC_any : ∀ t, AppCOk t
  | .mk op l r => appC_step op l r (appsC_any r)
theorem appsC_any : ∀ (l : List Cd) (t : Cd), t ∈ l → AppCOk t
  | [], _, h => by cases h
  | u :: _, _, .head _ => appC_any u
  | _ :: r, t, .tail _ h => appsC_any r t h
end
end Go.Proofs.Ytcjambgbbmffiaa

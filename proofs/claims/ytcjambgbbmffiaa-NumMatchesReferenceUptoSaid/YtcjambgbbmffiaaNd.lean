import Derived.Test.YtcjambgbbmffiaaNc
import Derived.Test.YtcjambgbbmffiaaOpen
namespace Go.Proofs.Ytcjambgbbmffiaa
open Go.RowKit Go.Instr
set_option linter.unusedVariables false

/-! What is not read does not matter. -/
mutual
theorem evalE_congr (V U L : List Int) : ∀ t : Ex, (∀ n, n ∈ rdE t → elemF V n = elemF U n) → evalE V L t = evalE U L t
  | .mk op n v l, h => by
    rw [evalE, evalE]
    by_cases h1 : op = 1
    · rw [if_pos h1, if_pos h1]
    rw [if_neg h1, if_neg h1]
    by_cases h2 : op = 2
    · rw [if_pos h2, if_pos h2]
      by_cases h0 : 0 ≤ n
      · exact h n (by rw [rdE, if_pos ⟨h2, h0⟩]; simp)
      · unfold elemF; rw [if_neg (by omega), if_neg (by omega)]
    rw [if_neg h2, if_neg h2]
    by_cases h3 : op = 3
    · rw [if_pos h3, if_pos h3]
    rw [if_neg h3, if_neg h3]
    by_cases h4 : 4 ≤ op ∧ op ≤ 10
    · have hr : rdE (.mk op n v l) = ((rdsE l).take 2).flatten := by rw [rdE, if_neg (by omega), if_pos h4]
      rw [hr] at h
      have e0 : (evalsE V L l).getD 0 0 = (evalsE U L l).getD 0 0 := evalsE_congr V U L l 0 2 (by omega) h
      have e1 : (evalsE V L l).getD 1 0 = (evalsE U L l).getD 1 0 := evalsE_congr V U L l 1 2 (by omega) h
      rw [e0, e1]
    · rw [opF_no _ _ _ (by omega), opF_no _ _ _ (by omega)]
theorem evalsE_congr (V U L : List Int) : ∀ (l : List Ex) (k m : Nat), k < m → (∀ n, n ∈ ((rdsE l).take m).flatten → elemF V n = elemF U n) → (evalsE V L l).getD k 0 = (evalsE U L l).getD k 0
  | [], k, m, hk, h => by rw [evalsE, evalsE]
  | t :: r, 0, m, hk, h => by
    rw [evalsE, evalsE]
    show evalE V L t = evalE U L t
    obtain ⟨m', rfl⟩ : ∃ m', m = m' + 1 := ⟨m - 1, by omega⟩
    exact evalE_congr V U L t (fun n hn => h n (by rw [rdsE, List.take_succ_cons, List.flatten_cons]; exact List.mem_append_left _ hn))
  | t :: r, k + 1, m, hk, h => by
    rw [evalsE, evalsE]
    show (evalsE V L r).getD k 0 = (evalsE U L r).getD k 0
    obtain ⟨m', rfl⟩ : ∃ m', m = m' + 1 := ⟨m - 1, by omega⟩
    exact evalsE_congr V U L r k m' (by omega) (fun n hn => h n (by rw [rdsE, List.take_succ_cons, List.flatten_cons]; exact List.mem_append_right _ hn))
end
mutual
theorem holdsC_congr (V U L : List Int) : ∀ t : Cd, (∀ n, n ∈ rdC t → elemF V n = elemF U n) → holdsC V L t = holdsC U L t
  | .mk op l r, h => by
    rw [rdC] at h
    have hA : ∀ k, k < eN op → (evalsE V L l).getD k 0 = (evalsE U L l).getD k 0 := fun k hk => evalsE_congr V U L l k _ hk (fun n hn => h n (List.mem_append_left _ hn))
    have hB : ∀ k, k < cN op → (holdsCs V L r).getD k false = (holdsCs U L r).getD k false := fun k hk => holdsCs_congr V U L r k _ hk (fun n hn => h n (List.mem_append_right _ hn))
    rw [holdsC, holdsC]
    by_cases h1 : op = 1
    · rw [if_pos h1, if_pos h1]
    rw [if_neg h1, if_neg h1]
    by_cases h2 : op = 2
    · rw [if_pos h2, if_pos h2, hA 0 (by unfold eN; rw [if_pos (Or.inl h2)]; omega), hA 1 (by unfold eN; rw [if_pos (Or.inl h2)]; omega)]
    rw [if_neg h2, if_neg h2]
    by_cases h3 : op = 3
    · rw [if_pos h3, if_pos h3, hA 0 (by unfold eN; rw [if_pos (Or.inr (Or.inl h3))]; omega), hA 1 (by unfold eN; rw [if_pos (Or.inr (Or.inl h3))]; omega)]
    rw [if_neg h3, if_neg h3]
    by_cases h4 : op = 4
    · rw [if_pos h4, if_pos h4, hA 0 (by unfold eN; rw [if_pos (Or.inr (Or.inr h4))]; omega), hA 1 (by unfold eN; rw [if_pos (Or.inr (Or.inr h4))]; omega)]
    rw [if_neg h4, if_neg h4]
    by_cases h5 : op = 5
    · rw [if_pos h5, if_pos h5, hB 0 (by unfold cN; rw [if_pos h5]; omega)]
    rw [if_neg h5, if_neg h5]
    by_cases h6 : op = 6
    · rw [if_pos h6, if_pos h6, hB 0 (by unfold cN; rw [if_neg h5, if_pos (Or.inl h6)]; omega), hB 1 (by unfold cN; rw [if_neg h5, if_pos (Or.inl h6)]; omega)]
    rw [if_neg h6, if_neg h6]
    by_cases h7 : op = 7
    · rw [if_pos h7, if_pos h7, hB 0 (by unfold cN; rw [if_neg h5, if_pos (Or.inr h7)]; omega), hB 1 (by unfold cN; rw [if_neg h5, if_pos (Or.inr h7)]; omega)]
    rw [if_neg h7, if_neg h7]
theorem holdsCs_congr (V U L : List Int) : ∀ (l : List Cd) (k m : Nat), k < m → (∀ n, n ∈ ((rdsC l).take m).flatten → elemF V n = elemF U n) → (holdsCs V L l).getD k false = (holdsCs U L l).getD k false
  | [], k, m, hk, h => by rw [holdsCs, holdsCs]
  | t :: r, 0, m, hk, h => by
    rw [holdsCs, holdsCs]
    show holdsC V L t = holdsC U L t
    obtain ⟨m', rfl⟩ : ∃ m', m = m' + 1 := ⟨m - 1, by omega⟩
    exact holdsC_congr V U L t (fun n hn => h n (by rw [rdsC, List.take_succ_cons, List.flatten_cons]; exact List.mem_append_left _ hn))
  | t :: r, k + 1, m, hk, h => by
    rw [holdsCs, holdsCs]
    show (holdsCs V L r).getD k false = (holdsCs U L r).getD k false
    obtain ⟨m', rfl⟩ : ∃ m', m = m' + 1 := ⟨m - 1, by omega⟩
    exact holdsCs_congr V U L r k m' (by omega) (fun n hn => h n (by rw [rdsC, List.take_succ_cons, List.flatten_cons]; exact List.mem_append_right _ hn))
end
/-! How much is read is at most how many nodes there are. -/
mutual
theorem rdE_len : ∀ t : Ex, (rdE t).length ≤ exT t
  | .mk op n v l => by
    rw [rdE, exT]
    by_cases h : op = 2 ∧ 0 ≤ n
    · rw [if_pos h]; simp
    · rw [if_neg h]
      by_cases h4 : 4 ≤ op ∧ op ≤ 10
      · rw [if_pos h4]
        have h1 := flat_len (rdsE l) 2
        have h2 := rdsE_len l
        omega
      · rw [if_neg h4]; simp
theorem rdsE_len : ∀ l : List Ex, (rdsE l).flatten.length ≤ exTs l
  | [] => by simp [rdsE]
  | t :: r => by
    rw [rdsE, exTs, List.flatten_cons, List.length_append]
    have := rdE_len t
    have := rdsE_len r
    omega
end
mutual
theorem rdC_len : ∀ t : Cd, (rdC t).length ≤ cdT t
  | .mk op l r => by
    rw [rdC, cdT, List.length_append]
    have h1 := flat_len (rdsE l) (eN op)
    have h2 := rdsE_len l
    have h3 := flat_len (rdsC r) (cN op)
    have h4 := rdsC_len r
    omega
theorem rdsC_len : ∀ l : List Cd, (rdsC l).flatten.length ≤ cdTs l
  | [] => by simp [rdsC]
  | t :: r => by
    rw [rdsC, cdTs, List.flatten_cons, List.length_append]
    have := rdC_len t
    have := rdsC_len r
    omega
end

/-! 'num.Reads', 'num.ReadsC', the reference's 'Has'. -/
set_option maxHeartbeats 1000000 in
theorem reads_any (t : Ex) (x : Value) (w : World) (hx : exIn w t x) (hm : (rdE t).length ≤ 2000000) :
    Calls Try.prog 21 #[x] w fun e w' => ∃ v', e = .returned v' ∧ intsIn w' (sortU (rdE t)) v' ∧ Below w.heap.size w w' := by
  obtain ⟨op, n, v, l⟩ := t
  have hx0 := hx
  rw [exIn] at hx
  obtain ⟨oa, cap, rfl, -⟩ := hx
  have C := hid (fun o => app_any (.mk op n v l) w _ (.slice none 0 0) 0 (rdE (.mk op n v l)).length [] (w.alloc o) hx0 (below_a (Below.refl _ _) o) (World.ownsRow_nil _ _ _ _) (by omega) hm)
  have HM := hid hm
  obtain ⟨R, hR⟩ : ∃ R, rdE (.mk op n v l) = R := ⟨_, rfl⟩
  rw [hR] at C HM ⊢
  clear hx0 hm hR
  go_enter Try.func21, Try.ntmps21
  go_wp2_with fail
  refine (C.out _).mono ?_
  rintro e w1 ⟨v1, rfl, ho, hb⟩
  have HO := hid ho
  have HB := hid hb
  clear ho hb
  go_wp2_with fail
  refine (distinct_any w.heap.size R v1 R.length w1 (by simpa using HO.out) HM.out HB.out.size).mono ?_
  rintro e w2 ⟨v2, rfl, hi, hb⟩
  have HI := hid hi
  have HB2 := hid (HB.out.trans hb)
  clear hi hb
  go_wp2_with fail
  go_ret
  exact ⟨_, rfl, HI.out, HB2.out⟩
set_option maxHeartbeats 1000000 in
theorem readsC_any (t : Cd) (x : Value) (w : World) (hx : cdIn w t x) (hm : (rdC t).length ≤ 2000000) :
    Calls Try.prog 23 #[x] w fun e w' => ∃ v', e = .returned v' ∧ intsIn w' (sortU (rdC t)) v' ∧ Below w.heap.size w w' := by
  obtain ⟨op, l, r⟩ := t
  have hx0 := hx
  rw [cdIn] at hx
  obtain ⟨oa, ob, ca, cb, rfl, -⟩ := hx
  have C := hid (fun o => appC_any (.mk op l r) w _ (.slice none 0 0) 0 (rdC (.mk op l r)).length [] (w.alloc o) hx0 (below_a (Below.refl _ _) o) (World.ownsRow_nil _ _ _ _) (by omega) hm)
  have HM := hid hm
  obtain ⟨R, hR⟩ : ∃ R, rdC (.mk op l r) = R := ⟨_, rfl⟩
  rw [hR] at C HM ⊢
  clear hx0 hm hR
  go_enter Try.func23, Try.ntmps23
  go_wp2_with fail
  refine (C.out _).mono ?_
  rintro e w1 ⟨v1, rfl, ho, hb⟩
  have HO := hid ho
  have HB := hid hb
  clear ho hb
  go_wp2_with fail
  refine (distinct_any w.heap.size R v1 R.length w1 (by simpa using HO.out) HM.out HB.out.size).mono ?_
  rintro e w2 ⟨v2, rfl, hi, hb⟩
  have HI := hid hi
  have HB2 := hid (HB.out.trans hb)
  clear hi hb
  go_wp2_with fail
  go_ret
  exact ⟨_, rfl, HI.out, HB2.out⟩
end Go.Proofs.Ytcjambgbbmffiaa

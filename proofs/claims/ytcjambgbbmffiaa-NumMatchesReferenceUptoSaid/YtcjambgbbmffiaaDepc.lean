import Derived.Test.YtcjambgbbmffiaaExa
namespace Go.Proofs.Ytcjambgbbmffiaa
open Go.RowKit Go.Instr
set_option linter.unusedVariables false

/-! 'num.DepthC' and what it calls. -/
def eN (op : Int) : Nat := if op = 2 ∨ op = 3 ∨ op = 4 then 2 else 0
def cN (op : Int) : Nat := if op = 5 then 1 else if op = 6 ∨ op = 7 then 2 else 0

mutual
def depthC : Cd → Int
  | .mk op l r => wrap64 (max (maxL ((depthsE l).take (eN op))) (maxL ((depthsC r).take (cN op))) + 1)
def depthsC : List Cd → List Int
  | [] => []
  | t :: r => depthC t :: depthsC r
end

theorem depthsC_length : ∀ l, (depthsC l).length = l.length
  | [] => by simp [depthsC]
  | t :: r => by simp [depthsC, depthsC_length r]
theorem depthsC_at : ∀ (l : List Cd) (k : Nat) (t : Cd), l[k]? = some t → (depthsC l)[k]? = some (depthC t)
  | [], k, t, h => by simp at h
  | u :: r, 0, t, h => by simp at h; subst h; simp [depthsC]
  | u :: r, k + 1, t, h => by simp only [depthsC, List.getElem?_cons_succ]; exact depthsC_at r k t (by simpa using h)

set_option maxHeartbeats 400000 in
theorem atMostC_any (oa : Option Addr) (len cap : Nat) (k : Int) (hk : 0 ≤ k) (hl : len ≤ cap) (hm : cap ≤ 9223372036854775807) (w : World) :
    Calls Try.prog 51 #[.slice oa len cap, .int .i64 k] w fun e w' => e = .returned (.slice oa (min len k.toNat) cap) ∧ w = w' := by
  obtain ⟨n, rfl⟩ := Int.eq_ofNat_of_zero_le hk
  simp only [Int.toNat_natCast]
  by_cases h : len ≤ n
  · rw [Nat.min_eq_left h]
    go_enter Try.func51, Try.ntmps51
    go_wp2
    go_ret
    exact ⟨rfl, rfl⟩
  · rw [Nat.min_eq_right (by omega)]
    go_enter Try.func51, Try.ntmps51
    go_wp2
    go_ret
    exact ⟨rfl, rfl⟩

/-- What 'operandsC' leaves. -/
def OpcPost (op : Int) (oa ob : Option Addr) (ln rn : Nat) (w : World) (e : Ending) (w' : World) : Prop :=
  ∃ (xa xb : Option Addr) (ka kb : Nat), e = .returned (.tuple #[.slice xa (min ln (eN op)) ka, .slice xb (min rn (cN op)) kb]) ∧ (0 < min ln (eN op) → xa = oa) ∧ (0 < min rn (cN op) → xb = ob) ∧
    min ln (eN op) ≤ ka ∧ ka ≤ 9223372036854775807 ∧ min rn (cN op) ≤ kb ∧ kb ≤ 9223372036854775807 ∧ Below w.heap.size w w'

theorem opc_mk {op : Int} {oa ob : Option Addr} {ln rn : Nat} {w w' : World} (xa xb : Option Addr) (m1 m2 ka kb : Nat) (e1 : min ln (eN op) = m1) (e2 : min rn (cN op) = m2)
    (hxa : 0 < m1 → xa = oa) (hxb : 0 < m2 → xb = ob) (q1 : m1 ≤ ka) (q2 : ka ≤ 9223372036854775807) (q3 : m2 ≤ kb) (q4 : kb ≤ 9223372036854775807) (hb : Below w.heap.size w w') :
    OpcPost op oa ob ln rn w (.returned (.tuple #[.slice xa m1 ka, .slice xb m2 kb])) w' := by
  subst e1
  subst e2
  exact ⟨_, _, _, _, rfl, hxa, hxb, q1, q2, q3, q4, hb⟩

set_option maxRecDepth 100000 in
set_option maxHeartbeats 1000000 in
theorem operandsC_any (op : Int) (oa ob : Option Addr) (ln ca rn cb : Nat) (hl : ln ≤ ca) (hm : ca ≤ 9223372036854775807) (hl2 : rn ≤ cb) (hm2 : cb ≤ 9223372036854775807) (w : World) :
    Calls Try.prog 44 #[.agg #[.int .i64 op, .slice oa ln ca, .slice ob rn cb]] w (OpcPost op oa ob ln rn w) := by
  by_cases h2 : op = 2 ∨ op = 3 ∨ op = 4
  · have e1 : min ln (eN op) = min ln 2 := by unfold eN; rw [if_pos h2]
    have e2 : min rn (cN op) = 0 := by unfold cN; rw [if_neg (by omega), if_neg (by omega)]; omega
    have E1 := hid e1; clear e1
    have E2 := hid e2; clear e2
    rcases h2 with rfl | rfl | rfl
    all_goals
      go_enter Try.func44, Try.ntmps44
      go_wp2_with (go_at_call 50; refine (atMostE_any _ _ _ 2 (by omega) hl hm _).mono ?_; rintro e w2 ⟨rfl, rfl⟩)
      go_ret2
      exact opc_mk oa none (min ln 2) 0 ca 0 E1.out E2.out (fun _ => rfl) (fun h => absurd h (by omega)) (by omega) hm (by omega) (by omega) ((Below.refl _ _).alloc (Nat.le_refl _) _)
  by_cases h5 : op = 5 ∨ op = 6 ∨ op = 7
  · have e1 : min ln (eN op) = 0 := by unfold eN; rw [if_neg (by omega)]; omega
    have E1 := hid e1; clear e1 h2
    rcases h5 with rfl | rfl | rfl
    · go_enter Try.func44, Try.ntmps44
      go_wp2_with (go_at_call 51; refine (atMostC_any _ _ _ 1 (by omega) hl2 hm2 _).mono ?_; rintro e w2 ⟨rfl, rfl⟩)
      go_ret2
      exact opc_mk none ob 0 (min rn 1) 0 cb E1.out rfl (fun h => absurd h (by omega)) (fun _ => rfl) (by omega) (by omega) (by omega) hm2 ((Below.refl _ _).alloc (Nat.le_refl _) _)
    all_goals
      go_enter Try.func44, Try.ntmps44
      go_wp2_with (go_at_call 51; refine (atMostC_any _ _ _ 2 (by omega) hl2 hm2 _).mono ?_; rintro e w2 ⟨rfl, rfl⟩)
      go_ret2
      exact opc_mk none ob 0 (min rn 2) 0 cb E1.out rfl (fun h => absurd h (by omega)) (fun _ => rfl) (by omega) (by omega) (by omega) hm2 ((Below.refl _ _).alloc (Nat.le_refl _) _)
  · have e1 : min ln (eN op) = 0 := by unfold eN; rw [if_neg (by omega)]; omega
    have e2 : min rn (cN op) = 0 := by unfold cN; rw [if_neg (by omega), if_neg (by omega)]; omega
    have E1 := hid e1; clear e1
    have E2 := hid e2; clear e2
    have b2 := ne_b (show op ≠ 2 by omega)
    have b3 := ne_b (show op ≠ 3 by omega)
    have b4 := ne_b (show op ≠ 4 by omega)
    have b5 := ne_b (show op ≠ 5 by omega)
    have b6 := ne_b (show op ≠ 6 by omega)
    have b7 := ne_b (show op ≠ 7 by omega)
    clear h2 h5
    go_enter Try.func44, Try.ntmps44
    go_wp2
    go_ret2
    exact opc_mk none none 0 0 0 0 E1.out E2.out (fun h => absurd h (by omega)) (fun h => absurd h (by omega)) (by omega) (by omega) (by omega) (by omega) ((Below.refl _ _).alloc (Nat.le_refl _) _)

/-- What 'num.DepthC' leaves for this condition. -/
def DepthCOk (t : Cd) : Prop := ∀ (x : Value) (w : World), cdIn w t x →
  Calls Try.prog 18 #[x] w fun e w' => e = .returned (.int .i64 (depthC t)) ∧ Below w.heap.size w w'

set_option maxRecDepth 100000 in
set_option maxHeartbeats 1000000 in
theorem depthC_step (op : Int) (l : List Ex) (r : List Cd) (IH : ∀ t, t ∈ r → DepthCOk t) : DepthCOk (.mk op l r) := by
  intro x w hx
  rw [cdIn] at hx
  obtain ⟨oa, ob, ca, cb, rfl, hl, hm, hxs, hl2, hm2, hcs⟩ := hx
  rw [depthC]
  have HI := hid IH; clear IH
  have Hxs := hid hxs; clear hxs
  have Hcs := hid hcs; clear hcs
  have Hlen := hid (depthsE_length l)
  have Hlen2 := hid (depthsC_length r)
  obtain ⟨len, hlen⟩ : ∃ len, l.length = len := ⟨_, rfl⟩
  obtain ⟨len2, hlen2⟩ : ∃ len, r.length = len := ⟨_, rfl⟩
  rw [hlen] at hl
  rw [hlen2] at hl2
  rw [hlen, hlen2]
  have Hl := hid hlen; clear hlen
  have Hl2 := hid hlen2; clear hlen2
  go_enter Try.func18, Try.ntmps18
  go_wp2_with fail
  refine (operandsC_any op oa ob len ca len2 cb hl hm hl2 hm2 _).mono ?_
  rintro e w1 ⟨xa, xb, ka, kb, rfl, hxa, hxb, q1, q2, q3, q4, hb1⟩
  have hbb := ((Below.refl w.heap.size w).alloc (Nat.le_refl _) _).trans (hb1.mono (by simp))
  have Hbb := hid hbb; clear hbb hb1
  obtain ⟨m, hlm, hlm2⟩ : ∃ m, min len (eN op) = m ∧ m ≤ len := ⟨_, rfl, by omega⟩
  obtain ⟨m2, hlm3, hlm4⟩ : ∃ m, min len2 (cN op) = m ∧ m ≤ len2 := ⟨_, rfl, by omega⟩
  rw [hlm] at hxa q1 ⊢
  rw [hlm3] at hxb q3 ⊢
  have Hlm := hid hlm; clear hlm
  have Hlm3 := hid hlm3; clear hlm3
  have Hxa := hid hxa; clear hxa
  have Hxb := hid hxb; clear hxb
  go_wp2_with fail
  go_loopw [5, 17] (fun d i wr => ∃ k : Nat, k ≤ m ∧ i = .int .i64 k ∧ d = .int .i64 (maxL ((depthsE l).take k)) ∧ Below w.heap.size w wr) (fun _ i _ => m - (intOf i).toNat)
  case atStart => exact ⟨0, Nat.zero_le _, rfl, rfl, Hbb.out⟩
  case round =>
    obtain ⟨k, hk, rfl, rfl, hb⟩ := hrel
    by_cases hlt : k < m
    · obtain ⟨t, ht⟩ : ∃ t, l[k]? = some t := ⟨_, List.getElem?_eq_getElem (by have := Hl.out; omega)⟩
      obtain ⟨b, off, hoa, hall⟩ := exsIn_all Hxs.out (by intro h; subst h; have := Hl.out; simp at this; omega)
      have hxa := Hxa.out (by omega)
      subst hxa
      subst hoa
      obtain ⟨o', n', v', a', ln', cp', c0, c1, c2, c3, hin⟩ := hall k t ht
      have htake := hid (maxL_take _ _ _ (depthsE_at l k t ht))
      have hti := fun W hB => depth_any t _ W (exIn_below hB _ _ hin)
      have e0 := cell_below hb c0
      have e1 := cell_below hb c1
      have e2 := cell_below hb c2
      have e3 := cell_below hb c3
      have Hti := hid hti; clear hti
      clear c0 c1 c2 c3 hin ht hall
      have hklt : (k : Int) < (m : Int) := by omega
      go_wp2_with fail
      have hball := hb.alloc hb.size (Obj.cells #[.int .i64 o', .int .i64 n', .int .i64 v', .slice a' ln' cp'] 24)
      refine (Hti.out _ hball).mono ?_
      rintro e w2 ⟨rfl, hb2⟩
      have hbb2 := hid (hball.trans (hb2.mono hball.size))
      clear hball hb2 hb e0 e1 e2 e3
      have hmx := maxL_nonneg ((depthsE l).take k)
      go_wp2
      all_goals
        go_roundw
        case rel => exact ⟨k + 1, by omega, by go_num, by rw [htake.out]; congr 1; omega, hbb2.out⟩
        case measure => simp [intOf]; omega
    · have hkm : k = m := by omega
      subst hkm
      clear hlt
      have hlen3 : (depthsE l).take (eN op) = (depthsE l).take k := by
        have h1 := Hlen.out
        have h2 := Hlm.out
        have h3 := Hl.out
        by_cases h4 : len ≤ eN op
        · rw [List.take_of_length_le (by omega), List.take_of_length_le (by omega)]
        · rw [show k = eN op by omega]
      have Hlen3 := hid hlen3; clear hlen3
      obtain ⟨m1, hm1⟩ : ∃ m1, maxL ((depthsE l).take k) = m1 := ⟨_, rfl⟩
      have hm1p : 0 ≤ m1 := by rw [← hm1]; exact maxL_nonneg _
      rw [hm1]
      have Hm1 := hid hm1; clear hm1
      have hb' := hid hb; clear hb
      go_wp2_with fail
      go_loopw [5, 28] (fun d i wr => ∃ j : Nat, j ≤ m2 ∧ i = .int .i64 j ∧ d = .int .i64 (max m1 (maxL ((depthsC r).take j))) ∧ Below w.heap.size w wr) (fun _ i _ => m2 - (intOf i).toNat)
      case atStart => exact ⟨0, Nat.zero_le _, rfl, by congr 1; simp [maxL]; omega, hb'.out⟩
      case round =>
        obtain ⟨j, hj, rfl, rfl, hb⟩ := hrel
        by_cases hlt : j < m2
        · obtain ⟨t, ht⟩ : ∃ t, r[j]? = some t := ⟨_, List.getElem?_eq_getElem (by have := Hl2.out; omega)⟩
          obtain ⟨b, off, hob, hall⟩ := cdsIn_all Hcs.out (by intro h; subst h; have := Hl2.out; simp at this; omega)
          have hxb := Hxb.out (by omega)
          subst hxb
          subst hob
          obtain ⟨o', a', a2', ln', cp', ln2', cp2', c0, c1, c2, hin⟩ := hall j t ht
          have htake := hid (maxL_take _ _ _ (depthsC_at r j t ht))
          have hti := fun W hB => HI.out t (List.mem_of_getElem? ht) _ W (cdIn_below hB _ _ hin)
          have e0 := cell_below hb c0
          have e1 := cell_below hb c1
          have e2 := cell_below hb c2
          have Hti := hid hti; clear hti
          clear c0 c1 c2 hin ht hall
          have hjlt : (j : Int) < (m2 : Int) := by omega
          obtain ⟨mx, hmx⟩ : ∃ mx, maxL ((depthsC r).take j) = mx := ⟨_, rfl⟩
          have hmxp : 0 ≤ mx := by rw [← hmx]; exact maxL_nonneg _
          rw [hmx] at htake ⊢
          obtain ⟨cur, hcur⟩ : ∃ cur, max m1 mx = cur := ⟨_, rfl⟩
          rw [hcur]
          have Hcur := hid hcur; clear hcur hmx
          go_wp2_with fail
          have hball := hb.alloc hb.size (Obj.cells #[.int .i64 o', .slice a' ln' cp', .slice a2' ln2' cp2'] 27)
          refine (Hti.out _ hball).mono ?_
          rintro e w2 ⟨rfl, hb2⟩
          have hbb2 := hid (hball.trans (hb2.mono hball.size))
          clear hball hb2 hb e0 e1 e2
          go_wp2
          all_goals
            go_roundw
            case rel => exact ⟨j + 1, by omega, by go_num, by rw [htake.out]; congr 1; have := Hcur.out; omega, hbb2.out⟩
            case measure => simp [intOf]; omega
        · have hjm : j = m2 := by omega
          subst hjm
          have hlen4 : (depthsC r).take (cN op) = (depthsC r).take j := by
            have h1 := Hlen2.out
            have h2 := Hlm3.out
            have h3 := Hl2.out
            by_cases h4 : len2 ≤ cN op
            · rw [List.take_of_length_le (by omega), List.take_of_length_le (by omega)]
            · rw [show j = cN op by omega]
          have Hlen4 := hid hlen4; clear hlen4
          go_wp2
          go_ret
          exact ⟨ret_i (by rw [Hlen3.out, Hlen4.out, Hm1.out]), hb⟩

mutual
theorem depthC_any : ∀ t, DepthCOk t
  | .mk op l r => depthC_step op l r (depthsC_any r)
theorem depthsC_any : ∀ (l : List Cd) (t : Cd), t ∈ l → DepthCOk t
  | [], _, h => by cases h
  | u :: _, _, .head _ => depthC_any u
  | _ :: r, t, .tail _ h => depthsC_any r t h
end
end Go.Proofs.Ytcjambgbbmffiaa

import Derived.Test.YtcjambgbbmffiaaNh
namespace Go.Proofs.Ytcjambgbbmffiaa
open Go.RowKit Go.Instr
set_option linter.unusedVariables false

/-! The reference's 'Depth', 'parts', 'DepthC'. -/
def RDepthOk (t : Ex) : Prop := ∀ (x : Value) (w : World), exIn w t x →
  Calls Try.prog 17 #[x] w fun e w' => e = .returned (.int .i64 (depthE t)) ∧ Below w.heap.size w w'
set_option maxHeartbeats 1000000 in
theorem rdepth_step (op n v : Int) (l : List Ex) (IH : ∀ t, t ∈ l → RDepthOk t) : RDepthOk (.mk op n v l) := by
  intro x w hx
  rw [exIn] at hx
  obtain ⟨oa, cap, rfl, hl, hm, hxs⟩ := hx
  rw [depthE]
  have HI := hid IH; clear IH
  by_cases h : 4 ≤ op ∧ op ≤ 10
  · rw [if_pos h]
    obtain ⟨g4, g5⟩ := h
    have c4 : decide (4 ≤ op) = true := by simpa using g4
    have c5 : decide (op ≤ 10) = true := by simpa using g5
    have Hx := hid (fun hne => exsIn_all hxs hne)
    have Hlen := hid (depthsE_length l)
    obtain ⟨len, hlen⟩ : ∃ len, l.length = len := ⟨_, rfl⟩
    rw [hlen] at hl ⊢
    have Hl := hid hlen; clear hlen
    clear hxs
    obtain ⟨W0, hW0⟩ : ∃ W0, w.alloc (.cells #[.int .i64 op, .int .i64 n, .int .i64 v, .slice oa len cap] 24) = W0 := ⟨_, rfl⟩
    have hw0 : Below w.heap.size w W0 := by rw [← hW0]; exact below_a (Below.refl _ _) _
    have k0 : W0.cell? ⟨w.heap.size, 0, none⟩ = some (.int .i64 op) := by rw [← hW0]; simp [go_sem]
    have k3 : W0.cell? ⟨w.heap.size, 3, none⟩ = some (.slice oa len cap) := by rw [← hW0]; simp [go_sem]
    have K0 := hid k0
    have K3 := hid k3
    have BW := hid hw0
    clear k0 k3 hw0
    go_enter Try.func17, Try.ntmps17
    go_wp2_with fail
    clear hW0
    go_loopw [3, 4] (fun d i wr => ∃ k : Nat, k ≤ 2 ∧ k ≤ len ∧ i = .int .i64 k ∧ d = .int .i64 (maxL ((depthsE l).take k)) ∧ Hid (Below W0.heap.size W0 wr)) (fun _ i _ => 2 - (intOf i).toNat)
    case atStart => exact ⟨0, by omega, Nat.zero_le _, rfl, rfl, hid (Below.refl _ _)⟩
    case round =>
      obtain ⟨k, hk, hkl, rfl, rfl, BR⟩ := hrel
      have q0 := cell_below BR.out K0.out
      have q3 := cell_below BR.out K3.out
      by_cases hlt : k < 2 ∧ k < len
      · obtain ⟨h1, h2⟩ := hlt
        obtain ⟨b, off, rfl, hall⟩ := Hx.out (by intro h0; subst h0; have := Hl.out; simp at this; omega)
        obtain ⟨t, ht⟩ : ∃ t, l[k]? = some t := ⟨_, List.getElem?_eq_getElem (by have := Hl.out; omega)⟩
        obtain ⟨o', n', v', a', ln', cp', c0, c1, c2, c3, hin⟩ := hall k t ht
        have htake := hid (maxL_take _ _ _ (depthsE_at l k t ht))
        have hB := below_step BW.out BR.out
        have e0 := cell_below hB c0
        have e1 := cell_below hB c1
        have e2 := cell_below hB c2
        have e3 := cell_below hB c3
        have Hti := hid (HI.out t (List.mem_of_getElem? ht) _ wr (exIn_below hB _ _ hin))
        clear c0 c1 c2 c3 hin ht hall hB
        go_wp2_with (first | (go_at_call 39; refine (rbinary_any _ _).mono ?_; rintro e w2 ⟨rfl, rfl⟩))
        refine Hti.out.mono ?_
        rintro e w2 ⟨rfl, hb2⟩
        have BN := hid (below_step BR.out hb2)
        have hmx := maxL_nonneg ((depthsE l).take k)
        clear hb2 e0 e1 e2 e3 q0 q3
        go_wp2
        all_goals
          go_roundw
          case rel => exact ⟨k + 1, by omega, by omega, by go_num, by rw [htake.out] <;> first | rfl | (congr 1; omega), BN⟩
          case measure => simp [intOf]; omega
      · have hlen : (depthsE l).take 2 = (depthsE l).take k := by
          have h1 := Hlen.out
          have h3 := Hl.out
          by_cases h4 : k = 2
          · rw [h4]
          · rw [List.take_of_length_le (by omega), List.take_of_length_le (by omega)]
        have Hlen2 := hid hlen
        have HB := hid (below_step BW.out BR.out)
        have HR := hid hlt
        clear hlen hlt
        by_cases h1 : k < 2
        · have h2 : decide ((k : Int) < (len : Int)) = false := by have := HR.out; simp; omega
          have h3 : decide (k < len) = false := by have := HR.out; simp; omega
          go_wp2_with (first | (go_at_call 39; refine (rbinary_any _ _).mono ?_; rintro e w2 ⟨rfl, rfl⟩))
          go_ret
          exact ⟨ret_i (by rw [Hlen2.out]), HB.out⟩
        · go_wp2_with (first | (go_at_call 39; refine (rbinary_any _ _).mono ?_; rintro e w2 ⟨rfl, rfl⟩))
          go_ret
          exact ⟨ret_i (by rw [Hlen2.out]), HB.out⟩
  · rw [if_neg h]
    have c4 : (decide (4 ≤ op) && decide (op ≤ 10)) = false := by simp; omega
    obtain ⟨len, hlen⟩ : ∃ len, l.length = len := ⟨_, rfl⟩
    rw [hlen] at hl ⊢
    clear hlen hxs HI h
    go_enter Try.func17, Try.ntmps17
    go_wp2_with fail
    go_loopw [3, 4] (fun d i wr => i = .int .i64 0 ∧ d = .int .i64 0 ∧ wr = w.alloc (.cells #[.int .i64 op, .int .i64 n, .int .i64 v, .slice oa len cap] 24)) (fun _ _ _ => 0)
    case atStart => exact ⟨rfl, rfl, rfl⟩
    case round =>
      obtain ⟨rfl, rfl, rfl⟩ := hrel
      by_cases h0 : 0 < len
      · go_wp2_with (first | (go_at_call 39; refine (rbinary_any _ _).mono ?_; rintro e w2 ⟨rfl, rfl⟩))
        go_ret
        exact ⟨rfl, below_a (Below.refl _ _) _⟩
      · go_wp2_with (first | (go_at_call 39; refine (rbinary_any _ _).mono ?_; rintro e w2 ⟨rfl, rfl⟩))
        go_ret
        exact ⟨rfl, below_a (Below.refl _ _) _⟩
mutual
theorem rdepth_any : ∀ t, RDepthOk t
  | .mk op n v l => rdepth_step op n v l (rdepths_any l)
theorem rdepths_any : ∀ (l : List Ex) (t : Ex), t ∈ l → RDepthOk t
  | [], _, h => by cases h
  | u :: _, _, .head _ => rdepth_any u
  | _ :: r, t, .tail _ h => rdepths_any r t h
end
set_option maxHeartbeats 400000 in
theorem parts_any (op : Int) (w : World) :
    Calls Try.prog 45 #[.int .i64 op] w fun e w' => e = .returned (.tuple #[.int .i64 (cN op : Int), .bool (decide (eN op = 2))]) ∧ w = w' := by
  by_cases h : op = 2 ∨ op = 3 ∨ op = 4 ∨ op = 5 ∨ op = 6 ∨ op = 7
  · rcases h with rfl | rfl | rfl | rfl | rfl | rfl
    all_goals
      go_enter Try.func45, Try.ntmps45
      go_wp2
      go_ret2
      exact ⟨by simp [cN, eN], rfl⟩
  · have hc : cN op = 0 := by unfold cN; rw [if_neg (by omega), if_neg (by omega)]
    have he : eN op = 0 := by unfold eN; rw [if_neg (by omega)]
    have b2 := ne_b (show op ≠ 2 by omega)
    have b3 := ne_b (show op ≠ 3 by omega)
    have b4 := ne_b (show op ≠ 4 by omega)
    have b5 := ne_b (show op ≠ 5 by omega)
    have b6 := ne_b (show op ≠ 6 by omega)
    have b7 := ne_b (show op ≠ 7 by omega)
    rw [hc, he]
    clear h hc he
    go_enter Try.func45, Try.ntmps45
    go_wp2
    go_ret2
    exact ⟨rfl, rfl⟩
end Go.Proofs.Ytcjambgbbmffiaa

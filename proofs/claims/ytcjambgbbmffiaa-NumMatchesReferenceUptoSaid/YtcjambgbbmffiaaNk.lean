import Derived.Test.YtcjambgbbmffiaaNj
namespace Go.Proofs.Ytcjambgbbmffiaa
open Go.RowKit Go.Instr
set_option linter.unusedVariables false

/-! The reference's 'Reads', 'ReadsC', 'SameInts'. -/
def RReadsOk (t : Ex) : Prop := (rdE t).length ≤ 1100000 → ∀ (x : Value) (w : World), exIn w t x →
  Calls Try.prog 22 #[x] w fun e w' => ∃ v', e = .returned v' ∧ intsIn w' (sortU (rdE t)) v' ∧ Below w.heap.size w w'
theorem sortU_one (n : Int) : sortU [n] = [n] := sorted_ext _ _ (sortU_lt _) (by simp) (fun x => by rw [sortU_mem])
theorem ints_one (w : World) (n : Int) (t : TypeId) : intsIn (w.alloc (.cells #[.int .i64 n] t)) [n] (.slice (some ⟨w.heap.size, 0, none⟩) 1 1) := by
  refine ⟨_, 1, rfl, Nat.le_refl _, by omega, fun i hi => ⟨w.heap.size, 0, rfl, ?_⟩⟩
  have : i = 0 := by simp at hi; exact hi
  subst this
  simp [go_sem]
set_option maxHeartbeats 2000000 in
theorem rreads_step (op n v : Int) (l : List Ex) (IH : ∀ t, t ∈ l → RReadsOk t) : RReadsOk (.mk op n v l) := by
  intro hmx x w hx
  rw [exIn] at hx
  obtain ⟨oa, cap, rfl, hl, hm, hxs⟩ := hx
  rw [rdE] at hmx ⊢
  have HI := hid IH; clear IH
  by_cases h2 : op = 2 ∧ 0 ≤ n
  · rw [if_pos h2, sortU_one]
    obtain ⟨rfl, h0⟩ := h2
    have c0 : decide (0 ≤ n) = true := by simpa using h0
    clear hmx hxs HI
    obtain ⟨len, hlen⟩ : ∃ len, l.length = len := ⟨_, rfl⟩
    rw [hlen] at hl ⊢
    clear hlen
    go_enter Try.func22, Try.ntmps22
    go_wp2
    go_ret
    refine ⟨_, rfl, ?_, below_a (below_a (Below.refl _ _) _) _⟩
    have h := ints_one (w.alloc (.cells #[.int .i64 2, .int .i64 n, .int .i64 v, .slice oa len cap] 24)) n 3
    rw [World.size_alloc] at h
    exact h
  · rw [if_neg h2] at hmx ⊢
    have t2 : (decide (op = 2) && decide (0 ≤ n)) = false := by simp; omega
    obtain ⟨W0, hW0⟩ : ∃ W0, w.alloc (.cells #[.int .i64 op, .int .i64 n, .int .i64 v, .slice oa l.length cap] 24) = W0 := ⟨_, rfl⟩
    have hw0 : Below w.heap.size w W0 := by rw [← hW0]; exact below_a (Below.refl _ _) _
    have k0 : W0.cell? ⟨w.heap.size, 0, none⟩ = some (.int .i64 op) := by rw [← hW0]; simp [go_sem]
    have k1 : W0.cell? ⟨w.heap.size, 1, none⟩ = some (.int .i64 n) := by rw [← hW0]; simp [go_sem]
    have k3 : W0.cell? ⟨w.heap.size, 3, none⟩ = some (.slice oa l.length cap) := by rw [← hW0]; simp [go_sem]
    have K0 := hid k0
    have K3 := hid k3
    have BW := hid hw0
    clear hw0
    by_cases h4 : 4 ≤ op ∧ op ≤ 10
    · rw [if_pos h4] at hmx ⊢
      obtain ⟨g4, g5⟩ := h4
      have c4 : decide (4 ≤ op) = true := by simpa using g4
      have c5 : decide (op ≤ 10) = true := by simpa using g5
      have ho2 : (op == 2) = false := by rw [beq_eq_false_iff_ne]; omega
      have Hx := hid (fun hne => exsIn_all hxs hne)
      have Hlen := hid (rdsE_length l)
      have HMX := hid hmx
      obtain ⟨len, hlen⟩ : ∃ len, l.length = len := ⟨_, rfl⟩
      rw [hlen] at hl K3 k3 hW0 ⊢
      have Hl := hid hlen; clear hlen
      clear hxs hmx h2 t2
      go_enter Try.func22, Try.ntmps22
      go_wp2_with fail
      clear hW0 k0 k1 k3
      go_loopw [3, 4] (fun d i wr => ∃ k : Nat, k ≤ 2 ∧ k ≤ len ∧ i = .int .i64 k ∧ Hid (intsIn wr (sortU ((rdsE l).take k).flatten) d) ∧ Hid (Below W0.heap.size W0 wr)) (fun _ i _ => 2 - (intOf i).toNat)
      case atStart => exact ⟨0, by omega, Nat.zero_le _, rfl, hid (by rw [List.take_zero, List.flatten_nil, sortU_nil]; exact ints_nil _ _ _ (by omega)), hid (below_a (Below.refl _ _) _)⟩
      case round =>
        obtain ⟨k, hk, hkl, rfl, IN, BR⟩ := hrel
        have q0 := cell_below BR.out K0.out
        have q3 := cell_below BR.out K3.out
        by_cases hlt : k < 2 ∧ k < len
        · obtain ⟨h1, h2⟩ := hlt
          obtain ⟨b, off, rfl, hall⟩ := Hx.out (by intro h0; subst h0; have := Hl.out; simp at this; omega)
          obtain ⟨t, ht⟩ : ∃ t, l[k]? = some t := ⟨_, List.getElem?_eq_getElem (by have := Hl.out; omega)⟩
          obtain ⟨o', n', v', a', ln', cp', c0, c1, c2, c3, hin⟩ := hall k t ht
          have htake := hid (flat_take _ _ _ (rdsE_at l k t ht))
          have hbnd : ((rdsE l).take k).flatten.length + (rdE t).length ≤ 1100000 := by
            have e1 := flat_len ((rdsE l).take 2) (k + 1)
            rw [List.take_take, Nat.min_eq_left (by omega), htake.out, List.length_append] at e1
            have := HMX.out
            omega
          have hB := below_step BW.out BR.out
          have e0 := cell_below hB c0
          have e1 := cell_below hB c1
          have e2 := cell_below hB c2
          have e3 := cell_below hB c3
          have Hti := hid (HI.out t (List.mem_of_getElem? ht) (by omega) _ wr (exIn_below hB _ _ hin))
          have HBN := hid hbnd
          clear c0 c1 c2 c3 hin ht hall hB hbnd
          go_wp2_with (first | (go_at_call 39; refine (rbinary_any _ _).mono ?_; rintro e w2 ⟨rfl, rfl⟩))
          refine Hti.out.mono ?_
          rintro e w2 ⟨v2, rfl, hi2, hb2⟩
          have BN := hid (below_step BR.out hb2)
          have I2 := hid hi2
          have I1 := hid (intsIn_below hb2 IN.out)
          clear hb2 hi2 e0 e1 e2 e3 q0 q3
          go_wp2_with fail
          refine (union_any ((rdsE l).take k).flatten (sortU (rdE t)) _ _ _ I1.out I2.out (by have := HBN.out; have := sortU_len (rdE t); omega)).mono ?_
          rintro e w3 ⟨v3, rfl, hi3, hb3⟩
          have I3 := hid (show intsIn w3 (sortU ((rdsE l).take (k + 1)).flatten) v3 by rw [htake.out, ← sortU_two]; exact hi3)
          have B3 := hid (below_step BN.out hb3)
          clear hi3 hb3
          go_wp2
          go_roundw
          case rel => exact ⟨k + 1, by omega, by omega, by go_num, I3, B3⟩
          case measure => simp [intOf]; omega
        · have hlen : (rdsE l).take 2 = (rdsE l).take k := by
            have h1 := Hlen.out
            have h3 := Hl.out
            by_cases h4 : k = 2
            · rw [h4]
            · rw [List.take_of_length_le (by omega), List.take_of_length_le (by omega)]
          have Hlen2 := hid hlen
          have HB := hid (below_step BW.out BR.out)
          have HR := hid hlt
          clear hlen hlt
          by_cases h1 : k < 2
          · have h2 : decide ((k : Int) < (len : Int)) = false := by have := HR.out; simp; omega
            have h3 : decide (k < len) = false := by have := HR.out; simp; omega
            go_wp2_with (first | (go_at_call 39; refine (rbinary_any _ _).mono ?_; rintro e w2 ⟨rfl, rfl⟩))
            go_ret
            exact ⟨_, rfl, by rw [Hlen2.out]; exact IN.out, HB.out⟩
          · go_wp2_with (first | (go_at_call 39; refine (rbinary_any _ _).mono ?_; rintro e w2 ⟨rfl, rfl⟩))
            go_ret
            exact ⟨_, rfl, by rw [Hlen2.out]; exact IN.out, HB.out⟩
    · rw [if_neg h4, sortU_nil]
      have c4 : (decide (4 ≤ op) && decide (op ≤ 10)) = false := by simp; omega
      obtain ⟨len, hlen⟩ : ∃ len, l.length = len := ⟨_, rfl⟩
      rw [hlen] at hl K3 k3 hW0 ⊢
      clear hlen hxs HI hmx
      have H2 := hid h2
      clear h2 h4
      by_cases ho : op = 2
      · subst ho
        have hn0 : decide (0 ≤ n) = false := by have := H2.out; simp; omega
        go_enter Try.func22, Try.ntmps22
        go_wp2_with fail
        clear hW0 k0 k1 k3
        go_loopw [3, 4] (fun d i wr => i = .int .i64 0 ∧ d = .slice (some ⟨W0.heap.size, 0, none⟩) 0 0 ∧ wr = W0.alloc (.cells #[] 3)) (fun _ _ _ => 0)
        case atStart => exact ⟨rfl, rfl, rfl⟩
        case round =>
          obtain ⟨rfl, rfl, rfl⟩ := hrel
          have q0 := cell_alloc (.cells #[] 3) K0.out
          have q3 := cell_alloc (.cells #[] 3) K3.out
          by_cases h0 : 0 < len
          all_goals
            go_wp2_with (first | (go_at_call 39; refine (rbinary_any _ _).mono ?_; rintro e w2 ⟨rfl, rfl⟩))
            go_ret
            exact ⟨_, rfl, ints_nil _ _ _ (by omega), below_a BW.out _⟩
      · have ho2 : (op == 2) = false := by rw [beq_eq_false_iff_ne]; exact ho
        clear ho
        go_enter Try.func22, Try.ntmps22
        go_wp2_with fail
        clear hW0 k0 k1 k3
        go_loopw [3, 4] (fun d i wr => i = .int .i64 0 ∧ d = .slice (some ⟨W0.heap.size, 0, none⟩) 0 0 ∧ wr = W0.alloc (.cells #[] 3)) (fun _ _ _ => 0)
        case atStart => exact ⟨rfl, rfl, rfl⟩
        case round =>
          obtain ⟨rfl, rfl, rfl⟩ := hrel
          have q0 := cell_alloc (.cells #[] 3) K0.out
          have q3 := cell_alloc (.cells #[] 3) K3.out
          by_cases h0 : 0 < len
          all_goals
            go_wp2_with (first | (go_at_call 39; refine (rbinary_any _ _).mono ?_; rintro e w2 ⟨rfl, rfl⟩))
            go_ret
            exact ⟨_, rfl, ints_nil _ _ _ (by omega), below_a BW.out _⟩
mutual
theorem rreads_any : ∀ t, RReadsOk t
  | .mk op n v l => rreads_step op n v l (rreadss_any l)
theorem rreadss_any : ∀ (l : List Ex) (t : Ex), t ∈ l → RReadsOk t
  | [], _, h => by cases h
  | u :: _, _, .head _ => rreads_any u
  | _ :: r, t, .tail _ h => rreadss_any r t h
end
end Go.Proofs.Ytcjambgbbmffiaa

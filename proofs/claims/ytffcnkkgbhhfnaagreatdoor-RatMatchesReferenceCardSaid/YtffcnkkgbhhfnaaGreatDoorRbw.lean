import Derived.Test.YtffcnkkgbhhfnaaGreatDoorRbv
namespace Go.Proofs.YtffcnkkgbhhfnaaGreatDoor
open Go.RowKit Go.Instr
set_option linter.unusedVariables false

/-! The reference's 'at', 'cut', 'bits'. -/
theorem one_int (x : Int) : ∀ u ∈ ([.int .i64 x] : List Value), u.oneCell' = true := by
  intro u hu
  obtain rfl : u = .int .i64 x := by simpa using hu
  rfl
set_option maxRecDepth 100000 in
set_option maxHeartbeats 1000000 in
theorem at_any (v : Value) (l : List Nat) (k : Nat) (hk : k ≤ 1000000) (w : World) (hv : BitsAt w v l) (hl : l.length ≤ 1000000) :
    Calls Tryz.prog 71 #[v, .int .i64 (k : Int)] w fun e w' => e = .returned (.int .i64 ((l.getD k 0 : Nat) : Int)) ∧ w' = w := by
  obtain ⟨p, c, rfl, h1, h2, h3, h4⟩ := hv
  obtain ⟨x, hx⟩ : ∃ x, l.getD k 0 = x := ⟨_, rfl⟩
  by_cases h : k < l.length
  · obtain ⟨b, o, rfl, h5⟩ := h4 (by omega)
    have hc := h5 k h
    rw [hx] at hc ⊢
    have i1 : (0 : Int) ≤ (k : Int) := by omega
    have i2 : (k : Int) < (l.length : Int) := by omega
    clear h5 h4 hx
    go_enter Tryz.func71, Tryz.ntmps71
    go_wp2_with fail
    go_ret
    exact ⟨rfl, rfl⟩
  · have hx0 : x = 0 := by rw [← hx, List.getD_eq_getElem?_getD, List.getElem?_eq_none (by omega)]; rfl
    rw [hx, hx0]
    have i2 : ¬ ((k : Int) < (l.length : Int)) := by omega
    clear h4 hx
    go_enter Tryz.func71, Tryz.ntmps71
    go_wp2_with fail
    go_ret
    exact ⟨rfl, rfl⟩
theorem past_sub {B : Nat} {p : Option Addr} {n n' c c' : Nat} (h : Past B (.slice p n c)) : Past B (.slice p n' c') := fun q k d e => by
  simp only [Value.slice.injEq] at e
  exact h q n c (by rw [e.1])
theorem BitsAt.sub {w : World} {p : Option Addr} {N c : Nat} {l : List Nat} (h : BitsAt w (.slice p N c) l) (n : Nat) (hn : n ≤ l.length) : BitsAt w (.slice p n c) (l.take n) := by
  obtain ⟨p', c', e, h1, h2, h3, h4⟩ := h
  simp only [Value.slice.injEq] at e
  obtain ⟨rfl, -, rfl⟩ := e
  have hl : (l.take n).length = n := by rw [List.length_take, Nat.min_eq_left hn]
  refine ⟨p, c, by rw [hl], by omega, h2, h3, fun h0 => ?_⟩
  rw [hl] at h0
  obtain ⟨b, o, rfl, h5⟩ := h4 (by omega)
  refine ⟨b, o, rfl, fun i hi => ?_⟩
  rw [hl] at hi
  rw [h5 i (by omega), List.getD_eq_getElem?_getD, List.getD_eq_getElem?_getD, List.getElem?_take_of_lt hi]
set_option maxRecDepth 100000 in
set_option maxHeartbeats 2000000 in
theorem cut_bits (v : Value) (l : List Nat) (hb : Bit l) (hl : l.length ≤ 1000000) (w : World) (hv : BitsAt w v l) :
    Calls Tryz.prog 57 #[v] w fun e w' => ∃ u, e = .returned u ∧ w' = w ∧ BitsAt w u (bitsN (vl l)) ∧ (∀ B, Past B v → Past B u) := by
  have hv0 := hv
  obtain ⟨p, c, rfl, h1, h2, h3, h4⟩ := hv
  have HV := hid hv0
  have H4 := hid h4
  have HB := hid hb
  clear hv0 h4 h3 hb
  go_enter Tryz.func57, Tryz.ntmps57
  go_wp2
  go_loopw [3] (fun vn wr => ∃ n : Nat, vn = .int .i64 (n : Int) ∧ n ≤ l.length ∧ Hid (∀ j, n ≤ j → l.getD j 0 = 0) ∧ wr = w) (fun vn _ => (intOf vn).toNat)
  case atStart => exact ⟨l.length, rfl, Nat.le_refl _, hid (fun j hj => by rw [List.getD_eq_getElem?_getD, List.getElem?_eq_none hj]; rfl), rfl⟩
  case round =>
    obtain ⟨n, rfl, hn, HZ, rfl⟩ := hrel
    by_cases h0 : n = 0
    · subst h0
      have R := hid (show BitsAt wr (.slice p 0 c) (bitsN (vl l)) by
        have := HV.out.sub 0 (by omega)
        rwa [cut_form l HB.out 0 (by omega) HZ.out (Or.inl rfl)] at this)
      clear HZ HV H4
      go_wp2_with fail
      go_ret
      exact ⟨_, rfl, rfl, R.out, fun B hB => past_sub hB⟩
    · obtain ⟨b, o, hp, h5⟩ := H4.out (by omega)
      have hc := h5 (n - 1) (by omega)
      have t1 : decide ((0 : Int) < (n : Int)) = true := decide_eq_true (by omega)
      have i1 : (0 : Int) ≤ (n : Int) - 1 := by omega
      have i2 : (n : Int) - 1 < (l.length : Int) := by omega
      have i3 : ((n : Int) - 1).toNat = n - 1 := by omega
      have i4 : 0 < n := by omega
      have i5 : (n : Int) ≤ (c : Int) := by omega
      have i6 : (0 : Int) ≤ (n : Int) := by omega
      by_cases hx : l.getD (n - 1) 0 = 0
      · have HZ2 := hid (show ∀ j, n - 1 ≤ j → l.getD j 0 = 0 from fun j hj => by
          rcases Nat.lt_or_ge j n with h | h
          · rw [show j = n - 1 by omega]; exact hx
          · exact HZ.out j h)
        rw [hx] at hc
        clear HZ h5 hx
        subst hp
        go_wp2_with fail
        go_roundw
        case rel => exact ⟨n - 1, by go_num, by omega, HZ2, trivial⟩
        case measure => simp [intOf]; omega
      · have R := hid (show BitsAt wr (.slice p n c) (bitsN (vl l)) by
          have := HV.out.sub n (by omega)
          rwa [cut_form l HB.out n (by omega) HZ.out (Or.inr hx)] at this)
        obtain ⟨x, hxx⟩ : ∃ x, l.getD (n - 1) 0 = x := ⟨_, rfl⟩
        rw [hxx] at hc hx
        have t2 : ((x : Int) == 0) = false := by rw [beq_eq_false_iff_ne]; omega
        clear HZ h5 hx hxx HV H4
        subst hp
        go_wp2_with fail
        go_ret
        exact ⟨_, rfl, rfl, R.out, fun B hB => past_sub hB⟩
set_option maxRecDepth 100000 in
set_option maxHeartbeats 2000000 in
theorem bits_any (n : Nat) (hn : n ≤ 9223372036854775807) (w : World) :
    Calls Tryz.prog 39 #[.int .i64 (n : Int)] w fun e w' => ∃ u, e = .returned u ∧ BitsAt w' u (bitsN n) ∧ Below w.heap.size w w' ∧ Past w.heap.size u := by
  obtain ⟨i0, hi0, hz0, hz1, hz2⟩ := info_parts infoInt
  go_enter Tryz.func39, Tryz.ntmps39
  go_wp2_with fail
  go_loopw [0, 3] (fun vn vo wr => ∃ (m : Nat) (l : List Nat), vn = .int .i64 (m : Int) ∧ m < 2 ^ (63 - l.length) ∧ l.length ≤ 63 ∧ Hid (l ++ bitsN m = bitsN n) ∧ Hid (wr.ownsRow w.heap.size 3 1 vo l.length (natsV l)) ∧ Hid (Below w.heap.size w wr)) (fun vn _ _ => (intOf vn).toNat)
  case atStart => exact ⟨n, [], rfl, by show n < 2 ^ 63; omega, by simp, hid rfl, hid (own_new w _), hid (below_a0 w _)⟩
  case round =>
    obtain ⟨m, l, rfl, hm, hl, HE, HO, HB⟩ := hrel
    by_cases h0 : m = 0
    · subst h0
      have R := hid (show BitsAt wr u3 (bitsN n) by
        have := bits_owned HO.out
        have e := HE.out
        rw [bitsN_zero, List.append_nil] at e
        rwa [e] at this)
      go_wp2_with fail
      go_ret
      exact ⟨_, rfl, R.out, HB.out, past_owned HO.out⟩
    · have t1 : (0 : Int) < (m : Int) := by omega
      have p1 : (0 : Int) ≤ (m : Int) := by omega
      have HO2 := hid (World.ownsRow.alloc HO.out (.cells #[.int .i64 ((m : Int) % 2)] 3))
      have hm63 : m ≤ 9223372036854775807 := by
        have := Nat.pow_le_pow_right (show 0 < 2 by omega) (show 63 - l.length ≤ 63 by omega)
        omega
      have hl63 : l.length ≤ 62 := by
        rcases Nat.lt_or_ge l.length 63 with h | h
        · omega
        · rw [show l.length = 63 by omega] at hm; simp at hm; omega
      go_wp2_with (at_builtin; go_must (with_reducible refine wpList_append_vals rfl (.tmp 7) (.tmp 10) 46 rfl w.heap.size 3 i0 (.int .i64 0) 8 Tryz.underlying46 hi0 hz0 hz1 hz2 rfl (by omega) u3 l.length (natsV l) rfl HO2.out (.slice (some ⟨wr.heap.size, 0, none⟩) 1 1) [.int .i64 ((m : Int) % 2)] rfl (vals_one wr _ _) (one_int _) (by have := hl; simp; omega) (by simp; have := HB.out.size; omega) ?_))
      intro v' w' hown hb
      have HN := hid (show w'.ownsRow w.heap.size 3 1 v' (l ++ [m % 2]).length (natsV (l ++ [m % 2])) by
        rw [show ((m : Int) % 2) = ((m % 2 : Nat) : Int) by omega, natsV_snoc] at hown
        simpa using hown)
      have HBN := hid (show Below w.heap.size w w' from (below_a HB.out _).trans hb)
      have HEN := hid (show (l ++ [m % 2]) ++ bitsN (m / 2) = bitsN n by rw [← HE.out, bitsN_pos h0]; simp)
      have hq : m / 2 < 2 ^ (63 - (l ++ [m % 2]).length) := by
        rw [List.length_append, List.length_singleton]
        rw [show 63 - l.length = (63 - (l.length + 1)) + 1 by omega, Nat.pow_succ] at hm
        omega
      clear hown hb
      go_wp2_with fail
      go_roundw
      case rel => exact ⟨m / 2, l ++ [m % 2], by go_num, hq, by simp; omega, HEN, HN, HBN⟩
      case measure => simp [intOf]; omega
end Go.Proofs.YtffcnkkgbhhfnaaGreatDoor

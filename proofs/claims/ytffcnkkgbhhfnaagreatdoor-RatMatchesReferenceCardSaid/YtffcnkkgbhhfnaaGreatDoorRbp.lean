import Derived.Test.YtffcnkkgbhhfnaaGreatDoorRbw
namespace Go.Proofs.YtffcnkkgbhhfnaaGreatDoor
open Go.RowKit Go.Instr
set_option linter.unusedVariables false

/-! The reference's 'plus', 'minus', 'compare'. -/
set_option maxRecDepth 100000 in
set_option maxHeartbeats 2000000 in
theorem rplus_any (v u : Value) (a b : List Nat) (ha : Bit a) (hb : Bit b) (la : a.length ≤ 1000) (lb : b.length ≤ 1000) (w : World) (hv : BitsAt w v a) (hu : BitsAt w u b) :
    Calls Tryz.prog 54 #[v, u] w fun e w' => ∃ x, e = .returned x ∧ BitsAt w' x (bitsN (vl a + vl b)) ∧ Below w.heap.size w w' ∧ Past w.heap.size x := by
  obtain ⟨i0, hi0, hz0, hz1, hz2⟩ := info_parts infoInt
  have HV := hid hv
  have HU := hid hu
  have HA := hid ha
  have HB := hid hb
  obtain ⟨pa, ca, rfl, -⟩ := hv
  obtain ⟨pb, cb, rfl, -⟩ := hu
  clear ha hb
  go_enter Tryz.func54, Tryz.ntmps54
  go_wp2_with fail
  go_loopw [5, 6, 7] (fun vo vc vi wr => ∃ (k c : Nat) (l : List Nat), vi = .int .i64 (k : Int) ∧ vc = .int .i64 (c : Int) ∧ c ≤ 1 ∧ l.length = k ∧ Hid (Bit l) ∧ Hid (vl l + 2 ^ k * c = vl (a.take k) + vl (b.take k)) ∧ Hid (max a.length b.length < k → c = 0) ∧ k ≤ max a.length b.length + 1 ∧ Hid (wr.ownsRow w.heap.size 3 1 vo l.length (natsV l)) ∧ Hid (Below w.heap.size w wr)) (fun _ _ vi _ => 1001 - (intOf vi).toNat)
  case atStart => exact ⟨0, 0, [], rfl, rfl, by omega, rfl, hid (fun x hx => by cases hx), hid (by simp [vl]), hid (fun _ => rfl), by omega, hid (own_new w _), hid (below_a0 w _)⟩
  case round =>
    obtain ⟨k, c, l, rfl, rfl, hc, hl, HL, HE, HZ, hk, HO, HW⟩ := hrel
    by_cases h0 : max a.length b.length < k
    · have t1 : ¬ ((k : Int) ≤ (a.length : Int)) := by omega
      have t2 : ¬ ((k : Int) ≤ (b.length : Int)) := by omega
      have t1' : decide ((k : Int) ≤ (a.length : Int)) = false := decide_eq_false t1
      have t2' : decide ((k : Int) ≤ (b.length : Int)) = false := decide_eq_false t2
      have hv : vl l = vl a + vl b := by
        have h1 := HE.out
        rw [HZ.out h0, vl_all a k (by omega), vl_all b k (by omega)] at h1
        omega
      have HC := hid (fun (W : World) (h : BitsAt W u5 l) => hv ▸ cut_bits u5 l HL.out (by omega) W h)
      have HO2 := hid (bits_owned HO.out)
      clear hv HZ HE
      go_wp2_with fail
      refine (HC.out _ HO2.out).mono ?_
      rintro e w1 ⟨x, rfl, rfl, hx, hpx⟩
      have HX := hid hx
      have HP := hid (hpx _ (past_owned HO.out))
      clear hx hpx
      go_wp2_with fail
      go_ret
      exact ⟨_, rfl, HX.out, HW.out, HP.out⟩
    · have A1 := hid (fun (W : World) (h : Below w.heap.size w W) => at_any _ a k (by omega) W (HV.out.below h) (by omega))
      have A2 := hid (fun (W : World) (h : Below w.heap.size w W) => at_any _ b k (by omega) W (HU.out.below h) (by omega))
      have bx := HA.out.at k
      have by_ := HB.out.at k
      have ST := hid (fun x y => plus_step (x := x) (y := y) HE.out)
      have ea := hid (vl_take a k)
      have eb := hid (vl_take b k)
      have hxa : a.length < k → a.getD k 0 = 0 := fun h => by rw [List.getD_eq_getElem?_getD, List.getElem?_eq_none (by omega)]; rfl
      have hxb : k = max a.length b.length → a.getD k 0 = 0 ∧ b.getD k 0 = 0 := fun h => by
        rw [List.getD_eq_getElem?_getD, List.getElem?_eq_none (by omega), List.getD_eq_getElem?_getD, List.getElem?_eq_none (by omega)]; exact ⟨rfl, rfl⟩
      obtain ⟨x, hx⟩ : ∃ x, a.getD k 0 = x := ⟨_, rfl⟩
      obtain ⟨y, hy⟩ : ∃ y, b.getD k 0 = y := ⟨_, rfl⟩
      rw [hx] at A1 bx ea hxb
      rw [hy] at A2 by_ eb hxb
      have HLAST := hid hxb
      have HX := hid (show ((x : Int) + (y : Int) + (c : Int)) % 2 = (((x + y + c) % 2 : Nat) : Int) by omega)
      clear hx hy hxa hxb HE
      have b1 : (x : Int) ≤ 1 := by omega
      have b2 : (y : Int) ≤ 1 := by omega
      have b3 : (c : Int) ≤ 1 := by omega
      have b4 : (0 : Int) ≤ (x : Int) := by omega
      have b5 : (0 : Int) ≤ (y : Int) := by omega
      have b6 : (0 : Int) ≤ (c : Int) := by omega
      have b7 : (0 : Int) ≤ (x : Int) + (y : Int) + (c : Int) := by omega
      have REST : True := trivial
      by_cases h1 : k ≤ a.length
      · have t1 : decide ((k : Int) ≤ (a.length : Int)) = true := decide_eq_true (by omega)
        have t1' : (k : Int) ≤ (a.length : Int) := by omega
        clear h0 h1
        go_wp2_with fail
        refine (A1.out _ HW.out).mono ?_
        rintro e w1 ⟨rfl, rfl⟩
        go_wp2_with fail
        refine (A2.out _ HW.out).mono ?_
        rintro e w2 ⟨rfl, rfl⟩
        have HO2 := hid (World.ownsRow.alloc HO.out (.cells #[.int .i64 (((x : Int) + (y : Int) + (c : Int)) % 2)] 3))
        go_wp2_with (at_builtin; go_must (with_reducible refine wpList_append_vals rfl (.tmp 31) (.tmp 34) 46 rfl w.heap.size 3 i0 (.int .i64 0) 8 Tryz.underlying46 hi0 hz0 hz1 hz2 rfl (by omega) u5 l.length (natsV l) rfl HO2.out (.slice (some ⟨w2.heap.size, 0, none⟩) 1 1) [.int .i64 (((x : Int) + (y : Int) + (c : Int)) % 2)] rfl (vals_one w2 _ _) (one_int _) (by have := hl; simp; omega) (by simp; have := HW.out.size; omega) ?_))
        intro v' w' hown hbw
        have HN := hid (show w'.ownsRow w.heap.size 3 1 v' (l ++ [(x + y + c) % 2]).length (natsV (l ++ [(x + y + c) % 2])) by
          rw [HX.out, natsV_snoc] at hown
          simpa [hl] using hown)
        have HBN := hid (show Below w.heap.size w w' from (below_a HW.out _).trans hbw)
        have HEN := hid (show vl (l ++ [(x + y + c) % 2]) + 2 ^ (k + 1) * ((x + y + c) / 2) = vl (a.take (k + 1)) + vl (b.take (k + 1)) by
          rw [vl_snoc, hl, ea.out, eb.out]; exact ST.out x y)
        have HLN := hid (HL.out.snoc (show (x + y + c) % 2 ≤ 1 by omega))
        have HZN := hid (show max a.length b.length < k + 1 → (x + y + c) / 2 = 0 from fun h => by have := HLAST.out (by omega); omega)
        clear hown hbw ST
        go_wp2_with fail
        go_roundw
        case rel => exact ⟨k + 1, (x + y + c) / 2, l ++ [(x + y + c) % 2], by go_num, by go_num, by omega, by simp [hl], HLN, HEN, HZN, by omega, HN, HBN⟩
        case measure => simp [intOf]; omega
      · have t1 : decide ((k : Int) ≤ (a.length : Int)) = false := decide_eq_false (by omega)
        have t1' : ¬ (k : Int) ≤ (a.length : Int) := by omega
        have t2 : decide ((k : Int) ≤ (b.length : Int)) = true := decide_eq_true (by omega)
        have t2' : (k : Int) ≤ (b.length : Int) := by omega
        clear h0 h1
        go_wp2_with fail
        refine (A1.out _ HW.out).mono ?_
        rintro e w1 ⟨rfl, rfl⟩
        go_wp2_with fail
        refine (A2.out _ HW.out).mono ?_
        rintro e w2 ⟨rfl, rfl⟩
        have HO2 := hid (World.ownsRow.alloc HO.out (.cells #[.int .i64 (((x : Int) + (y : Int) + (c : Int)) % 2)] 3))
        go_wp2_with (at_builtin; go_must (with_reducible refine wpList_append_vals rfl (.tmp 31) (.tmp 34) 46 rfl w.heap.size 3 i0 (.int .i64 0) 8 Tryz.underlying46 hi0 hz0 hz1 hz2 rfl (by omega) u5 l.length (natsV l) rfl HO2.out (.slice (some ⟨w2.heap.size, 0, none⟩) 1 1) [.int .i64 (((x : Int) + (y : Int) + (c : Int)) % 2)] rfl (vals_one w2 _ _) (one_int _) (by have := hl; simp; omega) (by simp; have := HW.out.size; omega) ?_))
        intro v' w' hown hbw
        have HN := hid (show w'.ownsRow w.heap.size 3 1 v' (l ++ [(x + y + c) % 2]).length (natsV (l ++ [(x + y + c) % 2])) by
          rw [HX.out, natsV_snoc] at hown
          simpa [hl] using hown)
        have HBN := hid (show Below w.heap.size w w' from (below_a HW.out _).trans hbw)
        have HEN := hid (show vl (l ++ [(x + y + c) % 2]) + 2 ^ (k + 1) * ((x + y + c) / 2) = vl (a.take (k + 1)) + vl (b.take (k + 1)) by
          rw [vl_snoc, hl, ea.out, eb.out]; exact ST.out x y)
        have HLN := hid (HL.out.snoc (show (x + y + c) % 2 ≤ 1 by omega))
        have HZN := hid (show max a.length b.length < k + 1 → (x + y + c) / 2 = 0 from fun h => by have := HLAST.out (by omega); omega)
        clear hown hbw ST
        go_wp2_with fail
        go_roundw
        case rel => exact ⟨k + 1, (x + y + c) / 2, l ++ [(x + y + c) % 2], by go_num, by go_num, by omega, by simp [hl], HLN, HEN, HZN, by omega, HN, HBN⟩
        case measure => simp [intOf]; omega
set_option maxRecDepth 100000 in
set_option maxHeartbeats 2000000 in
theorem rminus_any (v u : Value) (a b : List Nat) (ha : Bit a) (hb : Bit b) (la : a.length ≤ 1000) (lb : b.length ≤ 1000) (hle : vl b ≤ vl a) (w : World) (hv : BitsAt w v a) (hu : BitsAt w u b) :
    Calls Tryz.prog 56 #[v, u] w fun e w' => ∃ x, e = .returned x ∧ BitsAt w' x (bitsN (vl a - vl b)) ∧ Below w.heap.size w w' ∧ Past w.heap.size x := by
  obtain ⟨i0, hi0, hz0, hz1, hz2⟩ := info_parts infoInt
  have HV := hid hv
  have HU := hid hu
  have HA := hid ha
  have HB := hid hb
  have HLE := hid hle
  obtain ⟨pa, ca, rfl, -⟩ := hv
  obtain ⟨pb, cb, rfl, -⟩ := hu
  clear ha hb hle
  go_enter Tryz.func56, Tryz.ntmps56
  go_wp2_with fail
  go_loopw [5, 6, 7] (fun vo vc vi wr => ∃ (k c : Nat) (l : List Nat), vi = .int .i64 (k : Int) ∧ vc = .int .i64 (c : Int) ∧ c ≤ 1 ∧ l.length = k ∧ Hid (Bit l) ∧ Hid (vl l + vl (b.take k) = vl (a.take k) + 2 ^ k * c) ∧ k ≤ a.length ∧ Hid (wr.ownsRow w.heap.size 3 1 vo l.length (natsV l)) ∧ Hid (Below w.heap.size w wr)) (fun _ _ vi _ => 1001 - (intOf vi).toNat)
  case atStart => exact ⟨0, 0, [], rfl, rfl, by omega, rfl, hid (fun x hx => by cases hx), hid (by simp [vl]), by omega, hid (own_new w _), hid (below_a0 w _)⟩
  case round =>
    obtain ⟨k, c, l, rfl, rfl, hc, hl, HL, HE, hk, HO, HW⟩ := hrel
    by_cases h0 : k = a.length
    · have hv : vl l = vl a - vl b := by
        have h1 := HE.out
        rw [vl_all a k (by omega), h0] at h1
        exact minus_end a b l HA.out HL.out (by omega) HLE.out h1
      have HC := hid (fun (W : World) (h : BitsAt W u5 l) => hv ▸ cut_bits u5 l HL.out (by omega) W h)
      have HO2 := hid (bits_owned HO.out)
      have t1 : ¬ ((k : Int) < (a.length : Int)) := by omega
      clear hv HE
      go_wp2_with fail
      refine (HC.out _ HO2.out).mono ?_
      rintro e w1 ⟨x, rfl, rfl, hx, hpx⟩
      have HX := hid hx
      have HP := hid (hpx _ (past_owned HO.out))
      clear hx hpx
      go_wp2_with fail
      go_ret
      exact ⟨_, rfl, HX.out, HW.out, HP.out⟩
    · have A1 := hid (fun (W : World) (h : Below w.heap.size w W) => at_any _ a k (by omega) W (HV.out.below h) (by omega))
      have A2 := hid (fun (W : World) (h : Below w.heap.size w W) => at_any _ b k (by omega) W (HU.out.below h) (by omega))
      have bx := HA.out.at k
      have by_ := HB.out.at k
      have ST := hid (fun x y s b' => minus_step (x := x) (y := y) (s := s) (b' := b') HE.out)
      have ea := hid (vl_take a k)
      have eb := hid (vl_take b k)
      obtain ⟨x, hx⟩ : ∃ x, a.getD k 0 = x := ⟨_, rfl⟩
      obtain ⟨y, hy⟩ : ∃ y, b.getD k 0 = y := ⟨_, rfl⟩
      rw [hx] at A1 bx ea
      rw [hy] at A2 by_ eb
      clear hx hy HE
      have b1 : (x : Int) ≤ 1 := by omega
      have b2 : (y : Int) ≤ 1 := by omega
      have b3 : (c : Int) ≤ 1 := by omega
      have b4 : (0 : Int) ≤ (x : Int) := by omega
      have b5 : (0 : Int) ≤ (y : Int) := by omega
      have b6 : (0 : Int) ≤ (c : Int) := by omega
      have t1 : (k : Int) < (a.length : Int) := by omega
      clear h0
      by_cases h1 : x < y + c
      · have t2 : ((x : Int) - (y : Int) - (c : Int)) < 0 := by omega
        have HX := hid (show (x : Int) - (y : Int) - (c : Int) + 2 = ((x + 2 - (y + c) : Nat) : Int) by omega)
        have hs1 : x + 2 - (y + c) ≤ 1 := by omega
        have hse : x + 2 * 1 = (x + 2 - (y + c)) + y + c := by omega
        go_wp2_with fail
        refine (A1.out _ HW.out).mono ?_
        rintro e w1 ⟨rfl, rfl⟩
        go_wp2_with fail
        refine (A2.out _ HW.out).mono ?_
        rintro e w2 ⟨rfl, rfl⟩
        have HO2 := hid (World.ownsRow.alloc HO.out (.cells #[.int .i64 ((x : Int) - (y : Int) - (c : Int) + 2)] 3))
        go_wp2_with (at_builtin; go_must (with_reducible refine wpList_append_vals rfl (.tmp 29) (.tmp 31) 46 rfl w.heap.size 3 i0 (.int .i64 0) 8 Tryz.underlying46 hi0 hz0 hz1 hz2 rfl (by omega) u5 l.length (natsV l) rfl HO2.out (.slice (some ⟨w2.heap.size, 0, none⟩) 1 1) [.int .i64 ((x : Int) - (y : Int) - (c : Int) + 2)] rfl (vals_one w2 _ _) (one_int _) (by have := hl; simp; omega) (by simp; have := HW.out.size; omega) ?_))
        intro v' w' hown hbw
        have HN := hid (show w'.ownsRow w.heap.size 3 1 v' (l ++ [(x + 2 - (y + c))]).length (natsV (l ++ [(x + 2 - (y + c))])) by
          rw [HX.out, natsV_snoc] at hown
          simpa [hl] using hown)
        have HBN := hid (show Below w.heap.size w w' from (below_a HW.out _).trans hbw)
        have HEN := hid (show vl (l ++ [(x + 2 - (y + c))]) + vl (b.take (k + 1)) = vl (a.take (k + 1)) + 2 ^ (k + 1) * 1 by
          rw [vl_snoc, hl, ea.out, eb.out]; exact ST.out x y _ _ hse)
        have HLN := hid (HL.out.snoc (show (x + 2 - (y + c)) ≤ 1 by omega))
        clear hown hbw ST
        go_wp2_with fail
        go_roundw
        case rel => exact ⟨k + 1, 1, l ++ [(x + 2 - (y + c))], by go_num, by go_num, by omega, by simp [hl], HLN, HEN, by omega, HN, HBN⟩
        case measure => simp [intOf]; omega
      · have t2 : ¬ ((x : Int) - (y : Int) - (c : Int)) < 0 := by omega
        have HX := hid (show (x : Int) - (y : Int) - (c : Int) = ((x - (y + c) : Nat) : Int) by omega)
        have hs1 : x - (y + c) ≤ 1 := by omega
        have hse : x + 2 * 0 = (x - (y + c)) + y + c := by omega
        go_wp2_with fail
        refine (A1.out _ HW.out).mono ?_
        rintro e w1 ⟨rfl, rfl⟩
        go_wp2_with fail
        refine (A2.out _ HW.out).mono ?_
        rintro e w2 ⟨rfl, rfl⟩
        have HO2 := hid (World.ownsRow.alloc HO.out (.cells #[.int .i64 ((x : Int) - (y : Int) - (c : Int))] 3))
        go_wp2_with (at_builtin; go_must (with_reducible refine wpList_append_vals rfl (.tmp 29) (.tmp 31) 46 rfl w.heap.size 3 i0 (.int .i64 0) 8 Tryz.underlying46 hi0 hz0 hz1 hz2 rfl (by omega) u5 l.length (natsV l) rfl HO2.out (.slice (some ⟨w2.heap.size, 0, none⟩) 1 1) [.int .i64 ((x : Int) - (y : Int) - (c : Int))] rfl (vals_one w2 _ _) (one_int _) (by have := hl; simp; omega) (by simp; have := HW.out.size; omega) ?_))
        intro v' w' hown hbw
        have HN := hid (show w'.ownsRow w.heap.size 3 1 v' (l ++ [(x - (y + c))]).length (natsV (l ++ [(x - (y + c))])) by
          rw [HX.out, natsV_snoc] at hown
          simpa [hl] using hown)
        have HBN := hid (show Below w.heap.size w w' from (below_a HW.out _).trans hbw)
        have HEN := hid (show vl (l ++ [(x - (y + c))]) + vl (b.take (k + 1)) = vl (a.take (k + 1)) + 2 ^ (k + 1) * 0 by
          rw [vl_snoc, hl, ea.out, eb.out]; exact ST.out x y _ _ hse)
        have HLN := hid (HL.out.snoc (show (x - (y + c)) ≤ 1 by omega))
        clear hown hbw ST
        go_wp2_with fail
        go_roundw
        case rel => exact ⟨k + 1, 0, l ++ [(x - (y + c))], by go_num, by go_num, by omega, by simp [hl], HLN, HEN, by omega, HN, HBN⟩
        case measure => simp [intOf]; omega
theorem getD_hi (a : List Nat) (j : Nat) (h : a.length ≤ j) : a.getD j 0 = 0 := by rw [List.getD_eq_getElem?_getD, List.getElem?_eq_none h]; rfl
def cmpN (x y : Nat) : Int := if x = y then 0 else if x < y then -1 else 1
set_option maxRecDepth 100000 in
set_option maxHeartbeats 2000000 in
theorem rcompare_any (v u : Value) (a b : List Nat) (ha : Bit a) (hb : Bit b) (la : a.length ≤ 1000) (lb : b.length ≤ 1000) (w : World) (hv : BitsAt w v a) (hu : BitsAt w u b) :
    Calls Tryz.prog 55 #[v, u] w fun e w' => e = .returned (.int .i64 (cmpN (vl a) (vl b))) ∧ w' = w := by
  have HV := hid hv
  have HU := hid hu
  have HA := hid ha
  have HB := hid hb
  obtain ⟨pa, ca, rfl, -⟩ := hv
  obtain ⟨pb, cb, rfl, -⟩ := hu
  clear ha hb
  go_enter Tryz.func55, Tryz.ntmps55
  go_wp2_with fail
  go_loopw [5] (fun vi wr => ∃ (k : Nat), vi = .int .i64 ((k : Int) - 1) ∧ k ≤ 1000 ∧ Hid (∀ j, k ≤ j → a.getD j 0 = b.getD j 0) ∧ wr = w) (fun vi _ => ((intOf vi) + 1).toNat)
  case atStart => exact ⟨max a.length b.length, by congr 1; omega, by omega, hid (fun j hj => by rw [getD_hi a j (by omega), getD_hi b j (by omega)]), rfl⟩
  case round =>
    obtain ⟨k, rfl, hk, HE, rfl⟩ := hrel
    by_cases h0 : k = 0
    · subst h0
      have HR := hid (show cmpN (vl a) (vl b) = 0 by unfold cmpN; rw [if_pos (vl_ext a b (fun j => HE.out j (by omega)))])
      clear HE
      go_wp2_with fail
      go_ret
      exact ⟨by rw [HR.out]; rfl, rfl⟩
    · obtain ⟨m, rfl⟩ : ∃ m, k = m + 1 := ⟨k - 1, by omega⟩
      have A1 := hid (fun (W : World) (h : W = wr) => at_any _ a m (by omega) W (h ▸ HV.out) (by omega))
      have A2 := hid (fun (W : World) (h : W = wr) => at_any _ b m (by omega) W (h ▸ HU.out) (by omega))
      have bx := HA.out.at m
      have by_ := HB.out.at m
      have H1 := hid (fun (h1 : a.getD m 0 = 1) (h2 : b.getD m 0 = 0) => cmp_hi a b HB.out m HE.out h1 h2)
      have H2 := hid (fun (h1 : b.getD m 0 = 1) (h2 : a.getD m 0 = 0) => cmp_hi b a HA.out m (fun j hj => (HE.out j hj).symm) h1 h2)
      have HEN := hid (show a.getD m 0 = b.getD m 0 → ∀ j, m ≤ j → a.getD j 0 = b.getD j 0 from fun h j hj => by
        rcases Nat.lt_or_ge j (m + 1) with h3 | h3
        · rw [show j = m by omega]; exact h
        · exact HE.out j h3)
      obtain ⟨x, hx⟩ : ∃ x, a.getD m 0 = x := ⟨_, rfl⟩
      obtain ⟨y, hy⟩ : ∃ y, b.getD m 0 = y := ⟨_, rfl⟩
      rw [hx] at A1 bx H1 H2 HEN
      rw [hy] at A2 by_ H1 H2 HEN
      have HI := hid (show (((m + 1 : Nat) : Int) - 1) = (m : Int) by omega)
      have c1 : decide ((0 : Int) ≤ (((m + 1 : Nat) : Int) - 1)) = true := decide_eq_true (by omega)
      have c2 : (0 : Int) ≤ (((m + 1 : Nat) : Int) - 1) := by omega
      have b1 : (x : Int) ≤ 1 := by omega
      have b2 : (y : Int) ≤ 1 := by omega
      have b4 : (0 : Int) ≤ (x : Int) := by omega
      have b5 : (0 : Int) ≤ (y : Int) := by omega
      clear hx hy HE h0
      rw [HI.out] at c1 c2 ⊢
      by_cases h1 : x = y
      · have t1 : ((x : Int) != (y : Int)) = false := by rw [h1]; simp
        have HEN2 := hid (HEN.out h1)
        clear HEN H1 H2 h1
        go_wp2_with fail
        refine (A1.out _ rfl).mono ?_
        rintro e z ⟨rfl, hz⟩
        rw [hz]
        clear hz
        go_wp2_with fail
        refine (A2.out _ rfl).mono ?_
        rintro e z ⟨rfl, hz⟩
        rw [hz]
        clear hz
        go_wp2_with fail
        go_roundw
        case rel => exact ⟨m, by go_num, by omega, HEN2, trivial⟩
        case measure => simp [intOf]
      · have t1 : ((x : Int) != (y : Int)) = true := by rw [bne_iff_ne]; omega
        have HR := hid (show cmpN (vl a) (vl b) = (x : Int) - (y : Int) by
          unfold cmpN
          rcases Nat.lt_or_ge x y with h | h
          · have := H2.out (by omega) (by omega)
            rw [if_neg (by omega), if_pos this]; omega
          · have := H1.out (by omega) (by omega)
            rw [if_neg (by omega), if_neg (by omega)]; omega)
        clear HEN H1 H2 h1
        go_wp2_with fail
        refine (A1.out _ rfl).mono ?_
        rintro e z ⟨rfl, hz⟩
        rw [hz]
        clear hz
        go_wp2_with fail
        refine (A2.out _ rfl).mono ?_
        rintro e z ⟨rfl, hz⟩
        rw [hz]
        clear hz
        go_wp2_with fail
        refine (A1.out _ rfl).mono ?_
        rintro e z ⟨rfl, hz⟩
        rw [hz]
        clear hz
        go_wp2_with fail
        refine (A2.out _ rfl).mono ?_
        rintro e z ⟨rfl, hz⟩
        rw [hz]
        clear hz
        go_wp2_with fail
        go_ret
        exact ⟨by rw [HR.out]; rfl, rfl⟩
end Go.Proofs.YtffcnkkgbhhfnaaGreatDoor

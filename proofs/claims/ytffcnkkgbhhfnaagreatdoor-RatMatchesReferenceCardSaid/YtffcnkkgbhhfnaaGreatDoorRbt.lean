import Derived.Test.YtffcnkkgbhhfnaaGreatDoorRbp
namespace Go.Proofs.YtffcnkkgbhhfnaaGreatDoor
open Go.RowKit Go.Instr
set_option linter.unusedVariables false

/-! The reference's 'times', 'divide', 'fits'. -/
theorem bit_bits (n : Nat) : Bit (bitsN n) := bit_bitsN n
set_option maxRecDepth 100000 in
set_option maxHeartbeats 2000000 in
theorem rtimes_any (v u : Value) (a b : List Nat) (ha : Bit a) (hb : Bit b) (la : a.length ≤ 200) (lb : b.length ≤ 200) (w : World) (hv : BitsAt w v a) (hu : BitsAt w u b) :
    Calls Tryz.prog 38 #[v, u] w fun e w' => ∃ x, e = .returned x ∧ BitsAt w' x (bitsN (vl a * vl b)) ∧ Below w.heap.size w w' ∧ Past w.heap.size x := by
  obtain ⟨i0, hi0, hz0, hz1, hz2⟩ := info_parts infoInt
  have HV := hid hv
  have HU := hid hu
  have HA := hid ha
  have HB := hid hb
  obtain ⟨pa, ca, rfl, -⟩ := hv
  obtain ⟨pb, cb, rfl, hcb, -, -, hcell⟩ := hu
  have HC := hid hcell
  clear ha hb hcell
  have V0 := hid ((HV.out.below (below_a (below_a0 w (.cells #[] 3)) (.cells #[] 3))).vals)
  have O0 := hid (own_base (own_new (w.alloc (.cells #[] 3)) 3) (show w.heap.size ≤ (w.alloc (.cells #[] 3)).heap.size by simp))
  rw [World.size_alloc] at O0
  go_enter Tryz.func38, Tryz.ntmps38
  go_wp2_with (at_builtin; go_must (with_reducible refine wpList_append_vals rfl (.tmp 9) (.tmp 10) 46 rfl w.heap.size 3 i0 (.int .i64 0) 8 Tryz.underlying46 hi0 hz0 hz1 hz2 rfl (by omega) (.slice (some ⟨w.heap.size + 1, 0, none⟩) 0 0) 0 [] rfl O0.out (.slice pa a.length ca) (natsV a) rfl V0.out (natsV_one a) (by rw [natsV_len]; omega) (by simp; omega) ?_))
  intro v1 w1 hown hbw
  have S0 := hid (show BitsAt w1 v1 a by
    exact bits_owned (n := (natsV a).length) (by simpa using hown))
  have B1 := hid (show Below w.heap.size w w1 from (below_a (below_a0 w _) _).trans hbw)
  have E0 := hid (show BitsAt w1 (.slice (some ⟨w.heap.size, 0, none⟩) 0 0) [] from ⟨_, _, rfl, Nat.le_refl _, by omega, (fun h => by cases h), fun h => absurd rfl h⟩)
  clear hown hbw O0 V0
  go_wp2_with fail
  go_loopw [5, 6, 7] (fun vo vs vi wr => ∃ (k : Nat) (sh : List Nat), vi = .int .i64 (k : Int) ∧ k ≤ b.length ∧ sh.length = a.length + k ∧ Hid (Bit sh) ∧ Hid (vl sh = 2 ^ k * vl a) ∧ Hid (BitsAt wr vo (bitsN (vl a * vl (b.take k)))) ∧ Hid (BitsAt wr vs sh) ∧ Hid (Below w.heap.size w wr) ∧ Hid (Past w.heap.size vo)) (fun _ _ vi _ => 201 - (intOf vi).toNat)
  case atStart => exact ⟨0, a, rfl, by omega, by omega, HA, hid (by simp), hid (by rw [List.take_zero, vl, Nat.mul_zero, bitsN_zero]; exact E0.out), S0, B1, hid (fun p n c e => by simp only [Value.slice.injEq, Option.some.injEq] at e; rw [← e.1]; exact Nat.le_refl _)⟩
  case round =>
    obtain ⟨k, sh, rfl, hk, hsl, HSB, HSE, HO, HS, HW, HPO⟩ := hrel
    by_cases h0 : k = b.length
    · have t1 : ¬ ((k : Int) < (b.length : Int)) := by omega
      have R := hid (show BitsAt wr u5 (bitsN (vl a * vl b)) by have := HO.out; rwa [vl_all b k (by omega)] at this)
      clear HO
      go_wp2_with fail
      go_ret
      exact ⟨_, rfl, R.out, HW.out, HPO.out⟩
    · obtain ⟨bb, oo, hp, hcl⟩ := HC.out (by omega)
      have hc := cell_below HW.out (hcl k (by omega))
      have by_ := HB.out.at k
      have eb := hid (vl_take b k)
      have hlen := hid (show (bitsN (vl a * vl (b.take k))).length ≤ 1000 by
        have h1 := vl_lt a HA.out
        have h2 := take_lt b HB.out k
        have h3 := Nat.mul_lt_mul'' h1 h2
        rw [← Nat.pow_add] at h3
        have := bitsN_len _ _ h3
        omega)
      have TS := hid (fun (x : Nat) (hx : b.getD k 0 = x) => times_step (l := b) (k := k) (x := x) (A := vl a) rfl HSE.out hx)
      obtain ⟨y, hy⟩ : ∃ y, b.getD k 0 = y := ⟨_, rfl⟩
      rw [hy] at hc by_
      have HTS := hid (TS.out y hy)
      clear hcl hy TS
      subst hp
      have t1 : (k : Int) < (b.length : Int) := by omega
      have t2 : (0 : Int) ≤ (k : Int) := by omega
      have HS2 := hid (show vl (0 :: sh) = 2 ^ (k + 1) * vl a by rw [vl, HSE.out, Nat.pow_succ, Nat.mul_comm (2 ^ k) 2, Nat.mul_assoc]; omega)
      have HB2 := hid (show Bit (0 :: sh) from fun z hz => by
        rcases List.mem_cons.1 hz with rfl | hz
        · omega
        · exact HSB.out z hz)
      by_cases h1 : y = 1
      · have t3 : ((y : Int) == 1) = true := by rw [h1]; rfl
        have P := hid (fun (W : World) (h : Below wr.heap.size wr W) => rplus_any u5 u6 _ sh (bit_bits _) HSB.out hlen.out (by omega) W (HO.out.below h) (HS.out.below h))
        have HV2 := hid (show vl (bitsN (vl a * vl (b.take k))) + vl sh = vl a * vl (b.take (k + 1)) by rw [vl_bitsN, ← HTS.out, h1, Nat.mul_one])
        clear HTS HO h1
        go_wp2_with fail
        refine (P.out _ (Below.refl _ _)).mono ?_
        rintro e w2 ⟨x, rfl, hx, hbw, hpx⟩
        have HO2 := hid (show BitsAt w2 x (bitsN (vl a * vl (b.take (k + 1)))) by rw [HV2.out] at hx; exact hx)
        have HW2 := hid (below_step HW.out hbw)
        have HS3 := hid (HS.out.below hbw)
        have HPN := hid (hpx.mono HW.out.size)
        clear hx hbw P hpx
        have V3 := hid ((HS3.out.below (below_a0 w2 (.cells #[.int .i64 0] 3))).vals)
        have L3 := hid (lit_one w2 (.int .i64 0) 3)
        go_wp2_with (at_builtin; go_must (with_reducible refine wpList_append_vals rfl (.tmp 26) (.tmp 27) 46 rfl w2.heap.size 3 i0 (.int .i64 0) 8 Tryz.underlying46 hi0 hz0 hz1 hz2 rfl (by omega) (.slice (some ⟨w2.heap.size, 0, none⟩) 1 1) 1 [.int .i64 0] rfl L3.out u6 (natsV sh) rfl V3.out (natsV_one sh) (by rw [natsV_len]; omega) (by simp) ?_))
        intro v' w' hown hbw
        have HSN := hid (show BitsAt w' v' (0 :: sh) from bits_owned (n := 1 + (natsV sh).length) (by simpa [natsV, List.map_cons] using hown))
        have HBW := hid (show Below w2.heap.size w2 w' from (below_a0 w2 _).trans hbw)
        have HON := hid (HO2.out.below HBW.out)
        have HWN := hid (below_step HW2.out HBW.out)
        clear hown hbw
        go_wp2_with fail
        go_roundw
        case rel => exact ⟨k + 1, 0 :: sh, by go_num, by omega, by simp; omega, HB2, HS2, HON, HSN, HWN, HPN⟩
        case measure => simp [intOf]; omega
      · have t3 : ((y : Int) == 1) = false := by rw [beq_eq_false_iff_ne]; omega
        have HO2 := hid (show BitsAt wr u5 (bitsN (vl a * vl (b.take (k + 1)))) by
          have := HTS.out
          rw [show y = 0 by omega, Nat.mul_zero, Nat.add_zero] at this
          rw [← this]; exact HO.out)
        have HW2 := HW
        have HS3 := HS
        have HPN := HPO
        clear HTS HO h1
        have V3 := hid ((HS3.out.below (below_a0 wr (.cells #[.int .i64 0] 3))).vals)
        have L3 := hid (lit_one wr (.int .i64 0) 3)
        go_wp2_with (at_builtin; go_must (with_reducible refine wpList_append_vals rfl (.tmp 26) (.tmp 27) 46 rfl wr.heap.size 3 i0 (.int .i64 0) 8 Tryz.underlying46 hi0 hz0 hz1 hz2 rfl (by omega) (.slice (some ⟨wr.heap.size, 0, none⟩) 1 1) 1 [.int .i64 0] rfl L3.out u6 (natsV sh) rfl V3.out (natsV_one sh) (by rw [natsV_len]; omega) (by simp) ?_))
        intro v' w' hown hbw
        have HSN := hid (show BitsAt w' v' (0 :: sh) from bits_owned (n := 1 + (natsV sh).length) (by simpa [natsV, List.map_cons] using hown))
        have HBW := hid (show Below wr.heap.size wr w' from (below_a0 wr _).trans hbw)
        have HON := hid (HO2.out.below HBW.out)
        have HWN := hid (below_step HW2.out HBW.out)
        clear hown hbw
        go_wp2_with fail
        go_roundw
        case rel => exact ⟨k + 1, 0 :: sh, by go_num, by omega, by simp; omega, HB2, HS2, HON, HSN, HWN, HPN⟩
        case measure => simp [intOf]; omega
end Go.Proofs.YtffcnkkgbhhfnaaGreatDoor

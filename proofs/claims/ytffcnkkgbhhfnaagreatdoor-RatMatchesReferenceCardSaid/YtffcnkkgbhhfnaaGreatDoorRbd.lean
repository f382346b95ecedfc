import Derived.Test.YtffcnkkgbhhfnaaGreatDoorRbt
import Derived.Laws.MakeOwn
import Derived.Laws.OwnMore
namespace Go.Proofs.YtffcnkkgbhhfnaaGreatDoor
open Go.RowKit Go.Instr
set_option linter.unusedVariables false

/-! The reference's 'divide', 'fits'. -/
theorem BitsAt.slice {w : World} {v : Value} {l : List Nat} (h : BitsAt w v l) : ∃ p n c, v = .slice p n c := by
  obtain ⟨p, c, rfl, -⟩ := h
  exact ⟨_, _, _, rfl⟩
theorem natsV_zeros (n : Nat) : (madeCells (Value.int .i64 0).cells (n * 1)).toList = natsV (List.replicate n 0) := by
  apply List.ext_getElem?
  intro i
  simp [madeCells, natsV, Value.cells]
  rcases Nat.lt_or_ge i n with h | h
  · simp [h, List.getElem?_replicate, Nat.mod_one]
  · simp [List.getElem?_eq_none, h, List.getElem?_replicate]
theorem replicate_bit (n : Nat) : Bit (List.replicate n 0) := fun x hx => by rw [List.eq_of_mem_replicate hx]; omega
theorem set_bit {l : List Nat} (h : Bit l) (i : Nat) : Bit (l.set i 1) := fun x hx => by
  rcases List.mem_or_eq_of_mem_set hx with h1 | h1
  · exact h x h1
  · omega
theorem vl_drop_set (l : List Nat) (i : Nat) (hi : i < l.length) : vl ((l.set i 1).drop i) = 1 + 2 * vl (l.drop (i + 1)) := by
  rw [vl_drop]
  rw [List.getD_eq_getElem?_getD, List.getElem?_set_self hi, List.drop_set_of_lt (by omega)]
  rfl
set_option maxRecDepth 100000 in
set_option maxHeartbeats 4000000 in
theorem rdivide_any (v : Value) (a : List Nat) (m : Nat) (ha : Bit a) (la : a.length ≤ 500) (hm : 1 ≤ m) (hm2 : m ≤ 4611686018427387904) (w : World) (hv : BitsAt w v a) :
    Calls Tryz.prog 36 #[v, .int .i64 (m : Int)] w fun e w' => ∃ x, e = .returned (.agg #[x, .int .i64 ((vl a % m : Nat) : Int)]) ∧ BitsAt w' x (bitsN (vl a / m)) ∧ Below w.heap.size w w' ∧ Past w.heap.size x := by
  obtain ⟨i0, hi0, hz0, hz1, hz2⟩ := info_parts infoInt
  have HV := hid hv
  have HA := hid ha
  obtain ⟨pa, ca, rfl, hca, -, -, hcell⟩ := hv
  have HC := hid hcell
  clear ha hcell
  have l1 : (0 : Int) ≤ (a.length : Int) := by omega
  obtain ⟨W0, hW0⟩ : ∃ W0, w.alloc (.cells #[.slice none 0 0, .int .i64 0] 52) = W0 := ⟨_, rfl⟩
  have hz : W0.heap.size = w.heap.size + 1 := by rw [← hW0]; simp
  obtain ⟨W1, hrun, hown, hgr⟩ := run_make_full (P := Tryz.prog) (w := W0) W0.heap.size 46 3 i0 (.int .i64 0) 1 Tryz.underlying46 hi0 hz0 hz1 .i64 .i64 a.length (by rw [hz2]; omega) (by unfold maxLen; omega) (Nat.le_refl _)
  rw [natsV_zeros] at hown
  have b1 : Below W0.heap.size W0 W1 := (Below.refl _ _).grown hgr (Nat.le_refl _) (fun k hk => by cases hk)
  have r0 : W0.cell? ⟨w.heap.size, 0, none⟩ = some (.slice none 0 0) := by rw [← hW0]; simp [go_sem]
  have r1 : W0.cell? ⟨w.heap.size, 1, none⟩ = some (.int .i64 0) := by rw [← hW0]; simp [go_sem]
  have f0 : ∀ o, W0.frozen? ⟨w.heap.size, o, none⟩ = false := fun o => by rw [← hW0]; simp [go_sem]
  have bw : Below w.heap.size w W0 := by rw [← hW0]; exact below_a0 _ _
  have HR := hid (And.intro (cell_below b1 r0) (And.intro (cell_below b1 r1) (fun o => (b1.frozen (p := ⟨w.heap.size, o, none⟩) (by simp only; omega)).trans (f0 o))))
  have BW := hid (below_step bw b1)
  rw [hz] at hown hrun
  have HO0 := hid hown
  have Hw := hid hW0
  clear hown hgr b1 r0 r1 f0 bw hW0
  go_enter Tryz.func36, Tryz.ntmps36
  go_wp2_with fail
  rw [Hw.out]
  clear Hw
  rw [hrun]
  clear hrun
  go_wp2_with fail
  go_loopw [6, 7] (fun vr vi wr => ∃ (k r : Nat) (q : List Nat), vi = .int .i64 ((k : Int) - 1) ∧ vr = .int .i64 (r : Int) ∧ k ≤ a.length ∧ r < m ∧ q.length = a.length ∧ Hid (∀ i, i < k → q.getD i 0 = 0) ∧ Hid (Bit q) ∧ Hid (vl (a.drop k) = m * vl (q.drop k) + r) ∧ Hid (wr.ownsRow (w.heap.size + 1) 3 1 (.slice (some ⟨w.heap.size + 1, 0, none⟩) a.length a.length) a.length (natsV q)) ∧ Hid (wr.cell? ⟨w.heap.size, 0, none⟩ = some (.slice none 0 0) ∧ wr.cell? ⟨w.heap.size, 1, none⟩ = some (.int .i64 0) ∧ ∀ o, wr.frozen? ⟨w.heap.size, o, none⟩ = false) ∧ Hid (Below w.heap.size w wr)) (fun _ vi _ => ((intOf vi) + 1).toNat)
  case atStart => exact ⟨a.length, 0, List.replicate a.length 0, rfl, rfl, by omega, by omega, by simp, hid (fun i hi => by simp [List.getD, List.getElem?_replicate, hi]), hid (replicate_bit _), hid (by simp [vl]), HO0, HR, BW⟩
  case round =>
    obtain ⟨k, r, q, rfl, rfl, hk, hr, hq, HQ0, HQ, HE, HO, HX, HW⟩ := hrel
    by_cases h0 : k = 0
    · subst h0
      obtain ⟨x0, x1, xf⟩ := HX.out
      have f0 := xf 0
      have f1 := xf 1
      have hE := HE.out
      rw [List.drop_zero, List.drop_zero] at hE
      obtain ⟨e1, e2⟩ := div_end hE hr
      have HC2 := hid (fun (W : World) (h : BitsAt W (.slice (some ⟨w.heap.size + 1, 0, none⟩) a.length a.length) q) => cut_bits _ q HQ.out (by omega) W h)
      rw [e1] at HC2
      have HB0 := hid (bits_owned HO.out)
      have HPO := hid (past_owned HO.out)
      have hr2 := hid e2
      clear hE e1 e2 xf HE HC HX
      go_wp2_with fail
      refine (HC2.out _ HB0.out).mono ?_
      rintro e w1 ⟨x, rfl, rfl, hx, hpx⟩
      have HXX := hid (fun u0 u1 => (hx.set (hpx _ HPO.out) 0 u0).set (hpx _ HPO.out) 1 u1)
      have HPX := hid ((hpx _ HPO.out).mono (show w.heap.size ≤ w.heap.size + 1 by omega))
      obtain ⟨px, nx, cx, rfl⟩ := hx.slice
      clear hx hpx HC2 HB0 HPO
      go_wp2_with fail
      exact bodyPost_ret (v := .agg #[.slice px nx cx, .int .i64 (r : Int)]) (by simp [results, Tryz.results36, go_sem, x0, x1]) rfl ⟨_, by rw [hr2.out], HXX.out _ _, (HW.out.setCell (Nat.le_refl _) _).setCell (Nat.le_refl _) _, HPX.out⟩
    · obtain ⟨j, rfl⟩ : ∃ j, k = j + 1 := ⟨k - 1, by omega⟩
      obtain ⟨bb, oo, hp, hcl⟩ := HC.out (by omega)
      have hc := cell_below HW.out (hcl j (by omega))
      have by_ := HA.out.at j
      have ea := hid (vl_drop a j)
      have eq := hid (vl_drop q j)
      have eqs := hid (vl_drop_set q j (by omega))
      obtain ⟨y, hy⟩ : ∃ y, a.getD j 0 = y := ⟨_, rfl⟩
      rw [hy] at hc by_ ea
      clear hcl hy
      subst hp
      have DS := hid (div_step HE.out hr by_)
      have HI := hid (show (((j + 1 : Nat) : Int) - 1) = (j : Int) by omega)
      have c2 : (0 : Int) ≤ (j : Int) := by omega
      have c3 : (j : Int) < (a.length : Int) := by omega
      have hbr : 2 * r + y ≤ 9223372036854775807 := by omega
      have g1 : (2 : Int) * (r : Int) + (y : Int) ≤ 9223372036854775807 := by omega
      have g2 : (0 : Int) ≤ (2 : Int) * (r : Int) + (y : Int) := by omega
      have hjq : j < q.length := by omega
      have st := HO.out.stored j (.int .i64 1)
      rw [HI.out]
      have hcq := HO.out.cellAt j (by omega)
      have hfq := HO.out.frozenAt j
      have hcq2 : wr.cell? ⟨w.heap.size + 1, j, none⟩ = some (.int .i64 ((q.getD j 0 : Nat) : Int)) := by rw [hcq]; simp [natsV, List.getD, List.getElem?_eq_getElem hjq]
      obtain ⟨qj, hqj⟩ : ∃ qj, q.getD j 0 = qj := ⟨_, rfl⟩
      rw [hqj] at hcq2
      have hq0 : Hid (q.getD j 0 = qj) := hid hqj
      clear hcq hqj HE h0
      by_cases h1 : m ≤ 2 * r + y
      · have t1 : decide ((m : Int) ≤ 2 * (r : Int) + (y : Int)) = true := decide_eq_true (by omega)
        have t1' : (m : Int) ≤ 2 * (r : Int) + (y : Int) := by omega
        have hd := DS.out
        rw [if_pos h1, if_pos h1] at hd
        have HD := hid hd
        have HON := hid (show (wr.setCell ⟨w.heap.size + 1, j, none⟩ (.int .i64 1)).ownsRow (w.heap.size + 1) 3 1 (.slice (some ⟨w.heap.size + 1, 0, none⟩) a.length a.length) a.length (natsV (q.set j 1)) by
          rw [show natsV (q.set j 1) = (natsV q).set j (.int .i64 1) by simp [natsV, List.map_set]]; exact st.1)
        have HWN := hid (HW.out.setCell (p := ⟨w.heap.size + 1, j, none⟩) (show w.heap.size ≤ w.heap.size + 1 by omega) (.int .i64 1))
        have HXN := hid (show (wr.setCell ⟨w.heap.size + 1, j, none⟩ (.int .i64 1)).cell? ⟨w.heap.size, 0, none⟩ = some (.slice none 0 0) ∧ (wr.setCell ⟨w.heap.size + 1, j, none⟩ (.int .i64 1)).cell? ⟨w.heap.size, 1, none⟩ = some (.int .i64 0) ∧ ∀ o, (wr.setCell ⟨w.heap.size + 1, j, none⟩ (.int .i64 1)).frozen? ⟨w.heap.size, o, none⟩ = false from
          ⟨(World.cell?_setCell_far _ _ _ _ (show w.heap.size + 1 ≠ w.heap.size by omega)).trans HX.out.1, (World.cell?_setCell_far _ _ _ _ (show w.heap.size + 1 ≠ w.heap.size by omega)).trans HX.out.2.1, fun o => by have := HX.out.2.2 o; simpa [go_sem] using this⟩)
        have HEN := hid (show vl (a.drop j) = m * vl ((q.set j 1).drop j) + (2 * r + y - m) by rw [ea.out, eqs.out]; exact HD.out.2)
        have HQN := hid (show ∀ i, i < j → (q.set j 1).getD i 0 = 0 from fun i hi => by
          have := HQ0.out i (by omega)
          rw [List.getD_eq_getElem?_getD] at this ⊢
          rw [List.getElem?_set_ne (by omega)]; exact this)
        have HBN := hid (set_bit HQ.out j)
        have hql : (q.set j 1).length = a.length := by rw [List.length_set]; exact hq
        clear hd DS
        go_wp2_with fail
        go_roundw
        case rel => exact ⟨j, 2 * r + y - m, q.set j 1, by go_num, by go_num, by omega, HD.out.1, hql, HQN, HBN, HEN, HON, HXN, HWN⟩
        case measure => simp [intOf]
      · have t1 : decide ((m : Int) ≤ 2 * (r : Int) + (y : Int)) = false := decide_eq_false (by omega)
        have t1' : ¬ (m : Int) ≤ 2 * (r : Int) + (y : Int) := by omega
        have hd := DS.out
        rw [if_neg h1, if_neg h1] at hd
        have HD := hid hd
        have HEN := hid (show vl (a.drop j) = m * vl (q.drop j) + (2 * r + y) by rw [ea.out, eq.out, HQ0.out j (by omega)]; exact HD.out.2)
        have HQN := hid (show ∀ i, i < j → q.getD i 0 = 0 from fun i hi => HQ0.out i (by omega))
        clear hd DS st
        go_wp2_with fail
        go_roundw
        case rel => exact ⟨j, 2 * r + y, q, by go_num, by go_num, by omega, HD.out.1, hq, HQN, HQ, HEN, HO, HX, HW⟩
        case measure => simp [intOf]
set_option maxRecDepth 100000 in
set_option maxHeartbeats 4000000 in
theorem rfits_any (v : Value) (a : List Nat) (ha : Bit a) (la : a.length ≤ 500) (w : World) (hv : BitsAt w v a) :
    Calls Tryz.prog 58 #[v] w fun e w' => e = .returned (if vl a ≤ 4611686018427387904 then .tuple #[.int .i64 ((vl a : Nat) : Int), .bool true] else .tuple #[.int .i64 0, .bool false]) ∧ Below w.heap.size w w' := by
  have HV := hid hv
  have HA := hid ha
  have B62 := hid (fun (W : World) => bits_any 4611686018427387904 (by omega) W)
  obtain ⟨pa, ca, rfl, hca, -, -, hcell⟩ := hv
  have HC := hid hcell
  have HCM := hid (fun (u : Value) (W : World) (h : BitsAt W (.slice pa a.length ca) a) (hu : BitsAt W u (bitsN 4611686018427387904)) => by
    have := rcompare_any (.slice pa a.length ca) u a (bitsN 4611686018427387904) HA.out (bit_bits _) (by omega) (by have := bitsN_len 63 4611686018427387904 (by omega); omega) W h hu
    rwa [vl_bitsN] at this)
  clear ha hcell
  by_cases h : vl a ≤ 4611686018427387904
  · rw [if_pos h]
    obtain ⟨z, hz⟩ : ∃ z, cmpN (vl a) 4611686018427387904 = z := ⟨_, rfl⟩
    have t1 : decide ((0 : Int) < z) = false := by
      rw [← hz]; unfold cmpN
      split
      · rfl
      · rw [if_pos (by omega)]; rfl
    have t1' : ¬ ((0 : Int) < z) := by simpa using t1
    rw [hz] at HCM
    have HH := hid h
    clear h hz
    go_enter Tryz.func58, Tryz.ntmps58
    go_wp2_with fail
    refine (most_any _).mono ?_
    rintro e w1 ⟨rfl, rfl⟩
    go_wp2_with fail
    refine (B62.out _).mono ?_
    rintro e w2 ⟨u, rfl, hu, hb, -⟩
    have HB2 := hid hb
    have HU := hid hu
    clear hu hb
    go_wp2_with fail
    refine (HCM.out u _ (HV.out.below HB2.out) HU.out).mono ?_
    rintro e w3 ⟨rfl, rfl⟩
    go_wp2_with fail
    go_loopw [4, 5] (fun vr vi wr => ∃ (k : Nat), vi = .int .i64 ((k : Int) - 1) ∧ vr = .int .i64 ((vl (a.drop k) : Nat) : Int) ∧ k ≤ a.length ∧ wr = w3) (fun _ vi _ => ((intOf vi) + 1).toNat)
    case atStart => exact ⟨a.length, rfl, by simp [vl], by omega, rfl⟩
    case round =>
      obtain ⟨k, rfl, rfl, hk, rfl⟩ := hrel
      by_cases h0 : k = 0
      · subst h0
        have HR := hid (show vl (a.drop 0) = vl a by rw [List.drop_zero])
        go_wp2_with fail
        exact bodyPost_ret (v := .tuple #[.int .i64 ((vl (a.drop 0) : Nat) : Int), .bool true]) (by simp [results, Tryz.results58, go_sem]; done) rfl ⟨by rw [HR.out], HB2.out⟩
      · obtain ⟨j, rfl⟩ : ∃ j, k = j + 1 := ⟨k - 1, by omega⟩
        obtain ⟨bb, oo, hp, hcl⟩ := HC.out (by omega)
        have hc := cell_below HB2.out (hcl j (by omega))
        have by_ := HA.out.at j
        have ea := vl_drop a j
        have hpad := vl_pad a j
        have hle : vl (a.drop j) ≤ vl a := by
          have := Nat.mul_le_mul_right (vl (a.drop j)) (show 1 ≤ 2 ^ j from Nat.one_le_pow _ _ (by decide))
          omega
        obtain ⟨y, hy⟩ : ∃ y, a.getD j 0 = y := ⟨_, rfl⟩
        rw [hy] at hc by_ ea
        have hb62 := HH.out
        have HEA := hid ea
        obtain ⟨r, hr⟩ : ∃ r, vl (a.drop (j + 1)) = r := ⟨_, rfl⟩
        rw [hr] at ea HEA
        have hbr : 2 * r + y ≤ 4611686018427387904 := by omega
        clear hcl hy ea hpad hle hb62
        subst hp
        rw [hr]
        have HI := hid (show (((j + 1 : Nat) : Int) - 1) = (j : Int) by omega)
        have c2 : (0 : Int) ≤ (j : Int) := by omega
        have c3 : (j : Int) < (a.length : Int) := by omega
        have g1 : (2 : Int) * (r : Int) + (y : Int) ≤ 9223372036854775807 := by omega
        have g2 : (0 : Int) ≤ (2 : Int) * (r : Int) + (y : Int) := by omega
        rw [HI.out]
        clear h0 hr
        go_wp2_with fail
        go_roundw
        case rel => exact ⟨j, by go_num, by rw [HEA.out]; go_num, by omega, trivial⟩
        case measure => simp [intOf]
  · rw [if_neg h]
    obtain ⟨z, hz⟩ : ∃ z, cmpN (vl a) 4611686018427387904 = z := ⟨_, rfl⟩
    have t1 : decide ((0 : Int) < z) = true := by
      rw [← hz]; unfold cmpN
      rw [if_neg (by omega), if_neg (by omega)]; rfl
    have t1' : ((0 : Int) < z) := by simpa using t1
    rw [hz] at HCM
    clear h hz
    go_enter Tryz.func58, Tryz.ntmps58
    go_wp2_with fail
    refine (most_any _).mono ?_
    rintro e w1 ⟨rfl, rfl⟩
    go_wp2_with fail
    refine (B62.out _).mono ?_
    rintro e w2 ⟨u, rfl, hu, hb, -⟩
    have HB2 := hid hb
    have HU := hid hu
    clear hu hb
    go_wp2_with fail
    refine (HCM.out u _ (HV.out.below HB2.out) HU.out).mono ?_
    rintro e w3 ⟨rfl, rfl⟩
    go_wp2_with fail
    exact bodyPost_ret (v := .tuple #[.int .i64 0, .bool false]) (by simp [results, Tryz.results58, go_sem]; done) rfl ⟨rfl, HB2.out⟩
end Go.Proofs.YtffcnkkgbhhfnaaGreatDoor

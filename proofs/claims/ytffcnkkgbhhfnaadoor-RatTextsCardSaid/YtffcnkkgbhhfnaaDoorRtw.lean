import Derived.Test.YtffcnkkgbhhfnaaDoorRtq
namespace Go.Proofs.YtffcnkkgbhhfnaaDoor
open Go.RowKit Go.Instr
set_option linter.unusedVariables false

/-! The reference's 'ParseIn' of every string. -/
theorem drop_ite (b : Bool) {p q r : Int × Int × Int} (h : (if b = true then p else q) = r) (hb : b = true) : r = p := by rw [if_pos hb] at h; exact h.symm
theorem drop_else (b : Bool) {p q r : Int × Int × Int} (h : (if b = true then p else q) = r) (hb : b = false) : r = q := by rw [if_neg (by rw [hb]; simp)] at h; exact h.symm
set_option maxRecDepth 100000 in
set_option maxHeartbeats 8000000 in
theorem rparse_any (s : ByteArray) (hs : s.size ≤ 1000) (w : World) :
    Calls Tryd.prog 10 #[.string s] w fun e w' => e = .returned (psR s.data.toList) ∧ Below w.heap.size w w' := by
  have HL : s.data.toList.length = s.size := by simp
  have RC := ref_check s.data.toList
  by_cases h0 : s.size = 0
  · have t0 : decide ((0 : Int) < (s.size : Int)) = false := decide_eq_false (by omega)
    have hnil : s.data.toList = [] := List.eq_nil_of_length_eq_zero (HL.trans h0)
    have hI : pI s.data.toList = 0 := by unfold pI; rw [hnil]; rfl
    clear hnil
    have A1 := hid (fun w => read_any s hs 0 (by omega) w)
    obtain ⟨R1, hR1⟩ : ∃ R1, rdG s.data.toList 0 = R1 := ⟨_, rfl⟩
    have bn := rdG_bound s.data.toList 0
    rw [hR1] at A1 bn
    obtain ⟨n1, a1⟩ := R1
    simp only at bn A1
    have hN : pN s.data.toList = (n1 : Int) := by unfold pN; rw [hI, hR1]; rfl
    by_cases ha : a1 < s.size
    · omega
    · have t1 : decide ((a1 : Int) < (s.size : Int)) = false := by simp; omega
      have hD : pD s.data.toList = 1 := by unfold pD; rw [hI, hR1]; simp only; rw [if_neg (by omega)]
      rw [hN, hD] at RC
      have V := hid (fun w => rvalid_any ((n1 : Int)) (1) (by omega) (by omega) (by omega) (by omega) w)
      obtain ⟨x, hx⟩ : ∃ x, validB ((n1 : Int)) (1) = x := ⟨_, rfl⟩
      have T := hid (fun (h : x = true) w => rtext_any ((n1 : Int)) (1) ((valid_iff _ _).1 (hx.trans h)) w)
      obtain ⟨t, ht⟩ : ∃ t : ByteArray, (⟨(textL ((n1 : Int)) (1)).toArray⟩ : ByteArray) = t := ⟨_, rfl⟩
      obtain ⟨y, hy⟩ : ∃ y, (t.toList == s.toList) = y := ⟨_, rfl⟩
      have hy2 : (textL ((n1 : Int)) (1) == s.data.toList) = y := by rw [← hy, ← ht, Lib.toList_data, Lib.toList_data]
      have RC2 : (if (x && y) = true then (((n1 : Int) : Int), (1 : Int), (0 : Int)) else (0, 0, 3)) = psOf s.data.toList := by rw [← hx, ← hy2]; exact RC
      rw [hx] at V
      rw [ht] at T
      clear RC hx ht hy2 hN hD hR1 hI 
      have HRC := hid RC2
      clear RC2
      go_enter Tryd.func10, Tryd.ntmps10
      go_wp2_with fail
      refine (A1.out _).mono ?_
      rintro e w1 ⟨rfl, rfl⟩
      go_wp2_with fail
      refine (V.out _).mono ?_
      rintro e w4 ⟨rfl, hb⟩
      have b0 : w4.cell? ⟨w.heap.size + 1, 0, none⟩ = some (.int .i64 ((n1 : Int))) := cell_below hb (by simp [go_sem])
      have b1 : w4.cell? ⟨w.heap.size + 1, 1, none⟩ = some (.int .i64 (1)) := cell_below hb (by simp [go_sem])
      have B4 := hid (below_step (below_a (below_a (Below.refl _ _) _) _) hb)
      cases x
      · have HP := hid (drop_else _ HRC.out rfl)
        have q0 : w4.cell? ⟨w.heap.size, 0, none⟩ = some (.int .i64 0) := cell_below hb (by simp [go_sem])
        have fz0 : w4.frozen? ⟨w.heap.size, 0, none⟩ = false := (hb.frozen (p := ⟨w.heap.size, 0, none⟩) (by simp; omega)).trans (by simp [go_sem])
        have q1 : w4.cell? ⟨w.heap.size, 1, none⟩ = some (.int .i64 0) := cell_below hb (by simp [go_sem])
        have fz1 : w4.frozen? ⟨w.heap.size, 1, none⟩ = false := (hb.frozen (p := ⟨w.heap.size, 1, none⟩) (by simp; omega)).trans (by simp [go_sem])
        have q2 : w4.cell? ⟨w.heap.size, 2, none⟩ = some (.int .i64 0) := cell_below hb (by simp [go_sem])
        have fz2 : w4.frozen? ⟨w.heap.size, 2, none⟩ = false := (hb.frozen (p := ⟨w.heap.size, 2, none⟩) (by simp; omega)).trans (by simp [go_sem])
        clear hb
        go_wp2_with fail
        exact bodyPost_ret (v := .agg #[.int .i64 0, .int .i64 0, .int .i64 3]) (by simp [results, Tryd.results10, go_sem, q0, q1, q2]) rfl ⟨by unfold psR; rw [HP.out], by repeat (first | exact B4.out | refine Below.setCell ?_ (by first | exact Nat.le_refl _ | (simp; done) | (simp; omega) | omega) _)⟩
      · go_wp2_with fail
        refine (T.out trivial _).mono ?_
        rintro e w5 ⟨rfl, hb5⟩
        have hb6 := below_step hb hb5
        have q0 : w5.cell? ⟨w.heap.size, 0, none⟩ = some (.int .i64 0) := cell_below hb6 (by simp [go_sem])
        have fz0 : w5.frozen? ⟨w.heap.size, 0, none⟩ = false := (hb6.frozen (p := ⟨w.heap.size, 0, none⟩) (by simp; omega)).trans (by simp [go_sem])
        have q1 : w5.cell? ⟨w.heap.size, 1, none⟩ = some (.int .i64 0) := cell_below hb6 (by simp [go_sem])
        have fz1 : w5.frozen? ⟨w.heap.size, 1, none⟩ = false := (hb6.frozen (p := ⟨w.heap.size, 1, none⟩) (by simp; omega)).trans (by simp [go_sem])
        have q2 : w5.cell? ⟨w.heap.size, 2, none⟩ = some (.int .i64 0) := cell_below hb6 (by simp [go_sem])
        have fz2 : w5.frozen? ⟨w.heap.size, 2, none⟩ = false := (hb6.frozen (p := ⟨w.heap.size, 2, none⟩) (by simp; omega)).trans (by simp [go_sem])
        have c0 := cell_below hb5 b0
        have c1 := cell_below hb5 b1
        have B5 := hid (below_step B4.out hb5)
        clear hb5 hb6 hb b0 b1
        cases y
        · have HP := hid (drop_else _ HRC.out rfl)
          have hy3 : (!t.toList == s.toList) = true := by rw [hy]; rfl
          go_wp2_with fail
          exact bodyPost_ret (v := .agg #[.int .i64 0, .int .i64 0, .int .i64 3]) (by simp [results, Tryd.results10, go_sem, q0, q1, q2]) rfl ⟨by unfold psR; rw [HP.out], by repeat (first | exact B5.out | refine Below.setCell ?_ (by first | exact Nat.le_refl _ | (simp; done) | (simp; omega) | omega) _)⟩
        · have HP := hid (drop_ite _ HRC.out rfl)
          have hy3 : (!t.toList == s.toList) = false := by rw [hy]; rfl
          go_wp2_with fail
          exact bodyPost_ret (v := .agg #[.int .i64 ((n1 : Int)), .int .i64 (1), .int .i64 0]) (by simp [results, Tryd.results10, go_sem, q0, q1, q2]) rfl ⟨by unfold psR; rw [HP.out], by repeat (first | exact B5.out | refine Below.setCell ?_ (by first | exact Nat.le_refl _ | (simp; done) | (simp; omega) | omega) _)⟩
  · have t0 : decide ((0 : Int) < (s.size : Int)) = true := by simp; omega
    have hx0 : 0 < s.size := by omega
    have i1 : (0 : Int) < (s.size : Int) := by omega
    obtain ⟨c, hc⟩ : ∃ c : UInt8, s[0] = c := ⟨_, rfl⟩
    have hhd : s.data.toList.head? = some c := by
      rw [List.head?_eq_getElem?, List.getElem?_eq_getElem (by omega)]
      exact congrArg some hc
    by_cases h45 : c = 45
    · have hI : pI s.data.toList = 1 := by unfold pI; rw [hhd, if_pos (by rw [h45])]
      have t2 : ((c.toNat : Int) == 45) = true := by rw [h45]; rfl
      clear hhd h45
      have A1 := hid (fun w => read_any s hs 1 (by omega) w)
      obtain ⟨R1, hR1⟩ : ∃ R1, rdG s.data.toList 1 = R1 := ⟨_, rfl⟩
      have bn := rdG_bound s.data.toList 1
      rw [hR1] at A1 bn
      obtain ⟨n1, a1⟩ := R1
      simp only at bn A1
      have hN : pN s.data.toList = -(n1 : Int) := by unfold pN; rw [hI, hR1]; rfl
      by_cases ha : a1 < s.size
      · have t1 : decide ((a1 : Int) < (s.size : Int)) = true := by simp; omega
        have A2 := hid (fun w => read_any s hs (a1 + 1) (by omega) w)
        rw [show (((a1 + 1 : Nat)) : Int) = (a1 : Int) + 1 by omega] at A2
        obtain ⟨R2, hR2⟩ : ∃ R2, rdG s.data.toList (a1 + 1) = R2 := ⟨_, rfl⟩
        have bd := rdG_bound s.data.toList (a1 + 1)
        rw [hR2] at A2 bd
        obtain ⟨d1, a2⟩ := R2
        simp only at bd A2
        have hD : pD s.data.toList = d1 := by unfold pD; rw [hI, hR1]; simp only; rw [if_pos (by omega), hR2]
        have ha1 : a1 ≤ 1000 := by omega
        rw [hN, hD] at RC
        have V := hid (fun w => rvalid_any (-(n1 : Int)) ((d1 : Int)) (by omega) (by omega) (by omega) (by omega) w)
        obtain ⟨x, hx⟩ : ∃ x, validB (-(n1 : Int)) ((d1 : Int)) = x := ⟨_, rfl⟩
        have T := hid (fun (h : x = true) w => rtext_any (-(n1 : Int)) ((d1 : Int)) ((valid_iff _ _).1 (hx.trans h)) w)
        obtain ⟨t, ht⟩ : ∃ t : ByteArray, (⟨(textL (-(n1 : Int)) ((d1 : Int))).toArray⟩ : ByteArray) = t := ⟨_, rfl⟩
        obtain ⟨y, hy⟩ : ∃ y, (t.toList == s.toList) = y := ⟨_, rfl⟩
        have hy2 : (textL (-(n1 : Int)) ((d1 : Int)) == s.data.toList) = y := by rw [← hy, ← ht, Lib.toList_data, Lib.toList_data]
        have RC2 : (if (x && y) = true then ((-(n1 : Int) : Int), ((d1 : Int) : Int), (0 : Int)) else (0, 0, 3)) = psOf s.data.toList := by rw [← hx, ← hy2]; exact RC
        rw [hx] at V
        rw [ht] at T
        clear RC hx ht hy2 hN hD hR1 hI hR2
        have HRC := hid RC2
        clear RC2
        go_enter Tryd.func10, Tryd.ntmps10
        go_wp2_with fail
        refine (A1.out _).mono ?_
        rintro e w1 ⟨rfl, rfl⟩
        go_wp2_with fail
        refine (A2.out _).mono ?_
        rintro e w2 ⟨rfl, rfl⟩
        go_wp2_with fail
        refine (V.out _).mono ?_
        rintro e w4 ⟨rfl, hb⟩
        have b0 : w4.cell? ⟨w.heap.size + 1, 0, none⟩ = some (.int .i64 (-(n1 : Int))) := cell_below hb (by simp [go_sem])
        have b1 : w4.cell? ⟨w.heap.size + 1, 1, none⟩ = some (.int .i64 ((d1 : Int))) := cell_below hb (by simp [go_sem])
        have B4 := hid (below_step (below_a (below_a (Below.refl _ _) _) _) hb)
        cases x
        · have HP := hid (drop_else _ HRC.out rfl)
          have q0 : w4.cell? ⟨w.heap.size, 0, none⟩ = some (.int .i64 0) := cell_below hb (by simp [go_sem])
          have fz0 : w4.frozen? ⟨w.heap.size, 0, none⟩ = false := (hb.frozen (p := ⟨w.heap.size, 0, none⟩) (by simp; omega)).trans (by simp [go_sem])
          have q1 : w4.cell? ⟨w.heap.size, 1, none⟩ = some (.int .i64 0) := cell_below hb (by simp [go_sem])
          have fz1 : w4.frozen? ⟨w.heap.size, 1, none⟩ = false := (hb.frozen (p := ⟨w.heap.size, 1, none⟩) (by simp; omega)).trans (by simp [go_sem])
          have q2 : w4.cell? ⟨w.heap.size, 2, none⟩ = some (.int .i64 0) := cell_below hb (by simp [go_sem])
          have fz2 : w4.frozen? ⟨w.heap.size, 2, none⟩ = false := (hb.frozen (p := ⟨w.heap.size, 2, none⟩) (by simp; omega)).trans (by simp [go_sem])
          clear hb
          go_wp2_with fail
          exact bodyPost_ret (v := .agg #[.int .i64 0, .int .i64 0, .int .i64 3]) (by simp [results, Tryd.results10, go_sem, q0, q1, q2]) rfl ⟨by unfold psR; rw [HP.out], by repeat (first | exact B4.out | refine Below.setCell ?_ (by first | exact Nat.le_refl _ | (simp; done) | (simp; omega) | omega) _)⟩
        · go_wp2_with fail
          refine (T.out trivial _).mono ?_
          rintro e w5 ⟨rfl, hb5⟩
          have hb6 := below_step hb hb5
          have q0 : w5.cell? ⟨w.heap.size, 0, none⟩ = some (.int .i64 0) := cell_below hb6 (by simp [go_sem])
          have fz0 : w5.frozen? ⟨w.heap.size, 0, none⟩ = false := (hb6.frozen (p := ⟨w.heap.size, 0, none⟩) (by simp; omega)).trans (by simp [go_sem])
          have q1 : w5.cell? ⟨w.heap.size, 1, none⟩ = some (.int .i64 0) := cell_below hb6 (by simp [go_sem])
          have fz1 : w5.frozen? ⟨w.heap.size, 1, none⟩ = false := (hb6.frozen (p := ⟨w.heap.size, 1, none⟩) (by simp; omega)).trans (by simp [go_sem])
          have q2 : w5.cell? ⟨w.heap.size, 2, none⟩ = some (.int .i64 0) := cell_below hb6 (by simp [go_sem])
          have fz2 : w5.frozen? ⟨w.heap.size, 2, none⟩ = false := (hb6.frozen (p := ⟨w.heap.size, 2, none⟩) (by simp; omega)).trans (by simp [go_sem])
          have c0 := cell_below hb5 b0
          have c1 := cell_below hb5 b1
          have B5 := hid (below_step B4.out hb5)
          clear hb5 hb6 hb b0 b1
          cases y
          · have HP := hid (drop_else _ HRC.out rfl)
            have hy3 : (!t.toList == s.toList) = true := by rw [hy]; rfl
            go_wp2_with fail
            exact bodyPost_ret (v := .agg #[.int .i64 0, .int .i64 0, .int .i64 3]) (by simp [results, Tryd.results10, go_sem, q0, q1, q2]) rfl ⟨by unfold psR; rw [HP.out], by repeat (first | exact B5.out | refine Below.setCell ?_ (by first | exact Nat.le_refl _ | (simp; done) | (simp; omega) | omega) _)⟩
          · have HP := hid (drop_ite _ HRC.out rfl)
            have hy3 : (!t.toList == s.toList) = false := by rw [hy]; rfl
            go_wp2_with fail
            exact bodyPost_ret (v := .agg #[.int .i64 (-(n1 : Int)), .int .i64 ((d1 : Int)), .int .i64 0]) (by simp [results, Tryd.results10, go_sem, q0, q1, q2]) rfl ⟨by unfold psR; rw [HP.out], by repeat (first | exact B5.out | refine Below.setCell ?_ (by first | exact Nat.le_refl _ | (simp; done) | (simp; omega) | omega) _)⟩
      · have t1 : decide ((a1 : Int) < (s.size : Int)) = false := by simp; omega
        have hD : pD s.data.toList = 1 := by unfold pD; rw [hI, hR1]; simp only; rw [if_neg (by omega)]
        rw [hN, hD] at RC
        have V := hid (fun w => rvalid_any (-(n1 : Int)) (1) (by omega) (by omega) (by omega) (by omega) w)
        obtain ⟨x, hx⟩ : ∃ x, validB (-(n1 : Int)) (1) = x := ⟨_, rfl⟩
        have T := hid (fun (h : x = true) w => rtext_any (-(n1 : Int)) (1) ((valid_iff _ _).1 (hx.trans h)) w)
        obtain ⟨t, ht⟩ : ∃ t : ByteArray, (⟨(textL (-(n1 : Int)) (1)).toArray⟩ : ByteArray) = t := ⟨_, rfl⟩
        obtain ⟨y, hy⟩ : ∃ y, (t.toList == s.toList) = y := ⟨_, rfl⟩
        have hy2 : (textL (-(n1 : Int)) (1) == s.data.toList) = y := by rw [← hy, ← ht, Lib.toList_data, Lib.toList_data]
        have RC2 : (if (x && y) = true then ((-(n1 : Int) : Int), (1 : Int), (0 : Int)) else (0, 0, 3)) = psOf s.data.toList := by rw [← hx, ← hy2]; exact RC
        rw [hx] at V
        rw [ht] at T
        clear RC hx ht hy2 hN hD hR1 hI 
        have HRC := hid RC2
        clear RC2
        go_enter Tryd.func10, Tryd.ntmps10
        go_wp2_with fail
        refine (A1.out _).mono ?_
        rintro e w1 ⟨rfl, rfl⟩
        go_wp2_with fail
        refine (V.out _).mono ?_
        rintro e w4 ⟨rfl, hb⟩
        have b0 : w4.cell? ⟨w.heap.size + 1, 0, none⟩ = some (.int .i64 (-(n1 : Int))) := cell_below hb (by simp [go_sem])
        have b1 : w4.cell? ⟨w.heap.size + 1, 1, none⟩ = some (.int .i64 (1)) := cell_below hb (by simp [go_sem])
        have B4 := hid (below_step (below_a (below_a (Below.refl _ _) _) _) hb)
        cases x
        · have HP := hid (drop_else _ HRC.out rfl)
          have q0 : w4.cell? ⟨w.heap.size, 0, none⟩ = some (.int .i64 0) := cell_below hb (by simp [go_sem])
          have fz0 : w4.frozen? ⟨w.heap.size, 0, none⟩ = false := (hb.frozen (p := ⟨w.heap.size, 0, none⟩) (by simp; omega)).trans (by simp [go_sem])
          have q1 : w4.cell? ⟨w.heap.size, 1, none⟩ = some (.int .i64 0) := cell_below hb (by simp [go_sem])
          have fz1 : w4.frozen? ⟨w.heap.size, 1, none⟩ = false := (hb.frozen (p := ⟨w.heap.size, 1, none⟩) (by simp; omega)).trans (by simp [go_sem])
          have q2 : w4.cell? ⟨w.heap.size, 2, none⟩ = some (.int .i64 0) := cell_below hb (by simp [go_sem])
          have fz2 : w4.frozen? ⟨w.heap.size, 2, none⟩ = false := (hb.frozen (p := ⟨w.heap.size, 2, none⟩) (by simp; omega)).trans (by simp [go_sem])
          clear hb
          go_wp2_with fail
          exact bodyPost_ret (v := .agg #[.int .i64 0, .int .i64 0, .int .i64 3]) (by simp [results, Tryd.results10, go_sem, q0, q1, q2]) rfl ⟨by unfold psR; rw [HP.out], by repeat (first | exact B4.out | refine Below.setCell ?_ (by first | exact Nat.le_refl _ | (simp; done) | (simp; omega) | omega) _)⟩
        · go_wp2_with fail
          refine (T.out trivial _).mono ?_
          rintro e w5 ⟨rfl, hb5⟩
          have hb6 := below_step hb hb5
          have q0 : w5.cell? ⟨w.heap.size, 0, none⟩ = some (.int .i64 0) := cell_below hb6 (by simp [go_sem])
          have fz0 : w5.frozen? ⟨w.heap.size, 0, none⟩ = false := (hb6.frozen (p := ⟨w.heap.size, 0, none⟩) (by simp; omega)).trans (by simp [go_sem])
          have q1 : w5.cell? ⟨w.heap.size, 1, none⟩ = some (.int .i64 0) := cell_below hb6 (by simp [go_sem])
          have fz1 : w5.frozen? ⟨w.heap.size, 1, none⟩ = false := (hb6.frozen (p := ⟨w.heap.size, 1, none⟩) (by simp; omega)).trans (by simp [go_sem])
          have q2 : w5.cell? ⟨w.heap.size, 2, none⟩ = some (.int .i64 0) := cell_below hb6 (by simp [go_sem])
          have fz2 : w5.frozen? ⟨w.heap.size, 2, none⟩ = false := (hb6.frozen (p := ⟨w.heap.size, 2, none⟩) (by simp; omega)).trans (by simp [go_sem])
          have c0 := cell_below hb5 b0
          have c1 := cell_below hb5 b1
          have B5 := hid (below_step B4.out hb5)
          clear hb5 hb6 hb b0 b1
          cases y
          · have HP := hid (drop_else _ HRC.out rfl)
            have hy3 : (!t.toList == s.toList) = true := by rw [hy]; rfl
            go_wp2_with fail
            exact bodyPost_ret (v := .agg #[.int .i64 0, .int .i64 0, .int .i64 3]) (by simp [results, Tryd.results10, go_sem, q0, q1, q2]) rfl ⟨by unfold psR; rw [HP.out], by repeat (first | exact B5.out | refine Below.setCell ?_ (by first | exact Nat.le_refl _ | (simp; done) | (simp; omega) | omega) _)⟩
          · have HP := hid (drop_ite _ HRC.out rfl)
            have hy3 : (!t.toList == s.toList) = false := by rw [hy]; rfl
            go_wp2_with fail
            exact bodyPost_ret (v := .agg #[.int .i64 (-(n1 : Int)), .int .i64 (1), .int .i64 0]) (by simp [results, Tryd.results10, go_sem, q0, q1, q2]) rfl ⟨by unfold psR; rw [HP.out], by repeat (first | exact B5.out | refine Below.setCell ?_ (by first | exact Nat.le_refl _ | (simp; done) | (simp; omega) | omega) _)⟩
    · have hI : pI s.data.toList = 0 := by unfold pI; rw [hhd, if_neg (by simpa using h45)]
      have t2 : ((c.toNat : Int) == 45) = false := by
        rw [beq_eq_false_iff_ne]
        intro e
        exact h45 (UInt8.toNat_inj.1 (show c.toNat = (45 : UInt8).toNat by rw [show (45 : UInt8).toNat = 45 from rfl]; omega))
      clear hhd h45
      have A1 := hid (fun w => read_any s hs 0 (by omega) w)
      obtain ⟨R1, hR1⟩ : ∃ R1, rdG s.data.toList 0 = R1 := ⟨_, rfl⟩
      have bn := rdG_bound s.data.toList 0
      rw [hR1] at A1 bn
      obtain ⟨n1, a1⟩ := R1
      simp only at bn A1
      have hN : pN s.data.toList = (n1 : Int) := by unfold pN; rw [hI, hR1]; rfl
      by_cases ha : a1 < s.size
      · have t1 : decide ((a1 : Int) < (s.size : Int)) = true := by simp; omega
        have A2 := hid (fun w => read_any s hs (a1 + 1) (by omega) w)
        rw [show (((a1 + 1 : Nat)) : Int) = (a1 : Int) + 1 by omega] at A2
        obtain ⟨R2, hR2⟩ : ∃ R2, rdG s.data.toList (a1 + 1) = R2 := ⟨_, rfl⟩
        have bd := rdG_bound s.data.toList (a1 + 1)
        rw [hR2] at A2 bd
        obtain ⟨d1, a2⟩ := R2
        simp only at bd A2
        have hD : pD s.data.toList = d1 := by unfold pD; rw [hI, hR1]; simp only; rw [if_pos (by omega), hR2]
        have ha1 : a1 ≤ 1000 := by omega
        rw [hN, hD] at RC
        have V := hid (fun w => rvalid_any ((n1 : Int)) ((d1 : Int)) (by omega) (by omega) (by omega) (by omega) w)
        obtain ⟨x, hx⟩ : ∃ x, validB ((n1 : Int)) ((d1 : Int)) = x := ⟨_, rfl⟩
        have T := hid (fun (h : x = true) w => rtext_any ((n1 : Int)) ((d1 : Int)) ((valid_iff _ _).1 (hx.trans h)) w)
        obtain ⟨t, ht⟩ : ∃ t : ByteArray, (⟨(textL ((n1 : Int)) ((d1 : Int))).toArray⟩ : ByteArray) = t := ⟨_, rfl⟩
        obtain ⟨y, hy⟩ : ∃ y, (t.toList == s.toList) = y := ⟨_, rfl⟩
        have hy2 : (textL ((n1 : Int)) ((d1 : Int)) == s.data.toList) = y := by rw [← hy, ← ht, Lib.toList_data, Lib.toList_data]
        have RC2 : (if (x && y) = true then (((n1 : Int) : Int), ((d1 : Int) : Int), (0 : Int)) else (0, 0, 3)) = psOf s.data.toList := by rw [← hx, ← hy2]; exact RC
        rw [hx] at V
        rw [ht] at T
        clear RC hx ht hy2 hN hD hR1 hI hR2
        have HRC := hid RC2
        clear RC2
        go_enter Tryd.func10, Tryd.ntmps10
        go_wp2_with fail
        refine (A1.out _).mono ?_
        rintro e w1 ⟨rfl, rfl⟩
        go_wp2_with fail
        refine (A2.out _).mono ?_
        rintro e w2 ⟨rfl, rfl⟩
        go_wp2_with fail
        refine (V.out _).mono ?_
        rintro e w4 ⟨rfl, hb⟩
        have b0 : w4.cell? ⟨w.heap.size + 1, 0, none⟩ = some (.int .i64 ((n1 : Int))) := cell_below hb (by simp [go_sem])
        have b1 : w4.cell? ⟨w.heap.size + 1, 1, none⟩ = some (.int .i64 ((d1 : Int))) := cell_below hb (by simp [go_sem])
        have B4 := hid (below_step (below_a (below_a (Below.refl _ _) _) _) hb)
        cases x
        · have HP := hid (drop_else _ HRC.out rfl)
          have q0 : w4.cell? ⟨w.heap.size, 0, none⟩ = some (.int .i64 0) := cell_below hb (by simp [go_sem])
          have fz0 : w4.frozen? ⟨w.heap.size, 0, none⟩ = false := (hb.frozen (p := ⟨w.heap.size, 0, none⟩) (by simp; omega)).trans (by simp [go_sem])
          have q1 : w4.cell? ⟨w.heap.size, 1, none⟩ = some (.int .i64 0) := cell_below hb (by simp [go_sem])
          have fz1 : w4.frozen? ⟨w.heap.size, 1, none⟩ = false := (hb.frozen (p := ⟨w.heap.size, 1, none⟩) (by simp; omega)).trans (by simp [go_sem])
          have q2 : w4.cell? ⟨w.heap.size, 2, none⟩ = some (.int .i64 0) := cell_below hb (by simp [go_sem])
          have fz2 : w4.frozen? ⟨w.heap.size, 2, none⟩ = false := (hb.frozen (p := ⟨w.heap.size, 2, none⟩) (by simp; omega)).trans (by simp [go_sem])
          clear hb
          go_wp2_with fail
          exact bodyPost_ret (v := .agg #[.int .i64 0, .int .i64 0, .int .i64 3]) (by simp [results, Tryd.results10, go_sem, q0, q1, q2]) rfl ⟨by unfold psR; rw [HP.out], by repeat (first | exact B4.out | refine Below.setCell ?_ (by first | exact Nat.le_refl _ | (simp; done) | (simp; omega) | omega) _)⟩
        · go_wp2_with fail
          refine (T.out trivial _).mono ?_
          rintro e w5 ⟨rfl, hb5⟩
          have hb6 := below_step hb hb5
          have q0 : w5.cell? ⟨w.heap.size, 0, none⟩ = some (.int .i64 0) := cell_below hb6 (by simp [go_sem])
          have fz0 : w5.frozen? ⟨w.heap.size, 0, none⟩ = false := (hb6.frozen (p := ⟨w.heap.size, 0, none⟩) (by simp; omega)).trans (by simp [go_sem])
          have q1 : w5.cell? ⟨w.heap.size, 1, none⟩ = some (.int .i64 0) := cell_below hb6 (by simp [go_sem])
          have fz1 : w5.frozen? ⟨w.heap.size, 1, none⟩ = false := (hb6.frozen (p := ⟨w.heap.size, 1, none⟩) (by simp; omega)).trans (by simp [go_sem])
          have q2 : w5.cell? ⟨w.heap.size, 2, none⟩ = some (.int .i64 0) := cell_below hb6 (by simp [go_sem])
          have fz2 : w5.frozen? ⟨w.heap.size, 2, none⟩ = false := (hb6.frozen (p := ⟨w.heap.size, 2, none⟩) (by simp; omega)).trans (by simp [go_sem])
          have c0 := cell_below hb5 b0
          have c1 := cell_below hb5 b1
          have B5 := hid (below_step B4.out hb5)
          clear hb5 hb6 hb b0 b1
          cases y
          · have HP := hid (drop_else _ HRC.out rfl)
            have hy3 : (!t.toList == s.toList) = true := by rw [hy]; rfl
            go_wp2_with fail
            exact bodyPost_ret (v := .agg #[.int .i64 0, .int .i64 0, .int .i64 3]) (by simp [results, Tryd.results10, go_sem, q0, q1, q2]) rfl ⟨by unfold psR; rw [HP.out], by repeat (first | exact B5.out | refine Below.setCell ?_ (by first | exact Nat.le_refl _ | (simp; done) | (simp; omega) | omega) _)⟩
          · have HP := hid (drop_ite _ HRC.out rfl)
            have hy3 : (!t.toList == s.toList) = false := by rw [hy]; rfl
            go_wp2_with fail
            exact bodyPost_ret (v := .agg #[.int .i64 ((n1 : Int)), .int .i64 ((d1 : Int)), .int .i64 0]) (by simp [results, Tryd.results10, go_sem, q0, q1, q2]) rfl ⟨by unfold psR; rw [HP.out], by repeat (first | exact B5.out | refine Below.setCell ?_ (by first | exact Nat.le_refl _ | (simp; done) | (simp; omega) | omega) _)⟩
      · have t1 : decide ((a1 : Int) < (s.size : Int)) = false := by simp; omega
        have hD : pD s.data.toList = 1 := by unfold pD; rw [hI, hR1]; simp only; rw [if_neg (by omega)]
        rw [hN, hD] at RC
        have V := hid (fun w => rvalid_any ((n1 : Int)) (1) (by omega) (by omega) (by omega) (by omega) w)
        obtain ⟨x, hx⟩ : ∃ x, validB ((n1 : Int)) (1) = x := ⟨_, rfl⟩
        have T := hid (fun (h : x = true) w => rtext_any ((n1 : Int)) (1) ((valid_iff _ _).1 (hx.trans h)) w)
        obtain ⟨t, ht⟩ : ∃ t : ByteArray, (⟨(textL ((n1 : Int)) (1)).toArray⟩ : ByteArray) = t := ⟨_, rfl⟩
        obtain ⟨y, hy⟩ : ∃ y, (t.toList == s.toList) = y := ⟨_, rfl⟩
        have hy2 : (textL ((n1 : Int)) (1) == s.data.toList) = y := by rw [← hy, ← ht, Lib.toList_data, Lib.toList_data]
        have RC2 : (if (x && y) = true then (((n1 : Int) : Int), (1 : Int), (0 : Int)) else (0, 0, 3)) = psOf s.data.toList := by rw [← hx, ← hy2]; exact RC
        rw [hx] at V
        rw [ht] at T
        clear RC hx ht hy2 hN hD hR1 hI 
        have HRC := hid RC2
        clear RC2
        go_enter Tryd.func10, Tryd.ntmps10
        go_wp2_with fail
        refine (A1.out _).mono ?_
        rintro e w1 ⟨rfl, rfl⟩
        go_wp2_with fail
        refine (V.out _).mono ?_
        rintro e w4 ⟨rfl, hb⟩
        have b0 : w4.cell? ⟨w.heap.size + 1, 0, none⟩ = some (.int .i64 ((n1 : Int))) := cell_below hb (by simp [go_sem])
        have b1 : w4.cell? ⟨w.heap.size + 1, 1, none⟩ = some (.int .i64 (1)) := cell_below hb (by simp [go_sem])
        have B4 := hid (below_step (below_a (below_a (Below.refl _ _) _) _) hb)
        cases x
        · have HP := hid (drop_else _ HRC.out rfl)
          have q0 : w4.cell? ⟨w.heap.size, 0, none⟩ = some (.int .i64 0) := cell_below hb (by simp [go_sem])
          have fz0 : w4.frozen? ⟨w.heap.size, 0, none⟩ = false := (hb.frozen (p := ⟨w.heap.size, 0, none⟩) (by simp; omega)).trans (by simp [go_sem])
          have q1 : w4.cell? ⟨w.heap.size, 1, none⟩ = some (.int .i64 0) := cell_below hb (by simp [go_sem])
          have fz1 : w4.frozen? ⟨w.heap.size, 1, none⟩ = false := (hb.frozen (p := ⟨w.heap.size, 1, none⟩) (by simp; omega)).trans (by simp [go_sem])
          have q2 : w4.cell? ⟨w.heap.size, 2, none⟩ = some (.int .i64 0) := cell_below hb (by simp [go_sem])
          have fz2 : w4.frozen? ⟨w.heap.size, 2, none⟩ = false := (hb.frozen (p := ⟨w.heap.size, 2, none⟩) (by simp; omega)).trans (by simp [go_sem])
          clear hb
          go_wp2_with fail
          exact bodyPost_ret (v := .agg #[.int .i64 0, .int .i64 0, .int .i64 3]) (by simp [results, Tryd.results10, go_sem, q0, q1, q2]) rfl ⟨by unfold psR; rw [HP.out], by repeat (first | exact B4.out | refine Below.setCell ?_ (by first | exact Nat.le_refl _ | (simp; done) | (simp; omega) | omega) _)⟩
        · go_wp2_with fail
          refine (T.out trivial _).mono ?_
          rintro e w5 ⟨rfl, hb5⟩
          have hb6 := below_step hb hb5
          have q0 : w5.cell? ⟨w.heap.size, 0, none⟩ = some (.int .i64 0) := cell_below hb6 (by simp [go_sem])
          have fz0 : w5.frozen? ⟨w.heap.size, 0, none⟩ = false := (hb6.frozen (p := ⟨w.heap.size, 0, none⟩) (by simp; omega)).trans (by simp [go_sem])
          have q1 : w5.cell? ⟨w.heap.size, 1, none⟩ = some (.int .i64 0) := cell_below hb6 (by simp [go_sem])
          have fz1 : w5.frozen? ⟨w.heap.size, 1, none⟩ = false := (hb6.frozen (p := ⟨w.heap.size, 1, none⟩) (by simp; omega)).trans (by simp [go_sem])
          have q2 : w5.cell? ⟨w.heap.size, 2, none⟩ = some (.int .i64 0) := cell_below hb6 (by simp [go_sem])
          have fz2 : w5.frozen? ⟨w.heap.size, 2, none⟩ = false := (hb6.frozen (p := ⟨w.heap.size, 2, none⟩) (by simp; omega)).trans (by simp [go_sem])
          have c0 := cell_below hb5 b0
          have c1 := cell_below hb5 b1
          have B5 := hid (below_step B4.out hb5)
          clear hb5 hb6 hb b0 b1
          cases y
          · have HP := hid (drop_else _ HRC.out rfl)
            have hy3 : (!t.toList == s.toList) = true := by rw [hy]; rfl
            go_wp2_with fail
            exact bodyPost_ret (v := .agg #[.int .i64 0, .int .i64 0, .int .i64 3]) (by simp [results, Tryd.results10, go_sem, q0, q1, q2]) rfl ⟨by unfold psR; rw [HP.out], by repeat (first | exact B5.out | refine Below.setCell ?_ (by first | exact Nat.le_refl _ | (simp; done) | (simp; omega) | omega) _)⟩
          · have HP := hid (drop_ite _ HRC.out rfl)
            have hy3 : (!t.toList == s.toList) = false := by rw [hy]; rfl
            go_wp2_with fail
            exact bodyPost_ret (v := .agg #[.int .i64 ((n1 : Int)), .int .i64 (1), .int .i64 0]) (by simp [results, Tryd.results10, go_sem, q0, q1, q2]) rfl ⟨by unfold psR; rw [HP.out], by repeat (first | exact B5.out | refine Below.setCell ?_ (by first | exact Nat.le_refl _ | (simp; done) | (simp; omega) | omega) _)⟩
end Go.Proofs.YtffcnkkgbhhfnaaDoor

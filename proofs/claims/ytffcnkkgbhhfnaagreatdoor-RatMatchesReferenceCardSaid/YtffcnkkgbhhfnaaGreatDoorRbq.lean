import Derived.Test.YtffcnkkgbhhfnaaGreatDoorRbu
import Derived.Test.YtffcnkkgbhhfnaaGreatDoorRsm
import Derived.Deep.RegionWith
namespace Go.Proofs.YtffcnkkgbhhfnaaGreatDoor
open Go.RowKit Go.Instr
set_option linter.unusedVariables false

/-! The reference's 'SumIn'. -/
theorem box3_set {w : World} {b : Nat} {x y z : Value} (h : Box3 w b x y z) (u v t : Value) : Box3 (((w.setCell ⟨b, 0, none⟩ u).setCell ⟨b, 1, none⟩ v).setCell ⟨b, 2, none⟩ t) b u v t := by
  obtain ⟨⟨g0, g1, g2⟩, ⟨f0, f1, f2⟩, g4⟩ := h
  exact ⟨⟨by simp [go_sem, g0, g1, g2], by simp [go_sem, g0, g1, g2], by simp [go_sem, g0, g1, g2]⟩, ⟨by simp [go_sem, f0], by simp [go_sem, f1], by simp [go_sem, f2]⟩, by simpa using g4⟩
theorem box3_far {w : World} {b B : Nat} {x y z : Value} (h : Box3 w b x y z) (hb : B ≠ b) (u v t : Value) : Box3 (((w.setCell ⟨B, 0, none⟩ u).setCell ⟨B, 1, none⟩ v).setCell ⟨B, 2, none⟩ t) b x y z := by
  obtain ⟨⟨g0, g1, g2⟩, ⟨f0, f1, f2⟩, g4⟩ := h
  exact ⟨⟨far3 _ _ _ _ _ _ _ hb g0, far3 _ _ _ _ _ _ _ hb g1, far3 _ _ _ _ _ _ _ hb g2⟩, ⟨by simpa [go_sem] using f0, by simpa [go_sem] using f1, by simpa [go_sem] using f2⟩, by simpa using g4⟩
theorem fr3_trip {r : Rat} {N D E : Int} (h : Trip r N D E) : fr3 r = .agg #[.int .i64 N, .int .i64 D, .int .i64 E] := by obtain ⟨rfl, rfl, rfl⟩ := h; rfl
set_option maxRecDepth 100000 in
set_option maxHeartbeats 8000000 in
theorem sumin_any (l : List (Int × Int)) (b off cap : Nat) (w : World) (hl : l.length ≤ cap) (hm : l.length ≤ 1000000) (h : FracsAt w l b off) (hr : ∀ p ∈ l, Fr p.1 p.2) :
    Calls Tryz.prog 21 #[.slice (some ⟨b, off, none⟩) l.length cap] w fun e w' => e = .returned (.agg #[.int .i64 (sumN l), .int .i64 (sumD l), .int .i64 (sumE l)]) ∧ Below w.heap.size w w' := by
  have HL := hid h
  have HR := hid hr
  obtain ⟨R, hR⟩ : ∃ R, sumG 0 1 l = R := ⟨_, rfl⟩
  have HRV := hid (show (Value.agg #[.int .i64 (sumN l), .int .i64 (sumD l), .int .i64 (sumE l)]) = .agg #[.int .i64 R.1, .int .i64 R.2.1, .int .i64 R.2.2] by unfold sumN sumD sumE; rw [hR])
  have HRR := hid (show sumG 0 1 (l.drop 0) = R by rw [List.drop_zero]; exact hR)
  clear h hr hR
  go_enter Tryz.func21, Tryz.ntmps21
  have Q0 := hid ((box3_new w (.int .i64 0) (.int .i64 0) (.int .i64 0) 28).below (below_a0 _ (.cells #[.int .i64 0, .int .i64 1, .int .i64 0] 28)))
  have O0 := hid (box3_new (w.alloc (.cells #[.int .i64 0, .int .i64 0, .int .i64 0] 28)) (.int .i64 0) (.int .i64 1) (.int .i64 0) 28)
  rw [World.size_alloc] at O0
  have B0 := hid (below_a (below_a0 w (.cells #[.int .i64 0, .int .i64 0, .int .i64 0] 28)) (.cells #[.int .i64 0, .int .i64 1, .int .i64 0] 28))
  go_wp2_with fail
  go_loopw [4] (fun vi wr => ∃ (k : Nat) (N D : Int), vi = .int .i64 (k : Int) ∧ k ≤ l.length ∧ Hid (Fr N D) ∧ Hid (sumG N D (l.drop k) = R) ∧ Hid (Box3 wr (w.heap.size + 1) (.int .i64 N) (.int .i64 D) (.int .i64 0)) ∧ Hid (Box3 wr w.heap.size (.int .i64 0) (.int .i64 0) (.int .i64 0)) ∧ Hid (Below w.heap.size w wr)) (fun vi _ => l.length - (intOf vi).toNat)
  case atStart => exact ⟨0, 0, 1, rfl, by omega, hid fr_zero, HRR, O0, Q0, B0⟩
  case round =>
    obtain ⟨k, N, D, rfl, hk, HF, HG, HO, HQ, HW⟩ := hrel
    by_cases h0 : k = l.length
    · have t1 : ¬ ((k : Int) < (l.length : Int)) := by omega
      obtain ⟨⟨o0, o1, o2⟩, -, -⟩ := HO.out
      obtain ⟨⟨r0, r1, r2⟩, ⟨f0, f1, f2⟩, -⟩ := HQ.out
      have HE := hid (show R = (N, D, 0) by have := HG.out; rw [h0, List.drop_length] at this; exact this.symm)
      clear h0
      go_wp2_with fail
      exact bodyPost_ret (v := .agg #[.int .i64 N, .int .i64 D, .int .i64 0]) (by simp [results, Tryz.results21, go_sem, r0, r1, r2]) rfl ⟨by rw [HRV.out, HE.out], ((HW.out.setCell (p := ⟨w.heap.size, 0, none⟩) (Nat.le_refl _) _).setCell (p := ⟨w.heap.size, 1, none⟩) (Nat.le_refl _) _).setCell (p := ⟨w.heap.size, 2, none⟩) (Nat.le_refl _) _⟩
    · have hkl : k < l.length := by omega
      have hc := (HL.out.below HW.out) k hkl
      have hfr := HR.out (l.getD k (0, 0)) (by rw [List.getD_eq_getElem?_getD, List.getElem?_eq_getElem hkl]; exact List.getElem_mem _)
      obtain ⟨N', D', E', hT⟩ := trip_ex (Rat.divInt N D + Rat.divInt (l.getD k (0, 0)).1 (l.getD k (0, 0)).2)
      have hst := sumG_step hkl hT
      have hca := trip_cases hT
      have AD := hid (fun W => addin_any HF.out hfr W)
      rw [fr3_trip hT] at AD
      obtain ⟨x, hx⟩ : ∃ x, (l.getD k (0, 0)).1 = x := ⟨_, rfl⟩
      obtain ⟨y, hy⟩ : ∃ y, (l.getD k (0, 0)).2 = y := ⟨_, rfl⟩
      rw [hx, hy] at AD hc
      rw [HG.out] at hst
      have HST := hid hst
      have HCA := hid (show (E' = 0 ∧ Fr N' D') ∨ (E' = 2 ∧ N' = 0 ∧ D' = 0) from by
        rcases hca with ⟨h1, h2, -⟩ | h1
        · exact Or.inl ⟨h1, h2⟩
        · exact Or.inr h1)
      clear hT hst hca hfr hx hy h0
      have i1 : (0 : Int) ≤ (k : Int) := by omega
      have i2 : (k : Int) < (l.length : Int) := by omega
      obtain ⟨⟨o0, o1, o2⟩, -, hob⟩ := HO.out
      obtain ⟨hc0, hc1⟩ := hc
      have hbl : b < w.heap.size := by
        have := (HL.out k hkl).1
        rcases Nat.lt_or_ge b w.heap.size with h' | h'
        · exact h'
        · simp [World.cell?, Array.getElem?_eq_none h'] at this
      have hsd := (Below.refl wr.heap.size wr).drew
      go_upto_region 5 with fail
      go_region_with (first | (go_at_call 11; refine (AD.out _).mono ?_; rintro e y ⟨rfl, hq⟩; have hB := below_step hsd hq; obtain ⟨⟨p0, p1, p2⟩, ⟨f0, f1, f2⟩, -⟩ := HO.out.below hB))
      all_goals
        have HON := hid (box3_set (HO.out.below hB) (.int .i64 N') (.int .i64 D') (.int .i64 E'))
        have HQN := hid (box3_far (HQ.out.below hB) (show w.heap.size + 1 ≠ w.heap.size by omega) (.int .i64 N') (.int .i64 D') (.int .i64 E'))
        have HWN := hid ((((below_step HW.out hB).setCell (p := ⟨w.heap.size + 1, 0, none⟩) (show w.heap.size ≤ w.heap.size + 1 by omega) (.int .i64 N')).setCell (p := ⟨w.heap.size + 1, 1, none⟩) (show w.heap.size ≤ w.heap.size + 1 by omega) (.int .i64 D')).setCell (p := ⟨w.heap.size + 1, 2, none⟩) (show w.heap.size ≤ w.heap.size + 1 by omega) (.int .i64 E'))
        obtain ⟨WN, hWN⟩ : ∃ WN, ((y.setCell ⟨w.heap.size + 1, 0, none⟩ (.int .i64 N')).setCell ⟨w.heap.size + 1, 1, none⟩ (.int .i64 D')).setCell ⟨w.heap.size + 1, 2, none⟩ (.int .i64 E') = WN := ⟨_, rfl⟩
        rw [hWN] at HON HQN HWN ⊢
        clear hWN p0 p1 p2 f0 f1 f2 hB hq o0 o1 o2
        obtain ⟨⟨o0, o1, o2⟩, -, -⟩ := HON.out
        obtain ⟨⟨r0, r1, r2⟩, ⟨f0, f1, f2⟩, -⟩ := HQN.out
        rcases HCA.out with ⟨hE0, hF⟩ | ⟨hE2, hN0, hD0⟩
        · subst hE0
          have HFN := hid hF
          have HGN := hid (show sumG N' D' (l.drop (k + 1)) = R by have := HST.out; rw [if_pos rfl] at this; exact this.symm)
          clear hF
          go_wp2_with fail
          go_roundw
          case rel => exact ⟨k + 1, N', D', by go_num, by omega, HFN, HGN, HON, HQN, HWN⟩
          case measure => simp [intOf]; omega
        · subst hE2
          subst hN0
          subst hD0
          have HRE := hid (show R = (0, 0, 2) by have := HST.out; rw [if_neg (by decide)] at this; exact this)
          go_wp2_with fail
          exact bodyPost_ret (v := .agg #[.int .i64 0, .int .i64 0, .int .i64 2]) (by simp [results, Tryz.results21, go_sem, r0, r1, r2]) rfl ⟨by rw [HRV.out, HRE.out], ((HWN.out.setCell (p := ⟨w.heap.size, 0, none⟩) (Nat.le_refl _) _).setCell (p := ⟨w.heap.size, 1, none⟩) (Nat.le_refl _) _).setCell (p := ⟨w.heap.size, 2, none⟩) (Nat.le_refl _) _⟩

end Go.Proofs.YtffcnkkgbhhfnaaGreatDoor

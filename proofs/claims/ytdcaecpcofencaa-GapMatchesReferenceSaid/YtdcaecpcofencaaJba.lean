import Derived.Test.YtdcaecpcofencaaJz
namespace Go.Proofs.Ytdcaecpcofencaa
open Go.RowKit Go.Instr Go.Deep
set_option maxRecDepth 100000
set_option linter.unusedVariables false
set_option linter.unusedSimpArgs false

/-! The reference's Bound, Sum, Leq. -/
set_option maxHeartbeats 400000 in
theorem rbound_in (w : World) {lo b n m : Nat} {R C : Nat → Nat} {Z : Nat → Nat → Int} (c : Nat) (h : Gr w lo b n m R C Z) (i j : Nat) (hi : i < n) (hj : j < m) (hn : n ≤ 65536) (hm : m ≤ 65536) :
    Calls Try.prog 26 #[.slice (some ⟨b, 0, none⟩) n c, .int .i64 (i : Int), .int .i64 (j : Int)] w fun e w' => e = .returned (.int .i64 (Z i j)) ∧ w = w' := by
  have h1 := h.cellh hi
  have h2 := h.cellv hi hj
  clear h
  go_enter Try.func26, Try.ntmps26
  go_wp2
  go_ret
  exact ⟨rfl, rfl⟩
set_option maxHeartbeats 400000 in
theorem rbound_out (w : World) {n m b c : Nat} (v p : Int) (h : ¬(0 ≤ v ∧ v < n ∧ 0 ≤ p ∧ p < m)) (R C : Nat → Nat) (hc : ∀ i, i < n → w.cell? ⟨b, i, none⟩ = some (.slice (some ⟨R i, 0, none⟩) m (C i))) (hn : n ≤ 65536) (hm : m ≤ 65536) :
    Calls Try.prog 26 #[.slice (some ⟨b, 0, none⟩) n c, .int .i64 v, .int .i64 p] w fun e w' => e = .returned (.int .i64 1099511627776) ∧ w = w' := by
  by_cases h1 : 0 ≤ v
  · by_cases h2 : v < n
    · obtain ⟨i, rfl⟩ : ∃ i : Nat, v = i := ⟨v.toNat, by omega⟩
      have h6 := hc i (by omega)
      clear hc
      have h2' : i < n := by omega
      have h3' : decide (n ≤ i) = false := by simp; omega
      by_cases h3 : 0 ≤ p
      · obtain ⟨j, rfl⟩ : ∃ j : Nat, p = j := ⟨p.toNat, by omega⟩
        have h4 : m ≤ j := by omega
        clear h
        go_enter Try.func26, Try.ntmps26
        go_wp2
        go_ret
        exact ⟨rfl, rfl⟩
      · clear h
        go_enter Try.func26, Try.ntmps26
        go_wp2
        go_ret
        exact ⟨rfl, rfl⟩
    · have h2' : (n : Int) ≤ v := by omega
      clear h h2 hc
      go_enter Try.func26, Try.ntmps26
      go_wp2
      go_ret
      exact ⟨rfl, rfl⟩
  · have h1' : v < 0 := by omega
    clear h h1 hc
    go_enter Try.func26, Try.ntmps26
    go_wp2
    go_ret
    exact ⟨rfl, rfl⟩
theorem rbound_any {w : World} {lo b n m : Nat} {R C : Nat → Nat} {Z : Nat → Nat → Int} (c : Nat) (h : Gr w lo b n m R C Z) (v p : Int) (hn : n ≤ 65536) (hm : m ≤ 65536) :
    Calls Try.prog 26 #[.slice (some ⟨b, 0, none⟩) n c, .int .i64 v, .int .i64 p] w fun e w' => e = .returned (.int .i64 (boundF n m Z v p)) ∧ w = w' := by
  unfold boundF
  by_cases h1 : 0 ≤ v ∧ v < n ∧ 0 ≤ p ∧ p < m
  · rw [if_pos h1]
    obtain ⟨a1, a2, a3, a4⟩ := h1
    have e1 : ((v.toNat : Nat) : Int) = v := by omega
    have e2 : ((p.toNat : Nat) : Int) = p := by omega
    have := rbound_in w c h v.toNat p.toNat (by omega) (by omega) hn hm
    rwa [e1, e2] at this
  · rw [if_neg h1]
    exact rbound_out w v p h1 R C (fun i hi => h.cellh hi) hn hm
set_option maxHeartbeats 400000 in
theorem rsum_any (a k : Int) (ha : fineB a = true) (hk : -17179869184 ≤ k ∧ k ≤ 17179869184) (w : World) :
    Calls Try.prog 50 #[.int .i64 a, .int .i64 k] w fun e w' => e = .returned (.int .i64 (sumF a k)) ∧ w = w' := by
  have FF := hidA (fun w => fine_any (a + k) w)
  unfold sumF
  by_cases h1 : a = 1099511627776
  · subst h1
    have h2 : nearB (1099511627776 + k) = false := by rw [Bool.eq_false_iff, Ne, nearB_iff]; omega
    rw [h2, if_neg (by decide)]
    clear FF h2 ha
    go_enter Try.func50, Try.ntmps50
    go_wp2
    go_ret
    exact ⟨rfl, rfl⟩
  · have b1 : (a == 1099511627776) = false := by simpa using h1
    have h3 : nearB a = true := by unfold fineB at ha; rw [b1, Bool.false_or] at ha; exact ha
    rw [nearB_iff] at h3
    have h4 : fineB (a + k) = nearB (a + k) := by
      unfold fineB
      rw [show (a + k == 1099511627776) = false by simp; omega, Bool.false_or]
    rw [h4] at FF
    clear h4 h1 ha
    obtain ⟨z, hz⟩ : ∃ z, nearB (a + k) = z := ⟨_, rfl⟩
    rw [hz] at FF ⊢
    clear hz
    cases z
    all_goals
      go_enter Try.func50, Try.ntmps50
      go_wp2_with (go_at_call 42; (with_reducible refine (FF.out _).mono ?_); rintro e v1 ⟨rfl, rfl⟩)
      go_ret
      exact ⟨rfl, rfl⟩
set_option maxRecDepth 100000 in
set_option maxHeartbeats 1000000 in
theorem rleq_any (w : World) {lo b n m : Nat} {R C : Nat → Nat} {Z : Nat → Nat → Int} (c : Nat) {lo2 b2 : Nat} {R2 C2 : Nat → Nat} {Y : Nat → Nat → Int} (c2 : Nat) (h : Gr w lo b n m R C Z) (h2 : Gr w lo2 b2 n m R2 C2 Y) (hn : n ≤ 65536) (hm : m ≤ 65536) :
    Calls Try.prog 24 #[.slice (some ⟨b, 0, none⟩) n c, .slice (some ⟨b2, 0, none⟩) n c2] w fun e w' => e = .returned (.bool (leqB n m Z Y)) ∧ Below w.heap.size w w' := by
  have hG := hidA h
  have hY := hidA h2
  clear h h2
  go_enter Try.func24, Try.ntmps24
  go_wp2
  go_loopg [5] n (fun g i wr => ∃ k : Nat, k ≤ n ∧ g = n - k ∧ i = .int .i64 k ∧ Below w.heap.size w wr ∧ ∀ i, i < k → ∀ j, j < m → Z i j ≤ Y i j)
  case atStart => exact ⟨0, Nat.zero_le _, rfl, rfl, Below.refl _ _, fun i hi => by omega⟩
  case round =>
    obtain ⟨k, hk, rfl, rfl, hB, hall⟩ := hrel
    obtain ⟨wo, rfl⟩ : ∃ wo : World, wo = wr := ⟨_, rfl⟩
    have HA := hidA hall
    have HB := hidA hB
    clear hall hB
    by_cases hkn : k < n
    · have hkz : (k : Int) < (n : Int) := by omega
      have c1 := (hG.out.belowA HB.out).cellh hkn
      go_wp2
      go_loopg [6] m (fun g i wx => ∃ j : Nat, j ≤ m ∧ g = m - j ∧ i = .int .i64 j ∧ Below w.heap.size w wx ∧ ∀ j', j' < j → Z k j' ≤ Y k j')
      case atStart => exact ⟨0, Nat.zero_le _, rfl, rfl, HB.out, fun i hi => by omega⟩
      case round =>
        clear HB c1
        obtain ⟨j, hj, rfl, rfl, hB, hall2⟩ := hrel
        have HA2 := hidA hall2
        have HB := hidA hB
        clear hall2 hB
        have c1 := (hG.out.belowA HB.out).cellh hkn
        have c2' := (hY.out.belowA HB.out).cellh hkn
        by_cases hjm : j < m
        · have hjz : (j : Int) < (m : Int) := by omega
          have e1 := (hG.out.belowA HB.out).cellv hkn hjm
          have e2 := (hY.out.belowA HB.out).cellv hkn hjm
          by_cases hle : Z k j ≤ Y k j
          · have HN := hidA (all_snoc (p := fun j' => Z k j' ≤ Y k j') HA2.out hle)
            generalize Z k j = z at *
            generalize Y k j = y at *
            have b1 : decide (y < z) = false := by simp; omega
            go_upto_region 7 with (fail)
            go_quiet (fail)
            go_wp2
            go_roundg (m - (j + 1))
            case rel => exact ⟨j + 1, by omega, rfl, by go_num, drewnA HB.out _, HN.out⟩
            case measure => omega
          · have HN := hidA (leqB_no hkn hjm (show Y k j < Z k j by omega))
            generalize Z k j = z at *
            generalize Y k j = y at *
            have b1 : y < z := by omega
            clear hle
            go_upto_region 7 with (fail)
            go_quiet (fail)
            go_wp2
            go_ret
            exact ⟨retB HN.out.symm, drewnA HB.out _⟩
        · obtain rfl : j = m := by omega
          go_wp2
          go_roundg (n - (k + 1))
          case rel => exact ⟨k + 1, by omega, rfl, by go_num, HB.out, all_snoc HA.out HA2.out⟩
          case measure => omega
    · obtain rfl : k = n := by omega
      go_wp2
      go_ret
      exact ⟨retB (leqB_yes HA.out).symm, HB.out⟩
set_option maxRecDepth 100000 in
set_option maxHeartbeats 1000000 in
theorem rwiden_any (w : World) {lo b n m : Nat} {R C : Nat → Nat} {Z : Nat → Nat → Int} (c : Nat) {lo2 b2 : Nat} {R2 C2 : Nat → Nat} {Y : Nat → Nat → Int} (c2 : Nat) (h : Gr w lo b n m R C Z) (h2 : Gr w lo2 b2 n m R2 C2 Y) (hn : n ≤ 65536) (hm : m ≤ 65536) :
    Calls Try.prog 22 #[.slice (some ⟨b, 0, none⟩) n c, .slice (some ⟨b2, 0, none⟩) n c2] w fun e w' => GrRet w.heap.size n m (fun i j => if Z i j < Y i j then 1099511627776 else Z i j) w e w' := by
  have hG := hidA h
  have hY := hidA h2
  clear h h2
  go_enter Try.func22, Try.ntmps22
  go_upto_region 2 with (go_at_call 27; (with_reducible refine (copy_any _ c hG.out hn hm).mono ?_); rintro e w1 ⟨gb, gc, R1, C1, rfl, hg, hb1⟩)
  have hM := hidA (MixO.start (fun i j => if Z i j < Y i j then 1099511627776 else Z i j) hg hb1)
  clear hg hb1
  go_wp2
  go_loopg [6] n (fun g i wr => ∃ k : Nat, k ≤ n ∧ g = n - k ∧ i = .int .i64 k ∧ MixO w wr gb n m R1 C1 (fun i j => if Z i j < Y i j then 1099511627776 else Z i j) Z k 0)
  case atStart => exact ⟨0, Nat.zero_le _, rfl, rfl, hM.out⟩
  case round =>
    clear hM
    obtain ⟨k, hk, rfl, rfl, hM⟩ := hrel
    obtain ⟨wo, rfl⟩ : ∃ wo : World, wo = wr := ⟨_, rfl⟩
    by_cases hkn : k < n
    · have hkz : (k : Int) < (n : Int) := by omega
      have c1 := (hG.out.belowA hM.bel).cellh hkn
      have HM0 := hidA hM
      clear hM
      go_wp2
      go_loopg [7] m (fun g i wx => ∃ j : Nat, j ≤ m ∧ g = m - j ∧ i = .int .i64 j ∧ MixO w wx gb n m R1 C1 (fun i j => if Z i j < Y i j then 1099511627776 else Z i j) Z k j)
      case atStart => exact ⟨0, Nat.zero_le _, rfl, rfl, HM0.out⟩
      case round =>
        clear HM0 c1
        obtain ⟨j, hj, rfl, rfl, hM⟩ := hrel
        obtain ⟨wi, rfl⟩ : ∃ wi : World, wi = wr := ⟨_, rfl⟩
        have HM := hidA hM
        clear hM
        have c1 := (hG.out.belowA HM.out.bel).cellh hkn
        have c2' := (hY.out.belowA HM.out.bel).cellh hkn
        by_cases hjm : j < m
        · have hjz : (j : Int) < (m : Int) := by omega
          have e1 := (hG.out.belowA HM.out.bel).cellv hkn hjm
          have e2 := (hY.out.belowA HM.out.bel).cellv hkn hjm
          by_cases hle : Z k j < Y k j
          · have HF : Hid (1099511627776 = (fun i j => if Z i j < Y i j then (1099511627776 : Int) else Z i j) k j) := hidA (by show _ = if Z k j < Y k j then (1099511627776 : Int) else Z k j; rw [if_pos hle])
            generalize hz : Z k j = z at e1 hle
            generalize hy : Y k j = y at e2 hle
            have b1 : y > z := hle
            clear hz hy
            go_upto_region 8 with (fail)
            go_quiet (fail)
            go_upto_region 9 with (fail)
            rename_i nq _
            have HM1 := hidA (HM.out.keep (drewnA (Below.refl _ _) nq))
            clear c1 c2' e1 e2 HM
            generalize wi.drewN nq = wj at *
            have h1 := HM1.out.gr.cellh hkn
            have h2 := HM1.out.cur hkn hjm
            have h3 := HM1.out.gr.frv hkn j
            go_wp2
            go_roundg (m - (j + 1))
            case rel => exact ⟨j + 1, by omega, rfl, by go_num, HM1.out.step hkn HF.out⟩
            case measure => omega
          · have HF : Hid ((fun i j => if Z i j < Y i j then (1099511627776 : Int) else Z i j) k j = Z k j) := hidA (by show (if Z k j < Y k j then (1099511627776 : Int) else Z k j) = _; rw [if_neg hle])
            generalize hz : Z k j = z at e1 hle
            generalize hy : Y k j = y at e2 hle
            have b1 : decide (z < y) = false := by simp; omega
            clear hz hy
            go_upto_region 8 with (fail)
            go_quiet (fail)
            go_wp2
            go_roundg (m - (j + 1))
            case rel => exact ⟨j + 1, by omega, rfl, by go_num, (HM.out.skip HF.out).keep (drewnA (Below.refl _ _) _)⟩
            case measure => omega
        · obtain rfl : j = m := by omega
          go_wp2
          go_roundg (n - (k + 1))
          case rel => exact ⟨k + 1, by omega, rfl, by go_num, HM.out.row⟩
          case measure => omega
    · obtain rfl : k = n := by omega
      go_wp2
      go_ret
      exact hM.done gc
set_option maxRecDepth 100000 in
set_option maxHeartbeats 1000000 in
theorem rjoin_any (w : World) {lo b n m : Nat} {R C : Nat → Nat} {Z : Nat → Nat → Int} (c : Nat) {lo2 b2 : Nat} {R2 C2 : Nat → Nat} {Y : Nat → Nat → Int} (c2 : Nat) (h : Gr w lo b n m R C Z) (h2 : Gr w lo2 b2 n m R2 C2 Y) (hn : n ≤ 65536) (hm : m ≤ 65536) :
    Calls Try.prog 20 #[.slice (some ⟨b, 0, none⟩) n c, .slice (some ⟨b2, 0, none⟩) n c2] w fun e w' => GrRet w.heap.size n m (fun i j => max (Z i j) (Y i j)) w e w' := by
  have hG := hidA h
  have hY := hidA h2
  clear h h2
  go_enter Try.func20, Try.ntmps20
  go_upto_region 2 with (go_at_call 27; (with_reducible refine (copy_any _ c hG.out hn hm).mono ?_); rintro e w1 ⟨gb, gc, R1, C1, rfl, hg, hb1⟩)
  have hM := hidA (MixO.start (fun i j => max (Z i j) (Y i j)) hg hb1)
  clear hg hb1
  go_wp2
  go_loopg [6] n (fun g i wr => ∃ k : Nat, k ≤ n ∧ g = n - k ∧ i = .int .i64 k ∧ MixO w wr gb n m R1 C1 (fun i j => max (Z i j) (Y i j)) Z k 0)
  case atStart => exact ⟨0, Nat.zero_le _, rfl, rfl, hM.out⟩
  case round =>
    clear hM
    obtain ⟨k, hk, rfl, rfl, hM⟩ := hrel
    obtain ⟨wo, rfl⟩ : ∃ wo : World, wo = wr := ⟨_, rfl⟩
    by_cases hkn : k < n
    · have hkz : (k : Int) < (n : Int) := by omega
      have c1 := (hG.out.belowA hM.bel).cellh hkn
      have HM0 := hidA hM
      clear hM
      go_wp2
      go_loopg [7] m (fun g i wx => ∃ j : Nat, j ≤ m ∧ g = m - j ∧ i = .int .i64 j ∧ MixO w wx gb n m R1 C1 (fun i j => max (Z i j) (Y i j)) Z k j)
      case atStart => exact ⟨0, Nat.zero_le _, rfl, rfl, HM0.out⟩
      case round =>
        clear HM0 c1
        obtain ⟨j, hj, rfl, rfl, hM⟩ := hrel
        obtain ⟨wi, rfl⟩ : ∃ wi : World, wi = wr := ⟨_, rfl⟩
        have HM := hidA hM
        clear hM
        have c1 := (hG.out.belowA HM.out.bel).cellh hkn
        have c2' := (hY.out.belowA HM.out.bel).cellh hkn
        by_cases hjm : j < m
        · have hjz : (j : Int) < (m : Int) := by omega
          have e1 := (hG.out.belowA HM.out.bel).cellv hkn hjm
          have e2 := (hY.out.belowA HM.out.bel).cellv hkn hjm
          have h1 := HM.out.gr.cellh hkn
          have h2 := HM.out.cur hkn hjm
          have h3 := HM.out.gr.frv hkn j
          have HF : Hid (max (Z k j) (Y k j) = (fun i j => max (Z i j) (Y i j)) k j) := hidA rfl
          generalize hz : Z k j = z at e1 HF
          generalize hy : Y k j = y at e2 HF
          have mm := fun ts t (w : World) => run_max2 (P := Try.prog) ts t z y w
          have MS := hidA (HM.out.step hkn HF.out)
          have s1 := (hG.out.belowA MS.out.bel).cellh hkn
          have s2 := (hY.out.belowA MS.out.bel).cellh hkn
          have s3 := MS.out.gr.cellh hkn
          have s4 := (hG.out.belowA MS.out.bel).cellv hkn hjm
          have s5 := (hY.out.belowA MS.out.bel).cellv hkn hjm
          rw [hz] at s4
          rw [hy] at s5
          clear hz hy HF
          go_upto_region 8 with (fail)
          go_region_held3 (fun w' => w'.cell? ⟨b, k, none⟩ = some (.slice (some ⟨R k, 0, none⟩) m (C k)) ∧ w'.cell? ⟨b2, k, none⟩ = some (.slice (some ⟨R2 k, 0, none⟩) m (C2 k)) ∧ w'.cell? ⟨gb, k, none⟩ = some (.slice (some ⟨R1 k, 0, none⟩) m (C1 k)) ∧ w'.cell? ⟨R k, j, none⟩ = some (.int .i64 z) ∧ w'.cell? ⟨R2 k, j, none⟩ = some (.int .i64 y))
            (first | with_reducible exact ⟨cellD c1, cellD c2', cellD h1, cellD e1, cellD e2⟩ | with_reducible exact ⟨c1, c2', h1, e1, e2⟩ | exact ⟨cellD s1, cellD s2, cellD s3, cellD s4, cellD s5⟩)
            (fail)
          go_wp2
          go_roundg (m - (j + 1))
          case rel => exact ⟨j + 1, by omega, rfl, by go_num, MS.out.keep (Below.refl _ _).drew⟩
          case measure => omega
        · obtain rfl : j = m := by omega
          go_wp2
          go_roundg (n - (k + 1))
          case rel => exact ⟨k + 1, by omega, rfl, by go_num, HM.out.row⟩
          case measure => omega
    · obtain rfl : k = n := by omega
      go_wp2
      go_ret
      exact hM.done gc
end Go.Proofs.Ytdcaecpcofencaa

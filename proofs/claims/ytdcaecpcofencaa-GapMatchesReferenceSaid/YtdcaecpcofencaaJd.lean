import Derived.Test.YtdcaecpcofencaaJc
namespace Go.Proofs.Ytdcaecpcofencaa
open Go.RowKit Go.Instr Go.Deep
set_option linter.unusedVariables false
set_option linter.unusedSimpArgs false

/-! gap.Leq, New, Valid, Has. -/
def leqB (n m : Nat) (Z Y : Nat → Nat → Int) : Bool := decide (∀ i, i < n → ∀ j, j < m → Z i j ≤ Y i j)
theorem leqB_no {n m i j : Nat} {Z Y : Nat → Nat → Int} (hi : i < n) (hj : j < m) (h : Y i j < Z i j) : leqB n m Z Y = false := by
  unfold leqB
  rw [decide_eq_false_iff_not]
  intro hall
  have := hall i hi j hj
  omega
theorem leqB_yes {n m : Nat} {Z Y : Nat → Nat → Int} (h : ∀ i, i < n → ∀ j, j < m → Z i j ≤ Y i j) : leqB n m Z Y = true := by
  unfold leqB
  rw [decide_eq_true_iff]
  exact h
theorem all_snoc {p : Nat → Prop} {k : Nat} (h : ∀ i, i < k → p i) (hk : p k) : ∀ i, i < k + 1 → p i := fun i hi => by
  by_cases e : i = k
  · subst e; exact hk
  · exact h i (by omega)
def newF (i j : Nat) : Int := if i = j then 0 else 1099511627776
def fineB (x : Int) : Bool := (x == 1099511627776) || nearB x
def fineAll (n m : Nat) (Z : Nat → Nat → Int) : Bool := decide (∀ i, i < n → ∀ j, j < m → fineB (Z i j) = true)
def validB (n m : Nat) (Z : Nat → Nat → Int) (v p : Int) : Bool := decide ((n : Int) = v) && decide (n = 0 ∨ (m : Int) = p) && fineAll n m Z
theorem fineAll_no {n m i j : Nat} {Z : Nat → Nat → Int} (hi : i < n) (hj : j < m) (h : fineB (Z i j) = false) : fineAll n m Z = false := by
  unfold fineAll
  rw [decide_eq_false_iff_not]
  intro hall
  rw [hall i hi j hj] at h
  cases h
theorem EachI.skip {w wi : World} {b n m k j : Nat} {R C : Nat → Nat} {F : Nat → Nat → Int} (h : EachI w wi b n m k j R C F) (hx : F k j = 0) : EachI w wi b n m k (j + 1) R C F := by
  obtain ⟨h1, h2⟩ := h
  refine ⟨h1.congr (fun i' j' hi hj' => ?_), h2⟩
  unfold upto
  by_cases e : i' = k
  · subst e
    by_cases e2 : j' = j
    · subst e2
      simp [hx]
    · have e3 : (j' < j + 1) = (j' < j) := propext ⟨fun h => by omega, fun h => by omega⟩
      simp [e3]
  · simp [e]
def hasB (n m : Nat) (Z : Nat → Nat → Int) (V : Nat → Int) : Bool := decide (∀ i, i < n → ∀ j, j < m → V i - V j ≤ Z i j)
set_option maxRecDepth 100000 in
set_option maxHeartbeats 1000000 in
theorem leq_any (w : World) {lo b n m : Nat} {R C : Nat → Nat} {Z : Nat → Nat → Int} (c : Nat) {lo2 b2 : Nat} {R2 C2 : Nat → Nat} {Y : Nat → Nat → Int} (c2 : Nat) (h : Gr w lo b n m R C Z) (h2 : Gr w lo2 b2 n m R2 C2 Y) (hn : n ≤ 65536) (hm : m ≤ 65536) :
    Calls Try.prog 23 #[.slice (some ⟨b, 0, none⟩) n c, .slice (some ⟨b2, 0, none⟩) n c2] w fun e w' => e = .returned (.bool (leqB n m Z Y)) ∧ w = w' := by
  have hG := hidA h
  have hY := hidA h2
  clear h h2
  go_enter Try.func23, Try.ntmps23
  go_wp2
  go_loopg [11] n (fun g i wr => ∃ k : Nat, k ≤ n ∧ g = n - k ∧ i = .int .i64 k ∧ wr = w ∧ ∀ i, i < k → ∀ j, j < m → Z i j ≤ Y i j)
  case atStart => exact ⟨0, Nat.zero_le _, rfl, rfl, rfl, fun i hi => by omega⟩
  case round =>
    obtain ⟨k, hk, rfl, rfl, rfl, hall⟩ := hrel
    have HA := hidA hall
    clear hall
    by_cases hkn : k < n
    · have hkz : (k : Int) < (n : Int) := by omega
      have c1 := hG.out.cellh hkn
      go_wp2
      clear c1
      go_loopg [18] m (fun g i wx => ∃ j : Nat, j ≤ m ∧ g = m - j ∧ i = .int .i64 j ∧ wx = wr ∧ ∀ j', j' < j → Z k j' ≤ Y k j')
      case atStart => exact ⟨0, Nat.zero_le _, rfl, rfl, rfl, fun i hi => by omega⟩
      case round =>
        obtain ⟨j, hj, rfl, rfl, rfl, hall2⟩ := hrel
        have HA2 := hidA hall2
        clear hall2
        by_cases hjm : j < m
        · have hjz : (j : Int) < (m : Int) := by omega
          have e2 := hG.out.cellv hkn hjm
          have BB := hidA (bound_in _ c2 hY.out k j hkn hjm hn hm)
          by_cases hle : Z k j ≤ Y k j
          · have HN := hidA (all_snoc HA2.out hle)
            generalize Z k j = z at *
            generalize Y k j = y at *
            go_wp2_with (go_at_call 25; refine (BB.out).mono ?_; rintro e w1 ⟨rfl, rfl⟩)
            go_roundg (m - (j + 1))
            case rel => exact ⟨j + 1, by omega, rfl, by go_num, rfl, HN.out⟩
            case measure => omega
          · have hlt : Y k j < Z k j := by omega
            have HN := hidA (leqB_no hkn hjm hlt)
            generalize Z k j = z at *
            generalize Y k j = y at *
            clear hle
            go_wp2_with (go_at_call 25; refine (BB.out).mono ?_; rintro e w1 ⟨rfl, rfl⟩)
            go_ret
            exact ⟨retB HN.out.symm, rfl⟩
        · obtain rfl : j = m := by omega
          go_wp2
          go_roundg (n - (k + 1))
          case rel => exact ⟨k + 1, by omega, rfl, by go_num, rfl, all_snoc HA.out HA2.out⟩
          case measure => omega
    · obtain rfl : k = n := by omega
      go_wp2
      go_ret
      exact ⟨retB (leqB_yes HA.out).symm, rfl⟩
set_option maxRecDepth 100000 in
set_option maxHeartbeats 1000000 in
theorem new_in (n m : Nat) (hm : m ≤ n) (hn : n ≤ 12) (w : World) :
    Calls Try.prog 13 #[.int .i64 (n : Int), .int .i64 (m : Int)] w fun e w' => GrRet w.heap.size n m newF w e w' := by
  have hmkS := run_make_row' (P := Try.prog) 30 22 (.slice none 0 0) 24 Try.underlying30 infoS rfl .i64 .i64 n (by omega) (by omega)
  have a1 : decide (n < m) = false := by simp; omega
  go_enter Try.func13, Try.ntmps13
  go_wp2
  clear hmkS a1
  obtain ⟨lb, hlb⟩ : ∃ x, x = w.heap.size := ⟨_, rfl⟩
  rw [← hlb]
  have HLB := hidA hlb
  clear hlb
  go_loopg [23] n (fun g i wr => ∃ k : Nat, k ≤ n ∧ g = n - k ∧ i = .int .i64 k ∧ EachO w wr lb n m k newF)
  case atStart => exact ⟨0, Nat.zero_le _, rfl, rfl, fun _ => 0, fun _ => 0, by rw [HLB.out]; exact PGr.start w n m _ _ newF (Nat.le_refl _), (Below.refl _ _).alloc (Nat.le_refl _) _⟩
  case round =>
    obtain ⟨k, hk, rfl, rfl, hO⟩ := hrel
    obtain ⟨wo, rfl⟩ : ∃ wo : World, wo = wr := ⟨_, rfl⟩
    by_cases hkn : k < n
    · obtain ⟨R1, C1, hP, hB⟩ := hO
      have hlb2 := hP.gr.ltb
      have hkz : (k : Int) < (n : Int) := by omega
      have hmkI := run_make_row' (P := Try.prog) 22 3 (.int .i64 0) 8 Try.underlying22 infoI rfl .i64 .i64 m (by omega) (by omega)
      have d1 : ∀ o, (wo.alloc o).cell? ⟨lb, k, none⟩ = some (.slice none 0 0) := fun o => (World.cell?_alloc_lt wo o ⟨lb, k, none⟩ hlb2).trans (hP.cellr (Nat.le_refl _) hkn)
      have d2 : ∀ o, (wo.alloc o).frozen? ⟨lb, k, none⟩ = false := fun o => ((below_al wo o).frozen (p := ⟨lb, k, none⟩) hlb2).trans (hP.gr.frh k)
      have hPP := hidA hP
      have hBB := hidA hB
      clear hP hB
      go_upto_region 8 with (fail)
      obtain ⟨R2, C2, hR2, hC2, hI⟩ := EachI.start hPP.out hBB.out hkn
      rw [← hR2] at hI ⊢
      clear hmkI d1 d2 hPP hlb2 hBB hR2
      generalize World.alloc _ _ = wi at *
      have c3 := hI.1.gr.cellh (i := k) (Nat.lt_succ_self k)
      have HI0 := hidA hI
      clear hI hC2
      go_wp2
      clear c3
      go_loopg [36] m (fun g i wi => ∃ j : Nat, j ≤ m ∧ g = m - j ∧ i = .int .i64 j ∧ EachI w wi lb n m k j R2 C2 newF)
      case atStart => exact ⟨0, Nat.zero_le _, rfl, rfl, HI0.out⟩
      case round =>
        clear HI0
        obtain ⟨j, hj, rfl, rfl, hI⟩ := hrel
        by_cases hjm : j < m
        · have c3 := hI.1.gr.cellh (i := k) (Nat.lt_succ_self k)
          have c4 := hI.1.gr.cellv (i := k) (Nat.lt_succ_self k) hjm
          have f4 := hI.1.gr.frv (i := k) (Nat.lt_succ_self k) j
          have hjz : (j : Int) < (m : Int) := by omega
          have HI := hidA hI
          clear hI
          by_cases hkj : k = j
          · subst hkj
            have hx : newF k k = 0 := by simp [newF]
            have HX := hidA hx
            clear hx
            go_wp2
            go_roundg (m - (k + 1))
            case rel => exact ⟨k + 1, by omega, rfl, by go_num, HI.out.skip HX.out⟩
            case measure => omega
          · have hx : (1099511627776 : Int) = newF k j := by simp [newF, hkj]
            have HX := hidA hx
            have hkb : ((k : Int) == (j : Int)) = false := by simp; omega
            have hkb2 : ((k : Int) != (j : Int)) = true := by simp; omega
            clear hx hkj
            go_wp2
            go_roundg (m - (j + 1))
            case rel => exact ⟨j + 1, by omega, rfl, by go_num, HI.out.step (Below.refl _ _) hjm HX.out⟩
            case measure => omega
        · obtain rfl : j = m := by omega
          go_wp2
          go_roundg (n - (k + 1))
          case rel => exact ⟨k + 1, by omega, rfl, by go_num, hI.done⟩
          case measure => omega
    · obtain rfl : k = n := by omega
      go_wp2
      go_ret
      exact hO.done _
end Go.Proofs.Ytdcaecpcofencaa

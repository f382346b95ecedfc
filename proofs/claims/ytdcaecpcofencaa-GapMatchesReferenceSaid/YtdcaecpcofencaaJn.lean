import Derived.Test.YtdcaecpcofencaaJm
namespace Go.Proofs.Ytdcaecpcofencaa
open Go.RowKit Go.Instr Go.Deep
set_option maxRecDepth 100000
set_option linter.unusedVariables false
set_option linter.unusedSimpArgs false

/-! The reference's Same, New, Made. -/
def sameB (n m : Nat) (Z Y : Nat → Nat → Int) : Bool := decide (∀ i, i < n → ∀ j, j < m → Z i j = Y i j)
theorem sameB_yes {n m : Nat} {Z Y : Nat → Nat → Int} (h : ∀ i, i < n → ∀ j, j < m → Z i j = Y i j) : sameB n m Z Y = true := decide_eq_true h
theorem sameB_no {n m i j : Nat} {Z Y : Nat → Nat → Int} (hi : i < n) (hj : j < m) (h : Z i j ≠ Y i j) : sameB n m Z Y = false := by
  unfold sameB
  rw [decide_eq_false_iff_not]
  intro hall
  exact h (hall i hi j hj)
set_option maxRecDepth 100000 in
set_option maxHeartbeats 1000000 in
theorem same_any (w : World) {lo b n m : Nat} {R C : Nat → Nat} {Z : Nat → Nat → Int} (c : Nat) {lo2 b2 : Nat} {R2 C2 : Nat → Nat} {Y : Nat → Nat → Int} (c2 : Nat) (h : Gr w lo b n m R C Z) (h2 : Gr w lo2 b2 n m R2 C2 Y) (hn : n ≤ 65536) (hm : m ≤ 65536) :
    Calls Try.prog 12 #[.slice (some ⟨b, 0, none⟩) n c, .slice (some ⟨b2, 0, none⟩) n c2] w fun e w' => e = .returned (.bool (sameB n m Z Y)) ∧ Below w.heap.size w w' := by
  have hG := hidA h
  have hY := hidA h2
  clear h h2
  go_enter Try.func12, Try.ntmps12
  go_wp2
  go_loopg [5] n (fun g i wr => ∃ k : Nat, k ≤ n ∧ g = n - k ∧ i = .int .i64 k ∧ Below w.heap.size w wr ∧ ∀ i, i < k → ∀ j, j < m → Z i j = Y i j)
  case atStart => exact ⟨0, Nat.zero_le _, rfl, rfl, Below.refl _ _, fun i hi => by omega⟩
  case round =>
    obtain ⟨k, hk, rfl, rfl, hB, hall⟩ := hrel
    obtain ⟨wo, rfl⟩ : ∃ wo : World, wo = wr := ⟨_, rfl⟩
    have HA := hidA hall
    have HB := hidA hB
    clear hall hB
    by_cases hkn : k < n
    · have hkz : (k : Int) < (n : Int) := by omega
      have c1 := (hG.out.belowA HB.out).cellh hkn
      have c2' := (hY.out.belowA HB.out).cellh hkn
      go_upto_region 6 with (fail)
      go_quiet (fail)
      go_wp2
      clear c1 c2'
      rename_i nq _
      have HB1 := hidA (drewnA HB.out nq)
      clear HB
      generalize wo.drewN nq = wi at *
      go_loopg [6] m (fun g i wx => ∃ j : Nat, j ≤ m ∧ g = m - j ∧ i = .int .i64 j ∧ Below w.heap.size w wx ∧ ∀ j', j' < j → Z k j' = Y k j')
      case atStart => exact ⟨0, Nat.zero_le _, rfl, rfl, HB1.out, fun i hi => by omega⟩
      case round =>
        clear HB1
        obtain ⟨j, hj, rfl, rfl, hB, hall2⟩ := hrel
        have HA2 := hidA hall2
        have HB := hidA hB
        clear hall2 hB
        have c1 := (hG.out.belowA HB.out).cellh hkn
        have c2' := (hY.out.belowA HB.out).cellh hkn
        by_cases hjm : j < m
        · have hjz : (j : Int) < (m : Int) := by omega
          have e1 := (hG.out.belowA HB.out).cellv hkn hjm
          have e2 := (hY.out.belowA HB.out).cellv hkn hjm
          by_cases hle : Z k j = Y k j
          · have HN := hidA (all_snoc (p := fun j' => Z k j' = Y k j') HA2.out hle)
            rw [← hle] at e2
            clear hle
            generalize Z k j = z at *
            go_upto_region 11 with (fail)
            go_quiet (fail)
            go_wp2
            go_roundg (m - (j + 1))
            case rel => exact ⟨j + 1, by omega, rfl, by go_num, drewnA HB.out _, HN.out⟩
            case measure => omega
          · have HN := hidA (sameB_no hkn hjm hle)
            have b1 : (Z k j == Y k j) = false := by simpa using hle
            have b2 : (Z k j != Y k j) = true := by simpa using hle
            clear hle
            generalize Z k j = z at *
            generalize Y k j = y at *
            go_upto_region 11 with (fail)
            go_quiet (fail)
            go_wp2
            go_ret
            exact ⟨retB HN.out.symm, drewnA HB.out _⟩
        · obtain rfl : j = m := by omega
          go_wp2
          go_roundg (n - (k + 1))
          case rel => exact ⟨k + 1, by omega, rfl, by go_num, HB.out, all_snoc HA.out HA2.out⟩
          case measure => omega
    · obtain rfl : k = n := by omega
      go_wp2
      go_ret
      exact ⟨retB (sameB_yes HA.out).symm, HB.out⟩
end Go.Proofs.Ytdcaecpcofencaa

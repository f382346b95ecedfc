import Derived.Test.YtdcaecpcofencaaJa
namespace Go.Proofs.Ytdcaecpcofencaa
open Go.RowKit Go.Instr Go.Deep
set_option linter.unusedVariables false
set_option linter.unusedSimpArgs false

/-! gap's numbers: isNear, sum, Bound, the closures. -/
def nearB (n : Int) : Bool := decide (-17179869184 ≤ n) && decide (n ≤ 17179869184)
def sumF (a k : Int) : Int := if nearB (a + k) = true then a + k else 1099511627776
def boundF (n m : Nat) (Z : Nat → Nat → Int) (v p : Int) : Int := if 0 ≤ v ∧ v < n ∧ 0 ≤ p ∧ p < m then Z v.toNat p.toNat else 1099511627776
theorem boundF_in {n m : Nat} (Z : Nat → Nat → Int) {i j : Nat} (hi : i < n) (hj : j < m) : boundF n m Z i j = Z i j := by
  unfold boundF
  rw [if_pos (by omega)]
  rfl
set_option maxHeartbeats 400000 in
theorem isNear_any (n : Int) (w : World) :
    Calls Try.prog 56 #[.int .i64 n] w fun e w' => e = .returned (.bool (nearB n)) ∧ w = w' := by
  unfold nearB
  by_cases h : -17179869184 ≤ n
  · by_cases h2 : n ≤ 17179869184
    all_goals
      go_enter Try.func56, Try.ntmps56
      go_wp2
      go_ret
      exact ⟨by simp [h, h2], rfl⟩
  · go_enter Try.func56, Try.ntmps56
    have h3 : decide (-17179869184 ≤ n) = false := by simpa using h
    go_wp2
    go_ret
    exact ⟨rfl, rfl⟩
set_option maxHeartbeats 400000 in
theorem sum_any (a k : Int) (ha1 : -4398046511104 ≤ a) (ha2 : a ≤ 4398046511104) (hk1 : -4398046511104 ≤ k) (hk2 : k ≤ 4398046511104) (w : World) :
    Calls Try.prog 48 #[.int .i64 a, .int .i64 k] w fun e w' => e = .returned (.int .i64 (sumF a k)) ∧ w = w' := by
  unfold sumF
  have NN := hidA (fun w => isNear_any (a + k) w)
  by_cases h : nearB (a + k) = true
  · rw [if_pos h]
    rw [h] at NN
    go_enter Try.func48, Try.ntmps48
    go_wp2_with (go_at_call 56; refine (NN.out _).mono ?_; rintro e w1 ⟨rfl, rfl⟩)
    go_ret
    exact ⟨rfl, rfl⟩
  · rw [if_neg h]
    rw [Bool.not_eq_true] at h
    rw [h] at NN
    go_enter Try.func48, Try.ntmps48
    go_wp2_with (go_at_call 56; refine (NN.out _).mono ?_; rintro e w1 ⟨rfl, rfl⟩)
    go_ret
    exact ⟨rfl, rfl⟩
set_option maxHeartbeats 400000 in
theorem bound_in (w : World) {lo b n m : Nat} {R C : Nat → Nat} {Z : Nat → Nat → Int} (c : Nat) (h : Gr w lo b n m R C Z) (i j : Nat) (hi : i < n) (hj : j < m) (hn : n ≤ 65536) (hm : m ≤ 65536) :
    Calls Try.prog 25 #[.slice (some ⟨b, 0, none⟩) n c, .int .i64 (i : Int), .int .i64 (j : Int)] w fun e w' => e = .returned (.int .i64 (Z i j)) ∧ w = w' := by
  have h1 := h.cellh hi
  have h2 := h.cellv hi hj
  clear h
  go_enter Try.func25, Try.ntmps25
  go_wp2
  go_ret
  exact ⟨rfl, rfl⟩
set_option maxHeartbeats 400000 in
theorem bound_out (w : World) {n m b c : Nat} (v p : Int) (h : ¬(0 ≤ v ∧ v < n ∧ 0 ≤ p ∧ p < m)) (R C : Nat → Nat) (hc : ∀ i, i < n → w.cell? ⟨b, i, none⟩ = some (.slice (some ⟨R i, 0, none⟩) m (C i))) (hn : n ≤ 65536) (hm : m ≤ 65536) :
    Calls Try.prog 25 #[.slice (some ⟨b, 0, none⟩) n c, .int .i64 v, .int .i64 p] w fun e w' => e = .returned (.int .i64 1099511627776) ∧ w = w' := by
  by_cases h1 : 0 ≤ v
  · by_cases h2 : v < n
    · obtain ⟨i, rfl⟩ : ∃ i : Nat, v = i := ⟨v.toNat, by omega⟩
      have h6 := hc i (by omega)
      clear hc
      have h2' : i < n := by omega
      have h3' : decide (n ≤ i) = false := by simp; omega
      by_cases h3 : 0 ≤ p
      · obtain ⟨j, rfl⟩ : ∃ j : Nat, p = j := ⟨p.toNat, by omega⟩
        have h4 : m ≤ j := by omega
        clear h
        go_enter Try.func25, Try.ntmps25
        go_wp2
        go_ret
        exact ⟨rfl, rfl⟩
      · clear h
        go_enter Try.func25, Try.ntmps25
        go_wp2
        go_ret
        exact ⟨rfl, rfl⟩
    · have h2' : (n : Int) ≤ v := by omega
      clear h h2 hc
      go_enter Try.func25, Try.ntmps25
      go_wp2
      go_ret
      exact ⟨rfl, rfl⟩
  · have h1' : v < 0 := by omega
    clear h h1 hc
    go_enter Try.func25, Try.ntmps25
    go_wp2
    go_ret
    exact ⟨rfl, rfl⟩
theorem bound_any {w : World} {lo b n m : Nat} {R C : Nat → Nat} {Z : Nat → Nat → Int} (c : Nat) (h : Gr w lo b n m R C Z) (v p : Int) (hn : n ≤ 65536) (hm : m ≤ 65536) :
    Calls Try.prog 25 #[.slice (some ⟨b, 0, none⟩) n c, .int .i64 v, .int .i64 p] w fun e w' => e = .returned (.int .i64 (boundF n m Z v p)) ∧ w = w' := by
  unfold boundF
  by_cases h1 : 0 ≤ v ∧ v < n ∧ 0 ≤ p ∧ p < m
  · rw [if_pos h1]
    obtain ⟨a1, a2, a3, a4⟩ := h1
    have e1 : ((v.toNat : Nat) : Int) = v := by omega
    have e2 : ((p.toNat : Nat) : Int) = p := by omega
    have := bound_in w c h v.toNat p.toNat (by omega) (by omega) hn hm
    rwa [e1, e2] at this
  · rw [if_neg h1]
    exact bound_out w v p h1 R C (fun i hi => h.cellh hi) hn hm
set_option maxHeartbeats 400000 in
theorem copied1 (v p z : Int) (w : World) :
    Calls Try.prog 66 #[.int .i64 v, .int .i64 p, .int .i64 z] w fun e w' => e = .returned (.int .i64 z) ∧ w = w' := by
  go_enter Try.func66, Try.ntmps66
  go_wp2
  go_ret
  exact ⟨rfl, rfl⟩
set_option maxHeartbeats 400000 in
theorem join1 (w : World) {lo b n m : Nat} {R C : Nat → Nat} {Z : Nat → Nat → Int} (c : Nat) (h : Gr w lo b n m R C Z) (g i j : Nat) (z : Int) (hg : w.cell? ⟨g, 0, none⟩ = some (.slice (some ⟨b, 0, none⟩) n c)) (hi : i < n) (hj : j < m) (hn : n ≤ 65536) (hm : m ≤ 65536) :
    Calls Try.prog 54 #[.int .i64 (i : Int), .int .i64 (j : Int), .int .i64 z, .pointer (some ⟨g, 0, none⟩)] w fun e w' => e = .returned (.int .i64 (max z (Z i j))) ∧ w = w' := by
  have BB := hidA (bound_in w c h i j hi hj hn hm)
  clear h
  go_enter Try.func54, Try.ntmps54
  go_wp2_with (go_at_call 25; refine (BB.out).mono ?_; rintro e w1 ⟨rfl, rfl⟩)
  all_goals go_ret
  all_goals exact ⟨retA (by omega), rfl⟩
set_option maxHeartbeats 400000 in
theorem widen1 (w : World) {lo b n m : Nat} {R C : Nat → Nat} {Z : Nat → Nat → Int} (c : Nat) (h : Gr w lo b n m R C Z) (g i j : Nat) (z : Int) (hg : w.cell? ⟨g, 0, none⟩ = some (.slice (some ⟨b, 0, none⟩) n c)) (hi : i < n) (hj : j < m) (hn : n ≤ 65536) (hm : m ≤ 65536) :
    Calls Try.prog 55 #[.int .i64 (i : Int), .int .i64 (j : Int), .int .i64 z, .pointer (some ⟨g, 0, none⟩)] w fun e w' => e = .returned (.int .i64 (if z < Z i j then 1099511627776 else z)) ∧ w = w' := by
  have BB := hidA (bound_in w c h i j hi hj hn hm)
  clear h
  generalize Z i j = y at *
  by_cases hz : z < y
  · rw [if_pos hz]
    go_enter Try.func55, Try.ntmps55
    go_wp2_with (go_at_call 25; refine (BB.out).mono ?_; rintro e w1 ⟨rfl, rfl⟩)
    go_ret
    exact ⟨rfl, rfl⟩
  · rw [if_neg hz]
    have hz' : y ≤ z := by omega
    clear hz
    go_enter Try.func55, Try.ntmps55
    go_wp2_with (go_at_call 25; refine (BB.out).mono ?_; rintro e w1 ⟨rfl, rfl⟩)
    go_ret
    exact ⟨rfl, rfl⟩
end Go.Proofs.Ytdcaecpcofencaa

import Derived.Test.YtdcaecpcofencaaJd
namespace Go.Proofs.Ytdcaecpcofencaa
open Go.RowKit Go.Instr Go.Deep
set_option linter.unusedVariables false
set_option linter.unusedSimpArgs false

/-! gap.Valid, Has. -/
theorem fineAll_yes {n m : Nat} {Z : Nat → Nat → Int} (h : ∀ i, i < n → ∀ j, j < m → fineB (Z i j) = true) : fineAll n m Z = true := decide_eq_true h
theorem hasB_yes {n m : Nat} {Z : Nat → Nat → Int} {V : Nat → Int} (h : ∀ i, i < n → ∀ j, j < m → V i - V j ≤ Z i j) : hasB n m Z V = true := decide_eq_true h
theorem hasB_no {n m i j : Nat} {Z : Nat → Nat → Int} {V : Nat → Int} (hi : i < n) (hj : j < m) (h : Z i j < V i - V j) : hasB n m Z V = false := by
  unfold hasB
  rw [decide_eq_false_iff_not]
  intro hall
  have := hall i hi j hj
  omega
theorem intsIn_at {w : World} {l : List Int} {oa : Option Addr} {n cap : Nat} (h : intsIn w l (.slice oa n cap)) {k : Nat} (hk : k < l.length) : ∃ b off, oa = some ⟨b, off, none⟩ ∧ w.cell? ⟨b, off + k, none⟩ = some (.int .i64 (l.getD k 0)) := by
  obtain ⟨oa', cap', h1, h2, h3, h4⟩ := h
  injection h1 with h5 h6 h7
  subst h5
  exact h4 k hk
set_option maxRecDepth 100000 in
set_option maxHeartbeats 1000000 in
theorem valid_any (w : World) {lo b n m : Nat} {R C : Nat → Nat} {Z : Nat → Nat → Int} (c : Nat) (h : Gr w lo b n m R C Z) (vars params : Int) (hn : n ≤ 65536) (hm : m ≤ 65536) :
    Calls Try.prog 28 #[.slice (some ⟨b, 0, none⟩) n c, .int .i64 vars, .int .i64 params] w fun e w' => e = .returned (.bool (validB n m Z vars params)) ∧ w = w' := by
  have hG := hidA h
  clear h
  by_cases hv : (n : Int) = vars
  · subst hv
    go_enter Try.func28, Try.ntmps28
    go_wp2
    go_loopg [17] n (fun g i wr => ∃ k : Nat, k ≤ n ∧ g = n - k ∧ i = .int .i64 k ∧ wr = w ∧ ∀ i, i < k → (m : Int) = params ∧ ∀ j, j < m → fineB (Z i j) = true)
    case atStart => exact ⟨0, Nat.zero_le _, rfl, rfl, rfl, fun i hi => by omega⟩
    case round =>
      obtain ⟨k, hk, rfl, rfl, rfl, hall⟩ := hrel
      have HA := hidA hall
      clear hall
      by_cases hkn : k < n
      · have hkz : (k : Int) < (n : Int) := by omega
        have c1 := hG.out.cellh hkn
        by_cases hp : (m : Int) = params
        · have hpb : ((m : Int) == params) = true := by simpa using hp
          have hpb2 : ((m : Int) != params) = false := by simpa using hp
          have HP := hidA hp
          clear hp
          go_wp2
          clear c1
          go_loopg [27] m (fun g i wx => ∃ j : Nat, j ≤ m ∧ g = m - j ∧ i = .int .i64 j ∧ wx = wr ∧ ∀ j', j' < j → fineB (Z k j') = true)
          case atStart => exact ⟨0, Nat.zero_le _, rfl, rfl, rfl, fun i hi => by omega⟩
          case round =>
            obtain ⟨j, hj, rfl, rfl, rfl, hall2⟩ := hrel
            have HA2 := hidA hall2
            clear hall2
            by_cases hjm : j < m
            · have hjz : (j : Int) < (m : Int) := by omega
              have e2 := hG.out.cellv hkn hjm
              have NN := hidA (fun w => isNear_any (Z k j) w)
              by_cases hle : fineB (Z k j) = true
              · have HN := hidA (all_snoc (p := fun j' => fineB (Z k j') = true) HA2.out hle)
                generalize Z k j = z at *
                by_cases hz : z = 1099511627776
                · subst hz
                  clear hle
                  go_wp2
                  go_roundg (m - (j + 1))
                  case rel => exact ⟨j + 1, by omega, rfl, by go_num, rfl, HN.out⟩
                  case measure => omega
                · have b1 : (z == 1099511627776) = false := by simpa using hz
                  have b2 : (z != 1099511627776) = true := by simpa using hz
                  have hz2 : nearB z = true := by
                    unfold fineB at hle
                    rw [b1] at hle
                    simpa using hle
                  rw [hz2] at NN
                  clear hle hz hz2
                  go_wp2_with (go_at_call 56; refine (NN.out _).mono ?_; rintro e w1 ⟨rfl, rfl⟩)
                  go_roundg (m - (j + 1))
                  case rel => exact ⟨j + 1, by omega, rfl, by go_num, rfl, HN.out⟩
                  case measure => omega
              · rw [Bool.not_eq_true] at hle
                have HN : Hid (validB n m Z n params = false) := hidA (by unfold validB; rw [fineAll_no hkn hjm hle]; simp)
                generalize Z k j = z at *
                have hz : z ≠ 1099511627776 := by
                  intro e
                  subst e
                  exact absurd hle (by decide)
                have b1 : (z == 1099511627776) = false := by simpa using hz
                have b2 : (z != 1099511627776) = true := by simpa using hz
                have hz2 : nearB z = false := by
                  unfold fineB at hle
                  rw [b1] at hle
                  simpa using hle
                rw [hz2] at NN
                clear hle hz hz2
                go_wp2_with (go_at_call 56; refine (NN.out _).mono ?_; rintro e w1 ⟨rfl, rfl⟩)
                go_ret
                exact ⟨retB HN.out.symm, rfl⟩
            · obtain rfl : j = m := by omega
              go_wp2
              go_roundg (n - (k + 1))
              case rel => exact ⟨k + 1, by omega, rfl, by go_num, rfl, all_snoc HA.out ⟨HP.out, HA2.out⟩⟩
              case measure => omega
        · have hpb : ((m : Int) == params) = false := by simpa using hp
          have hpb2 : ((m : Int) != params) = true := by simpa using hp
          have HN : Hid (validB n m Z n params = false) := hidA (by
            unfold validB
            have h1 : decide (n = 0 ∨ (m : Int) = params) = false := by simp [hp]; omega
            rw [h1]; simp)
          clear hp
          go_wp2
          go_ret
          exact ⟨retB HN.out.symm, rfl⟩
      · obtain rfl : k = n := by omega
        have HN : Hid (validB k m Z k params = true) := hidA (by
          unfold validB
          rw [fineAll_yes (fun i hi => (HA.out i hi).2)]
          have h1 : decide (k = 0 ∨ (m : Int) = params) = true := by
            rw [decide_eq_true_iff]
            rcases Nat.eq_zero_or_pos k with h0 | h0
            · exact .inl h0
            · exact .inr (HA.out 0 h0).1
          rw [h1]; simp)
        go_wp2
        go_ret
        exact ⟨retB HN.out.symm, rfl⟩
  · have b1 : ((n : Int) == vars) = false := by simpa using hv
    have b2 : ((n : Int) != vars) = true := by simpa using hv
    have HN : Hid (validB n m Z vars params = false) := hidA (by
      unfold validB
      have h1 : decide ((n : Int) = vars) = false := by simp [hv]
      rw [h1]; simp)
    clear hv
    go_enter Try.func28, Try.ntmps28
    go_wp2
    go_ret
    exact ⟨retB HN.out.symm, rfl⟩
set_option maxRecDepth 100000 in
set_option maxHeartbeats 1000000 in
theorem has_any (w : World) {lo b n m : Nat} {R C : Nat → Nat} {Z : Nat → Nat → Int} (c : Nat) (h : Gr w lo b n m R C Z) (l : List Int) (oa : Option Addr) (cap : Nat) (hl : intsIn w l (.slice oa n cap)) (hln : l.length = n) (hmn : m ≤ n) (hn : n ≤ 65536) (h32 : ∀ i, -2147483648 ≤ l.getD i 0 ∧ l.getD i 0 ≤ 2147483648) :
    Calls Try.prog 34 #[.slice (some ⟨b, 0, none⟩) n c, .slice oa n cap] w fun e w' => e = .returned (.bool (hasB n m Z (fun i => l.getD i 0))) ∧ w = w' := by
  have hG := hidA h
  have hL := hidA hl
  have HC := hidA (fun i (hi : i < n) => h.cellh hi)
  clear h hl
  go_enter Try.func34, Try.ntmps34
  go_wp2
  go_loopg [11] n (fun g i wr => ∃ k : Nat, k ≤ n ∧ g = n - k ∧ i = .int .i64 k ∧ wr = w ∧ ∀ i, i < k → ∀ j, j < m → l.getD i 0 - l.getD j 0 ≤ Z i j)
  case atStart => exact ⟨0, Nat.zero_le _, rfl, rfl, rfl, fun i hi => by omega⟩
  case round =>
    obtain ⟨k, hk, rfl, rfl, rfl, hall⟩ := hrel
    have HA := hidA hall
    clear hall
    by_cases hkn : k < n
    · have hkz : (k : Int) < (n : Int) := by omega
      obtain ⟨lb, off, rfl, c1⟩ := intsIn_at hL.out (k := k) (by omega)
      have x1 := h32 k
      obtain ⟨vk, hvk⟩ : ∃ x, l.getD k 0 = x := ⟨_, rfl⟩
      rw [hvk] at c1 x1
      have HVK := hidA hvk
      clear hvk
      go_wp2
      clear c1
      go_loopg [18] n (fun g i wx => ∃ j : Nat, j ≤ n ∧ g = n - j ∧ i = .int .i64 j ∧ wx = wr ∧ ∀ j', j' < j → j' < m → vk - l.getD j' 0 ≤ Z k j')
      case atStart => exact ⟨0, Nat.zero_le _, rfl, rfl, rfl, fun i hi => by omega⟩
      case round =>
        obtain ⟨j, hj, rfl, rfl, rfl, hall2⟩ := hrel
        have HA2 := hidA hall2
        clear hall2
        by_cases hjn : j < n
        · have hjz : (j : Int) < (n : Int) := by omega
          obtain ⟨lb2, off2, hlb, c2⟩ := intsIn_at hL.out (k := j) (by omega)
          injection hlb with hlb
          injection hlb with hlb hlo _
          subst hlb hlo
          have x2 := h32 j
          obtain ⟨vj, hvj⟩ : ∃ x, l.getD j 0 = x := ⟨_, rfl⟩
          rw [hvj] at c2 x2
          have BB := hidA (bound_any c hG.out (k : Int) (j : Int) hn (by omega))
          by_cases hjm : j < m
          · rw [boundF_in Z hkn hjm] at BB
            by_cases hle : vk - vj ≤ Z k j
            · have HN : Hid (∀ j', j' < j + 1 → j' < m → vk - l.getD j' 0 ≤ Z k j') := hidA (all_snoc (p := fun j' => j' < m → vk - l.getD j' 0 ≤ Z k j') HA2.out (fun _ => by rw [hvj]; exact hle))
              generalize Z k j = z at *
              clear hvj
              go_wp2_with (go_at_call 25; refine (BB.out).mono ?_; rintro e w1 ⟨rfl, rfl⟩)
              go_roundg (n - (j + 1))
              case rel => exact ⟨j + 1, by omega, rfl, by go_num, rfl, HN.out⟩
              case measure => omega
            · have hlt : Z k j < vk - vj := by omega
              have HN : Hid (hasB n m Z (fun i => l.getD i 0) = false) := hidA (hasB_no hkn hjm (by rw [HVK.out, hvj]; exact hlt))
              generalize Z k j = z at *
              clear hle hvj
              go_wp2_with (go_at_call 25; refine (BB.out).mono ?_; rintro e w1 ⟨rfl, rfl⟩)
              go_ret
              exact ⟨retB HN.out.symm, rfl⟩
          · have hbo : boundF n m Z k j = 1099511627776 := by unfold boundF; rw [if_neg (by omega)]
            rw [hbo] at BB
            have HN : Hid (∀ j', j' < j + 1 → j' < m → vk - l.getD j' 0 ≤ Z k j') := hidA (all_snoc (p := fun j' => j' < m → vk - l.getD j' 0 ≤ Z k j') HA2.out (fun h => absurd h hjm))
            have hle : vk - vj ≤ 1099511627776 := by omega
            clear hvj hbo
            go_wp2_with (go_at_call 25; refine (BB.out).mono ?_; rintro e w1 ⟨rfl, rfl⟩)
            go_roundg (n - (j + 1))
            case rel => exact ⟨j + 1, by omega, rfl, by go_num, rfl, HN.out⟩
            case measure => omega
        · obtain rfl : j = n := by omega
          go_wp2
          go_roundg (j - (k + 1))
          case rel => exact ⟨k + 1, by omega, rfl, by go_num, rfl, all_snoc HA.out (fun j' hj' => by rw [HVK.out]; exact HA2.out j' (by omega) hj')⟩
          case measure => omega
    · obtain rfl : k = n := by omega
      go_wp2
      go_ret
      exact ⟨retB (hasB_yes HA.out).symm, rfl⟩
end Go.Proofs.Ytdcaecpcofencaa

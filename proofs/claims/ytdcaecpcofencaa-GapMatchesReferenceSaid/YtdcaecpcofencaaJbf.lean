import Derived.Test.YtdcaecpcofencaaJbe
namespace Go.Proofs.Ytdcaecpcofencaa
open Go.RowKit Go.Instr Go.Deep
set_option maxRecDepth 100000
set_option linter.unusedVariables false
set_option linter.unusedSimpArgs false

/-! The reference's Assume and Valid. -/
theorem rassume_any (w : World) {lo b n m : Nat} {R C : Nat → Nat} {Z : Nat → Nat → Int} (c : Nat) (h : Gr w lo b n m R C Z) (op : Int) (holds : Bool) (ao an av bo bn bv : Int) (la lb : List Ex) (hla : ExOk la) (hlb : ExOk lb) (pa pb : Option Addr) (ca cb : Nat) (ha : exIn w (.mk ao an av la) (.agg #[.int .i64 ao, .int .i64 an, .int .i64 av, .slice pa la.length ca])) (hb : exIn w (.mk bo bn bv lb) (.agg #[.int .i64 bo, .int .i64 bn, .int .i64 bv, .slice pb lb.length cb])) (wa wb : Bool) (hn : n ≤ 65536) (hm : m ≤ 65536) (hZ : Zok n m Z) :
    Calls Try.prog 18 #[.slice (some ⟨b, 0, none⟩) n c, .int .i64 op, .bool holds, .agg #[.int .i64 ao, .int .i64 an, .int .i64 av, .slice pa la.length ca], .agg #[.int .i64 bo, .int .i64 bn, .int .i64 bv, .slice pb lb.length cb], .agg #[.bool wa, .bool wb]] w fun e w' => GrRet w.heap.size n m (assumeN m Z op holds (wa && wb && ((shiftT n ao an la).2.2 && (shiftT n bo bn lb).2.2)) (shiftT n ao an la).1 (shiftT n bo bn lb).1 (shiftT n ao an la).2.1 (shiftT n bo bn lb).2.1) w e w' :=
  rassume_walk w c h op holds ao an av bo bn bv pa pb _ ca _ cb wa wb _ _ _ _ _ _ (hidA (fun W hW => by have h := rshift_any W ao an av la hla pa _ ca n rfl (exIn_below hW _ _ ha); exact h)) (hidA (fun W hW => by have h := rshift_any W bo bn bv lb hlb pb _ cb n rfl (exIn_below hW _ _ hb); exact h)) shiftT_lt shiftT_lt (shiftT_bd _ _ _ _) (shiftT_bd _ _ _ _) hZ hn hm
set_option maxRecDepth 100000 in
set_option maxHeartbeats 1000000 in
theorem rvalid_any (w : World) {lo b n m : Nat} {R C : Nat → Nat} {Z : Nat → Nat → Int} (c : Nat) (h : Gr w lo b n m R C Z) (vars params : Int) (hn : n ≤ 65536) (hm : m ≤ 65536) :
    Calls Try.prog 29 #[.slice (some ⟨b, 0, none⟩) n c, .int .i64 vars, .int .i64 params] w fun e w' => e = .returned (.bool (validB n m Z vars params)) ∧ w = w' := by
  have hG := hidA h
  clear h
  by_cases hv : (n : Int) = vars
  · subst hv
    go_enter Try.func29, Try.ntmps29
    go_wp2
    go_loopg [7] n (fun g i wr => ∃ k : Nat, k ≤ n ∧ g = n - k ∧ i = .int .i64 k ∧ wr = w ∧ ∀ i, i < k → (m : Int) = params ∧ ∀ j, j < m → fineB (Z i j) = true)
    case atStart => exact ⟨0, Nat.zero_le _, rfl, rfl, rfl, fun i hi => by omega⟩
    case round =>
      obtain ⟨k, hk, rfl, rfl, rfl, hall⟩ := hrel
      have HA := hidA hall
      clear hall
      by_cases hkn : k < n
      · have hkz : (k : Int) < (n : Int) := by omega
        have c1 := hG.out.cellh hkn
        by_cases hp : (m : Int) = params
        · have hpb : ((m : Int) == params) = true := by simpa using hp
          have hpb2 : ((m : Int) != params) = false := by simpa using hp
          subst hp
          have HP := hidA (rfl : (m : Int) = m)
          go_wp2
          clear c1
          go_loopg [8] m (fun g i wx => ∃ j : Nat, j ≤ m ∧ g = m - j ∧ i = .int .i64 j ∧ wx = wr ∧ ∀ j', j' < j → fineB (Z k j') = true)
          case atStart => exact ⟨0, Nat.zero_le _, rfl, rfl, rfl, fun i hi => by omega⟩
          case round =>
            obtain ⟨j, hj, rfl, rfl, rfl, hall2⟩ := hrel
            have HA2 := hidA hall2
            clear hall2
            by_cases hjm : j < m
            · have hjz : (j : Int) < (m : Int) := by omega
              have e2 := hG.out.cellv hkn hjm
              have c1 := hG.out.cellh hkn
              have NN := hidA (fun w => fine_any (Z k j) w)
              by_cases hle : fineB (Z k j) = true
              · have HN := hidA (all_snoc (p := fun j' => fineB (Z k j') = true) HA2.out hle)
                rw [hle] at NN
                generalize Z k j = z at *
                clear hle
                go_wp2_with (go_at_call 42; (with_reducible refine (NN.out _).mono ?_); rintro e w1 ⟨rfl, rfl⟩)
                go_roundg (m - (j + 1))
                case rel => exact ⟨j + 1, by omega, rfl, by go_num, rfl, HN.out⟩
                case measure => omega
              · rw [Bool.not_eq_true] at hle
                have HN : Hid (validB n m Z n m = false) := hidA (by unfold validB; rw [fineAll_no hkn hjm hle]; simp)
                rw [hle] at NN
                generalize Z k j = z at *
                clear hle
                go_wp2_with (go_at_call 42; (with_reducible refine (NN.out _).mono ?_); rintro e w1 ⟨rfl, rfl⟩)
                go_ret
                exact ⟨retB HN.out.symm, rfl⟩
            · obtain rfl : j = m := by omega
              go_wp2
              go_roundg (n - (k + 1))
              case rel => exact ⟨k + 1, by omega, rfl, by go_num, rfl, all_snoc HA.out ⟨HP.out, HA2.out⟩⟩
              case measure => omega
        · have hpb : ((m : Int) == params) = false := by simpa using hp
          have hpb2 : ((m : Int) != params) = true := by simpa using hp
          have HN : Hid (validB n m Z n params = false) := hidA (by
            unfold validB
            have h1 : decide (n = 0 ∨ (m : Int) = params) = false := by simp [hp]; omega
            rw [h1]; simp)
          clear hp
          go_wp2
          go_ret
          exact ⟨retB HN.out.symm, rfl⟩
      · obtain rfl : k = n := by omega
        have HN : Hid (validB k m Z k params = true) := hidA (by
          unfold validB
          rw [fineAll_yes (fun i hi => (HA.out i hi).2)]
          have h1 : decide (k = 0 ∨ (m : Int) = params) = true := by
            rw [decide_eq_true_iff]
            rcases Nat.eq_zero_or_pos k with h0 | h0
            · exact .inl h0
            · exact .inr (HA.out 0 h0).1
          rw [h1]; simp)
        go_wp2
        go_ret
        exact ⟨retB HN.out.symm, rfl⟩
  · have b1 : ((n : Int) == vars) = false := by simpa using hv
    have b2 : ((n : Int) != vars) = true := by simpa using hv
    have HN : Hid (validB n m Z vars params = false) := hidA (by
      unfold validB
      have h1 : decide ((n : Int) = vars) = false := by simp [hv]
      rw [h1]; simp)
    clear hv
    go_enter Try.func29, Try.ntmps29
    go_wp2
    go_ret
    exact ⟨retB HN.out.symm, rfl⟩
end Go.Proofs.Ytdcaecpcofencaa

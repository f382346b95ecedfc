import Derived.Test.YtdcaecpcofencaaJp
namespace Go.Proofs.Ytdcaecpcofencaa
open Go.RowKit Go.Instr Go.Deep
set_option maxRecDepth 100000
set_option linter.unusedVariables false
set_option linter.unusedSimpArgs false

/-! The reference's New, Copy, Made. -/
set_option maxRecDepth 100000 in
set_option maxHeartbeats 1000000 in
theorem rnew_any (n m : Nat) (hn : n ≤ 65536) (hm : m ≤ 65536) (w : World) :
    Calls Try.prog 14 #[.int .i64 (n : Int), .int .i64 (m : Int)] w fun e w' => GrRet w.heap.size n m newF w e w' := by
  obtain ⟨iI, hiI, hiIz, hiIs, hiIb⟩ := info_parts infoI
  obtain ⟨iS, hiS, hiSz, hiSs, hiSb⟩ := info_parts infoS
  go_enter Try.func14, Try.ntmps14
  go_wp2
  go_loopg [5, 6] n (fun g s5 s6 wr => ∃ k : Nat, k ≤ n ∧ g = n - k ∧ s6 = .int .i64 k ∧ NewO w wr m k s5 newF)
  case atStart => exact ⟨0, Nat.zero_le _, rfl, rfl, NewO.start w m newF⟩
  case round =>
    obtain ⟨k, hk, rfl, rfl, hO⟩ := hrel
    obtain ⟨wo, rfl⟩ : ∃ wo : World, wo = wr := ⟨_, rfl⟩
    by_cases hkn : k < n
    · have hkz : (k : Int) < (n : Int) := by omega
      obtain ⟨xs, R, C, hp⟩ := hO
      obtain ⟨g5, cap5, cur5, rfl, -, -, -⟩ := form_of hp.own hp.nn
      have HP := hidA hp
      clear hp
      go_wp2
      go_loopg [7, 8] m (fun g s7 s8 wi => ∃ j : Nat, j ≤ m ∧ g = m - j ∧ s8 = .int .i64 j ∧ NewI wo wi j s7 (newF k))
      case atStart => exact ⟨0, Nat.zero_le _, rfl, rfl, NewI.start wo _⟩
      case round =>
        obtain ⟨j, hj, rfl, rfl, ys, hq⟩ := hrel
        obtain ⟨g7, cap7, cur7, rfl, -, -, -⟩ := form_of hq.own hq.nn
        have HQ := hidA hq
        clear hq
        by_cases hjm : j < m
        · have hjz : (j : Int) < (m : Int) := by omega
          by_cases hkj : k = j
          · subst hkj
            have HX : Hid ((0 : Int) = newF k k) := hidA (by simp [newF])
            go_wp2_with (at_builtin; refine wpList_append_one rfl (.tmp 24) (.tmp 25) 22 rfl _ 3 iI _ 8 Try.underlying22 hiI hiIz hiIs hiIb rfl (by omega) _ _ _ rfl (HQ.out.own.alloc _) HQ.out.nn _ (.int .i64 0) rfl (by simp [go_sem]) rfl (by omega) (by have := HQ.out.bel.size; simp; omega) ?_; intro v' w1 ho hg hv; have HI := hidA (HQ.out.step _ HX.out ho hg hv); clear ho hg hv)
            go_roundg (m - (k + 1))
            case rel => exact ⟨k + 1, by omega, rfl, by go_num, HI.out⟩
            case measure => omega
          · have HX : Hid ((1099511627776 : Int) = newF k j) := hidA (by simp [newF, hkj])
            have hkb : ((k : Int) == (j : Int)) = false := by simp; omega
            clear hkj
            go_wp2_with (at_builtin; refine wpList_append_one rfl (.tmp 27) (.tmp 28) 22 rfl _ 3 iI _ 8 Try.underlying22 hiI hiIz hiIs hiIb rfl (by omega) _ _ _ rfl (HQ.out.own.alloc _) HQ.out.nn _ (.int .i64 1099511627776) rfl (by simp [go_sem]) rfl (by omega) (by have := HQ.out.bel.size; simp; omega) ?_; intro v' w1 ho hg hv; have HI := hidA (HQ.out.step _ HX.out ho hg hv); clear ho hg hv)
            go_roundg (m - (j + 1))
            case rel => exact ⟨j + 1, by omega, rfl, by go_num, HI.out⟩
            case measure => omega
        · obtain rfl : j = m := by omega
          go_wp2_with (at_builtin; refine wpList_append_one rfl (.tmp 30) (.tmp 32) 30 rfl _ 22 iS _ 24 Try.underlying30 hiS hiSz hiSs hiSb rfl (by omega) _ _ _ rfl ((HP.out.keep HQ.out.bel).own.alloc _) HP.out.nn _ (.slice (some ⟨g7, 0, none⟩) j cap7) rfl (by simp [go_sem]) rfl (by omega) (by have h1 := HP.out.bel.size; have h2 := HQ.out.bel.size; simp; omega) ?_; intro v' w1 ho hg hv; have HN := hidA (HP.out.step HQ.out (fun _ _ => rfl) _ ho hg hv); clear ho hg hv)
          go_roundg (n - (k + 1))
          case rel => exact ⟨k + 1, by omega, rfl, by go_num, HN.out⟩
          case measure => omega
    · obtain rfl : k = n := by omega
      go_wp2
      go_ret
      exact hO.done
set_option maxRecDepth 100000 in
set_option maxHeartbeats 1000000 in
theorem copy_any (w : World) {lo b n m : Nat} {R C : Nat → Nat} {Z : Nat → Nat → Int} (c : Nat) (h : Gr w lo b n m R C Z) (hn : n ≤ 65536) (hm : m ≤ 65536) :
    Calls Try.prog 27 #[.slice (some ⟨b, 0, none⟩) n c] w fun e w' => GrRet w.heap.size n m Z w e w' := by
  obtain ⟨iI, hiI, hiIz, hiIs, hiIb⟩ := info_parts infoI
  obtain ⟨iS, hiS, hiSz, hiSs, hiSb⟩ := info_parts infoS
  have hG := hidA h
  clear h
  go_enter Try.func27, Try.ntmps27
  go_wp2
  go_loopg [3, 4] n (fun g s3 s4 wr => ∃ k : Nat, k ≤ n ∧ g = n - k ∧ s4 = .int .i64 k ∧ NewO w wr m k s3 Z)
  case atStart => exact ⟨0, Nat.zero_le _, rfl, rfl, NewO.start w m Z⟩
  case round =>
    obtain ⟨k, hk, rfl, rfl, hO⟩ := hrel
    obtain ⟨wo, rfl⟩ : ∃ wo : World, wo = wr := ⟨_, rfl⟩
    by_cases hkn : k < n
    · have hkz : (k : Int) < (n : Int) := by omega
      obtain ⟨xs, R1, C1, hp⟩ := hO
      obtain ⟨g5, cap5, cur5, rfl, -, -, -⟩ := form_of hp.own hp.nn
      have HP := hidA hp
      clear hp
      have HG := hidA (hG.out.belowA HP.out.bel)
      have c1 : ∀ o, (wo.alloc o).cell? ⟨b, k, none⟩ = some (.slice (some ⟨R k, 0, none⟩) m (C k)) := fun o => (HG.out.alloc o).cellh hkn
      go_wp2_with (first
        | (at_builtin; refine wpList_append_row rfl (.tmp 13) (.tmp 17) 22 rfl iI _ Try.underlying22 hiI hiIz hiIs hiIb rfl _ rfl (fun j => Z k j) (NewI.start wo _) (R k) m (C k) rfl (fun j hj => (HG.out.alloc _).cellv hkn hj) hm ?_; intro v' w1 hI; obtain ⟨ys, hq⟩ := hI; obtain ⟨g7, cap7, cur7, rfl, -, -, -⟩ := form_of hq.own hq.nn; have HQ := hidA hq; clear hq c1)
        | (at_builtin; refine wpList_append_one rfl (.tmp 12) (.tmp 19) 30 rfl _ 22 iS _ 24 Try.underlying30 hiS hiSz hiSs hiSb rfl (by omega) _ _ _ rfl ((HP.out.keep HQ.out.bel).own.alloc _) HP.out.nn _ (.slice (some ⟨g7, 0, none⟩) m cap7) rfl (by simp [go_sem]) rfl (by omega) (by have h1 := HP.out.bel.size; have h2 := HQ.out.bel.size; simp; omega) ?_; intro v' w1 ho hg hv; have HN := hidA (HP.out.step HQ.out (fun _ _ => rfl) _ ho hg hv); clear ho hg hv))
      go_roundg (n - (k + 1))
      case rel => exact ⟨k + 1, by omega, rfl, by go_num, HN.out⟩
      case measure => omega
    · obtain rfl : k = n := by omega
      go_wp2
      go_ret
      exact hO.done
end Go.Proofs.Ytdcaecpcofencaa

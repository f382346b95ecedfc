import Derived.Test.YtfoiadabppnibaaGrc
namespace Go.Proofs.Ytfoiadabppnibaa
open Go.RowKit Go.Instr
set_option linter.unusedVariables false

/-! 'ParseIn' of the reference. -/
def innerX (X : Nat) (c : UInt8) (kd : Nat) : Nat := match hexD c with
  | none => X
  | some d => if d < kd then X * 16 + d else X
def boxX (wr : World) (B : Nat) (X : Nat) : Prop := wr.heap[B + 1]? = some (.cells #[.int .u64 (X : Int), .int .i64 0] 32 (0, 0)) ∧ wr.heap[B]? = some (.cells #[.int .u64 0, .int .i64 0] 32 (0, 0))
theorem hx0 (w : World) : (Instr.index 9 (.string ⟨#[48, 49, 50, 51, 52, 53, 54, 55, 56, 57, 97, 98, 99, 100, 101, 102]⟩) (.int .i64 0)).run Try.prog w = .ok (.int .u8 48) w := by kernel_rfl
theorem hx1 (w : World) : (Instr.index 9 (.string ⟨#[48, 49, 50, 51, 52, 53, 54, 55, 56, 57, 97, 98, 99, 100, 101, 102]⟩) (.int .i64 1)).run Try.prog w = .ok (.int .u8 49) w := by kernel_rfl
theorem hx2 (w : World) : (Instr.index 9 (.string ⟨#[48, 49, 50, 51, 52, 53, 54, 55, 56, 57, 97, 98, 99, 100, 101, 102]⟩) (.int .i64 2)).run Try.prog w = .ok (.int .u8 50) w := by kernel_rfl
theorem hx3 (w : World) : (Instr.index 9 (.string ⟨#[48, 49, 50, 51, 52, 53, 54, 55, 56, 57, 97, 98, 99, 100, 101, 102]⟩) (.int .i64 3)).run Try.prog w = .ok (.int .u8 51) w := by kernel_rfl
theorem hx4 (w : World) : (Instr.index 9 (.string ⟨#[48, 49, 50, 51, 52, 53, 54, 55, 56, 57, 97, 98, 99, 100, 101, 102]⟩) (.int .i64 4)).run Try.prog w = .ok (.int .u8 52) w := by kernel_rfl
theorem hx5 (w : World) : (Instr.index 9 (.string ⟨#[48, 49, 50, 51, 52, 53, 54, 55, 56, 57, 97, 98, 99, 100, 101, 102]⟩) (.int .i64 5)).run Try.prog w = .ok (.int .u8 53) w := by kernel_rfl
theorem hx6 (w : World) : (Instr.index 9 (.string ⟨#[48, 49, 50, 51, 52, 53, 54, 55, 56, 57, 97, 98, 99, 100, 101, 102]⟩) (.int .i64 6)).run Try.prog w = .ok (.int .u8 54) w := by kernel_rfl
theorem hx7 (w : World) : (Instr.index 9 (.string ⟨#[48, 49, 50, 51, 52, 53, 54, 55, 56, 57, 97, 98, 99, 100, 101, 102]⟩) (.int .i64 7)).run Try.prog w = .ok (.int .u8 55) w := by kernel_rfl
theorem hx8 (w : World) : (Instr.index 9 (.string ⟨#[48, 49, 50, 51, 52, 53, 54, 55, 56, 57, 97, 98, 99, 100, 101, 102]⟩) (.int .i64 8)).run Try.prog w = .ok (.int .u8 56) w := by kernel_rfl
theorem hx9 (w : World) : (Instr.index 9 (.string ⟨#[48, 49, 50, 51, 52, 53, 54, 55, 56, 57, 97, 98, 99, 100, 101, 102]⟩) (.int .i64 9)).run Try.prog w = .ok (.int .u8 57) w := by kernel_rfl
theorem hx10 (w : World) : (Instr.index 9 (.string ⟨#[48, 49, 50, 51, 52, 53, 54, 55, 56, 57, 97, 98, 99, 100, 101, 102]⟩) (.int .i64 10)).run Try.prog w = .ok (.int .u8 97) w := by kernel_rfl
theorem hx11 (w : World) : (Instr.index 9 (.string ⟨#[48, 49, 50, 51, 52, 53, 54, 55, 56, 57, 97, 98, 99, 100, 101, 102]⟩) (.int .i64 11)).run Try.prog w = .ok (.int .u8 98) w := by kernel_rfl
theorem hx12 (w : World) : (Instr.index 9 (.string ⟨#[48, 49, 50, 51, 52, 53, 54, 55, 56, 57, 97, 98, 99, 100, 101, 102]⟩) (.int .i64 12)).run Try.prog w = .ok (.int .u8 99) w := by kernel_rfl
theorem hx13 (w : World) : (Instr.index 9 (.string ⟨#[48, 49, 50, 51, 52, 53, 54, 55, 56, 57, 97, 98, 99, 100, 101, 102]⟩) (.int .i64 13)).run Try.prog w = .ok (.int .u8 100) w := by kernel_rfl
theorem hx14 (w : World) : (Instr.index 9 (.string ⟨#[48, 49, 50, 51, 52, 53, 54, 55, 56, 57, 97, 98, 99, 100, 101, 102]⟩) (.int .i64 14)).run Try.prog w = .ok (.int .u8 101) w := by kernel_rfl
theorem hx15 (w : World) : (Instr.index 9 (.string ⟨#[48, 49, 50, 51, 52, 53, 54, 55, 56, 57, 97, 98, 99, 100, 101, 102]⟩) (.int .i64 15)).run Try.prog w = .ok (.int .u8 102) w := by kernel_rfl
theorem hx_any (kd : Nat) (h : kd < 16) (w : World) : (Instr.index 9 (.string ⟨#[48, 49, 50, 51, 52, 53, 54, 55, 56, 57, 97, 98, 99, 100, 101, 102]⟩) (.int .i64 (kd : Int))).run Try.prog w = .ok (.int .u8 ((hexC kd).toNat : Int)) w := by
  have h : kd = 0 ∨ kd = 1 ∨ kd = 2 ∨ kd = 3 ∨ kd = 4 ∨ kd = 5 ∨ kd = 6 ∨ kd = 7 ∨ kd = 8 ∨ kd = 9 ∨ kd = 10 ∨ kd = 11 ∨ kd = 12 ∨ kd = 13 ∨ kd = 14 ∨ kd = 15 := by omega
  rcases h with rfl | rfl | rfl | rfl | rfl | rfl | rfl | rfl | rfl | rfl | rfl | rfl | rfl | rfl | rfl | rfl
  · exact hx0 w
  · exact hx1 w
  · exact hx2 w
  · exact hx3 w
  · exact hx4 w
  · exact hx5 w
  · exact hx6 w
  · exact hx7 w
  · exact hx8 w
  · exact hx9 w
  · exact hx10 w
  · exact hx11 w
  · exact hx12 w
  · exact hx13 w
  · exact hx14 w
  · exact hx15 w
theorem innerX_zero (X : Nat) (c : UInt8) : innerX X c 0 = X := by unfold innerX; cases hexD c <;> rfl
theorem boxX_set {wx : World} {B X : Nat} (h : boxX wx B X) (Y : Nat) : boxX (wx.setCell ⟨B + 1, 0, none⟩ (.int .u64 (Y : Int))) B Y := by
  refine ⟨blk_set h.1 _, ?_⟩
  rw [Below.heap_setCell _ _ _ _ (by simp)]
  exact h.2
theorem innerX_hit (X : Nat) (c : UInt8) (kd : Nat) (h : hexD c = some kd) : innerX X c kd = X ∧ innerX X c (kd + 1) = X * 16 + kd := by
  unfold innerX
  rw [h]
  simp
theorem innerX_miss (X : Nat) (c : UInt8) (kd : Nat) (h : hexD c ≠ some kd) : innerX X c (kd + 1) = innerX X c kd := by
  unfold innerX
  cases hc : hexD c with
  | none => rfl
  | some d =>
    have : d ≠ kd := fun e => h (by rw [hc, e])
    show (if d < kd + 1 then X * 16 + d else X) = if d < kd then X * 16 + d else X
    by_cases h1 : d < kd
    · rw [if_pos h1, if_pos (by omega)]
    · rw [if_neg h1, if_neg (by omega)]
theorem innerX_end (l : List UInt8) (k : Nat) (hk : k < l.length) : innerX (foldX 0 (l.take k)) l[k] 16 = foldX 0 (l.take (k + 1)) := by
  rw [List.take_succ_eq_append_getElem hk, foldX_snoc]
  unfold innerX
  cases hc : hexD l[k] with
  | none => rfl
  | some d => show (if d < 16 then _ else _) = _; rw [if_pos (hexC_hexD hc).2]
theorem digit_eq (c : UInt8) (kd : Nat) (hk : kd < 16) : ((c.toNat : Int) == ((hexC kd).toNat : Int)) = decide (hexD c = some kd) := by
  by_cases h : hexD c = some kd
  · rw [← (hexC_hexD h).1]; simp [(hexC_hexD h).1, h]
  · have h1 : ((c.toNat : Int) == ((hexC kd).toNat : Int)) = false := by
      rw [beq_eq_false_iff_ne]
      intro e
      have : c = hexC kd := UInt8.toNat_inj.1 (by omega)
      exact h (by rw [this, hexD_hexC hk])
    rw [h1]; simp [h]
theorem or4 (X kd : Nat) (hX : X * 16 + 15 < 18446744073709551616) (hk : kd < 16) : bits .or .u64 ((X : Int) * 16) (kd : Int) = ((X * 16 + kd : Nat) : Int) := by
  rw [show (X : Int) * 16 = ((X * 16 : Nat) : Int) by simp, bits_or_u64_nat _ _ (by omega) (by omega)]
  have := Nat.shiftLeft_add_eq_or_of_lt (show kd < 2 ^ 4 by omega) X
  rw [Nat.shiftLeft_eq] at this
  rw [← this]
theorem par_eq (l : List UInt8) (h : textN (refX l) 16 = l) : parN l = refX l ∧ parE l = 0 := by
  obtain ⟨h1, h2⟩ := (ref_iff l).1 h
  unfold parN parE
  rw [if_pos h1, if_pos h1, h2]
  exact ⟨rfl, rfl⟩
theorem par_ne (l : List UInt8) (h : textN (refX l) 16 ≠ l) : parN l = 0 ∧ parE l = 3 := by
  unfold parN parE
  by_cases h1 : l.length = 16
  · rw [if_pos h1, if_pos h1]
    cases hv : valF 0 l with
    | none => exact ⟨rfl, rfl⟩
    | some v => exact absurd ((ref_iff l).2 ⟨h1, by rw [ref_some l h1 v hv]; exact hv⟩) h
  · rw [if_neg h1, if_neg h1]; exact ⟨rfl, rfl⟩
set_option maxHeartbeats 4000000 in
theorem rparse_walk (s : ByteArray) (hs : s.size ≤ 200) (w : World) :
    Calls Try.prog 24 #[.string s] w fun e w' => e = .returned (.agg #[.int .u64 (parN s.data.toList : Int), .int .i64 (parE s.data.toList)]) ∧ Below w.heap.size w w' := by
  have hsl : s.data.toList.length = s.size := by simp
  have HL := hid hsl
  clear hsl
  go_enter Try.func24, Try.ntmps24
  go_wp2
  go_loopw [4, 5] (fun i u wr => ∃ k : Nat, k ≤ 16 ∧ k ≤ s.size ∧ i = .int .i64 (k : Int) ∧ Hid (boxX wr w.heap.size (foldX 0 (s.data.toList.take k))) ∧ Below w.heap.size w wr) (fun i _ _ => 16 - (intOf i).toNat)
  case atStart => exact ⟨0, by omega, by omega, rfl, hid ⟨by have h := heap_new (w.alloc (.cells #[.int .u64 0, .int .i64 0] 32)) (.cells #[.int .u64 0, .int .i64 0] 32); simpa [foldX] using h, (Below.heap_alloc _ _ _ (by simp)).trans (heap_new _ _)⟩, below_a (below_a (Below.refl _ _) _) _⟩
  case round =>
    obtain ⟨k, hk, hks, rfl, HX, hb⟩ := hrel
    by_cases hlt : k < 16 ∧ k < s.size
    · obtain ⟨hlt, hlts⟩ := hlt
      have HB0 := hid hb
      clear hb
      go_wp2_with fail
      go_loopw [5] (fun d wx => ∃ kd : Nat, kd ≤ 16 ∧ d = .int .i64 (kd : Int) ∧ Hid (boxX wx w.heap.size (innerX (foldX 0 (s.data.toList.take k)) s[k] kd)) ∧ Hid (Below w.heap.size w wx)) (fun d _ => 16 - (intOf d).toNat)
      case atStart => exact ⟨0, by omega, rfl, hid (by rw [innerX_zero]; exact HX.out), HB0⟩
      case round =>
        obtain ⟨kd, hkd, rfl, HY, HB⟩ := hrel
        by_cases hkt : kd < 16
        · have hidx := hx_any kd hkt
          have hks1 : (0 : Int) ≤ (k : Int) := by omega
          have hks2 : (k : Int) < (s.size : Int) := by omega
          by_cases hh : hexD s[k] = some kd
          · have he : ((s[k].toNat : Int) == ((hexC kd).toNat : Int)) = true := by rw [digit_eq _ _ hkt, hh]; simp
            obtain ⟨e1, e2⟩ := innerX_hit (foldX 0 (s.data.toList.take k)) s[k] kd hh
            have E1 := hid e1
            have E2 := hid e2
            rw [e1] at HY
            obtain ⟨X, hX⟩ : ∃ X, foldX 0 (s.data.toList.take k) = X := ⟨_, rfl⟩
            have hXb : X * 16 + 15 < 18446744073709551616 := by
              have h0 := foldX_lt (s.data.toList.take k)
              rw [hX] at h0
              have h1 : (s.data.toList.take k).length ≤ 15 := by simp; omega
              have h15 := Nat.pow_le_pow_right (show 0 < 16 by omega) h1
              omega
            rw [hX] at HY E2
            have HXq := hid hX
            have hc := blk_cell HY.out.1 (j := 0) rfl
            have hf := blk_free HY.out.1 0
            have HO := hid (or4 X kd hXb hkt)
            clear e1 e2 hh E1 hX
            go_wp2_with fail
            go_quiet (fail)
            go_wp2_with fail
            go_roundw
            case rel =>
              refine ⟨kd + 1, by omega, by go_num, hid ?_, hid ?_⟩
              · rw [HXq.out, E2.out, HO.out]
                exact boxX_set HY.out _
              · exact below_drewN (HB.out.setCell (by simp) _) _
            case measure => simp [intOf]; omega
          · have he : ((s[k].toNat : Int) == ((hexC kd).toNat : Int)) = false := by rw [digit_eq _ _ hkt]; simp [hh]
            have HM := hid (innerX_miss (foldX 0 (s.data.toList.take k)) s[k] kd hh)
            clear hh
            go_wp2_with fail
            go_quiet (fail)
            go_wp2_with fail
            go_roundw
            case rel => exact ⟨kd + 1, by omega, by go_num, hid (by rw [HM.out]; exact HY.out), hid (below_drewN HB.out _)⟩
            case measure => simp [intOf]; omega
        · obtain rfl : kd = 16 := by omega
          have hY := HY.out
          rw [show s[k] = s.data.toList[k]'(by simp; omega) from rfl, innerX_end _ _ (by simp; omega)] at hY
          have HY2 := hid hY
          clear hY
          go_wp2_with fail
          go_roundw
          case rel => exact ⟨k + 1, by omega, by omega, by go_num, HY2, HB.out⟩
          case measure => simp [intOf]; omega
    · have hstop : k = 16 ∨ k = s.size := by omega
      have hX : boxX wr w.heap.size (refX s.data.toList) := by
        have := HX.out
        unfold refX
        rcases hstop with h | h
        · rw [h] at this; exact this
        · rw [h, List.take_of_length_le (by rw [HL.out]; exact Nat.le_refl _)] at this
          rw [List.take_of_length_le (by rw [HL.out]; omega)]
          exact this
      have hc := blk_cell hX.1 (j := 0) rfl
      have hc1 := blk_cell hX.1 (j := 1) rfl
      obtain ⟨X, hXe⟩ : ∃ X, refX s.data.toList = X := ⟨_, rfl⟩
      rw [hXe] at hc
      have C := hid (fun W => rtext_any X (by rw [← hXe]; exact refX_lt _) W)
      obtain ⟨T, hT⟩ : ∃ T : ByteArray, (⟨(textN X 16).toArray⟩ : ByteArray) = T := ⟨_, rfl⟩
      rw [hT] at C
      have HBX := hid hX
      have HB := hid hb
      have HXE := hid hXe
      have HTE := hid hT
      have r0 := blk_cell hX.2 (j := 0) rfl
      have r1 := blk_cell hX.2 (j := 1) rfl
      have f0 := blk_free hX.2 0
      have f1 := blk_free hX.2 1
      have hTl : T.toList = textN X 16 := by rw [ByteArray.toList_eq, ← hT]
      have hsl : s.toList = s.data.toList := ByteArray.toList_eq s
      cases hte : (T.toList == s.toList)
      · have hne : (!T.toList == s.toList) = true := by rw [hte]; rfl
        obtain ⟨p1, p2⟩ := par_ne s.data.toList (by rw [hXe, ← hTl, ← hsl]; simpa using hte)
        have Q1 := hid p1
        have Q2 := hid p2
        clear hX hb hXe hT HX hstop hTl hsl hte p1 p2
        go_wp2_with fail
        all_goals
          refine (C.out _).mono ?_
          rintro e w3 ⟨rfl, rfl⟩
          go_wp2_with fail
          exact bodyPost_ret (v := .agg #[.int .u64 0, .int .i64 3]) (by simp [results, Try.results24, go_sem, r0, r1]) rfl ⟨by rw [Q1.out, Q2.out]; rfl, (HB.out.setCell (by simp) _).setCell (by simp) _⟩
      · have hne : (!T.toList == s.toList) = false := by rw [hte]; rfl
        obtain ⟨p1, p2⟩ := par_eq s.data.toList (by rw [hXe, ← hTl, ← hsl]; simpa using hte)
        rw [hXe] at p1
        have Q1 := hid p1
        have Q2 := hid p2
        clear hX hb hXe hT HX hstop hTl hsl hte p1 p2
        go_wp2_with fail
        all_goals
          refine (C.out _).mono ?_
          rintro e w3 ⟨rfl, rfl⟩
          go_wp2_with fail
          exact bodyPost_ret (v := .agg #[.int .u64 (X : Int), .int .i64 0]) (by simp [results, Try.results24, go_sem, r0, r1]) rfl ⟨by rw [Q1.out, Q2.out], (HB.out.setCell (by simp) _).setCell (by simp) _⟩
end Go.Proofs.Ytfoiadabppnibaa

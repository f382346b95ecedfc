import Derived.Test.YtdcaecpcofencaaJbb
import Derived.StillTailTactics
namespace Go.Proofs.Ytdcaecpcofencaa
open Go.RowKit Go.Instr Go.Deep
set_option maxRecDepth 100000
set_option linter.unusedVariables false
set_option linter.unusedSimpArgs false

/-! The reference's Set. -/
theorem MixO.pre {w wr : World} {b n m k j : Nat} {R C : Nat → Nat} {F Y : Nat → Nat → Int} (h : MixO w wr b n m R C F Y k j) (hk : k < n) (x : Int) : MixO w (wr.setCell ⟨R k, j, none⟩ (.int .i64 x)) b n m R C F (fun i' j' => if i' = k ∧ j' = j then x else Y i' j') k j := by
  refine ⟨(h.gr.set hk j x).congr (fun i' j' _ _ => ?_), h.bel.setCell (h.gr.row k hk).1 _⟩
  unfold mix
  by_cases e : i' = k ∧ j' = j
  · rw [if_pos e, if_neg (by omega)]
    exact (if_pos e).symm
  · rw [if_neg e]
    split
    · rfl
    · exact (if_neg e).symm
theorem MixO.swap {w wr : World} {b n m k j : Nat} {R C : Nat → Nat} {F Y : Nat → Nat → Int} {x : Int} (h : MixO w wr b n m R C F (fun i' j' => if i' = k ∧ j' = j then x else Y i' j') k (j + 1)) : MixO w wr b n m R C F Y k (j + 1) := ⟨h.gr.congr (fun i' j' _ _ => by
  unfold mix
  by_cases e : i' = k ∧ j' = j
  · rw [if_pos (by omega), if_pos (by omega)]
  · simp only [if_neg e]), h.bel⟩
set_option maxRecDepth 100000 in
set_option maxHeartbeats 1000000 in
theorem rset_walk (w : World) {lo b n m : Nat} {R C : Nat → Nat} {Z : Nat → Nat → Int} (c : Nat) (h : Gr w lo b n m R C Z) (vv : Nat) (hvv : vv < n) (op nn v : Int) (oa : Option Addr) (len cap : Nat) (wh sb : Bool) (sw : Nat) (sc : Int) (CS : Hid (∀ W, Below w.heap.size w W → Calls Try.prog 49 #[.agg #[.int .i64 op, .int .i64 nn, .int .i64 v, .slice oa len cap], .int .i64 (n : Int)] W fun e w' => e = .returned (.tuple #[.int .i64 (sw : Int), .int .i64 sc, .bool sb]) ∧ Below W.heap.size W w')) (hsw : sb = true → sw < n) (hsc : -17179869184 ≤ sc ∧ sc ≤ 17179869184) (hZ : Zok n m Z) (hn : n ≤ 65536) (hm : m ≤ 65536) :
    Calls Try.prog 16 #[.slice (some ⟨b, 0, none⟩) n c, .int .i64 (vv : Int), .agg #[.int .i64 op, .int .i64 nn, .int .i64 v, .slice oa len cap], .bool wh] w fun e w' => GrRet w.heap.size n m (setN n m Z (vv : Int) wh sb (sw : Int) sc) w e w' := by
  obtain ⟨w0, hw0⟩ : ∃ w0, w.alloc (.cells #[.int .i64 op, .int .i64 nn, .int .i64 v, .slice oa len cap] 34) = w0 := ⟨_, rfl⟩
  have B0 := hidA (show Below w.heap.size w w0 by rw [← hw0]; exact below_al _ _)
  have d0 : w0.cell? ⟨w.heap.size, 0, none⟩ = some (.int .i64 op) := by rw [← hw0]; simp [go_sem]
  have d1 : w0.cell? ⟨w.heap.size, 1, none⟩ = some (.int .i64 nn) := by rw [← hw0]; simp [go_sem]
  have d2 : w0.cell? ⟨w.heap.size, 2, none⟩ = some (.int .i64 v) := by rw [← hw0]; simp [go_sem]
  have d3 : w0.cell? ⟨w.heap.size, 3, none⟩ = some (.slice oa len cap) := by rw [← hw0]; simp [go_sem]
  have hG := hidA (h.belowA B0.out)
  have hZo := hidA hZ
  have Hw := hidA hw0
  clear h hZ hw0
  obtain ⟨F, hFe⟩ : ∃ F, setN n m Z (vv : Int) wh sb (sw : Int) sc = F := ⟨_, rfl⟩
  have HF0 := hidA (show ∀ i j, i ≠ vv → F i j = Z i j from fun i j hij => by rw [← hFe]; unfold setN; rw [if_neg (by omega)])
  have HF1 := hidA (show ∀ j, j < m → F vv j = if (wh && sb) = true then sumF (boundF n m Z sw j) sc else 1099511627776 from fun j hj => by rw [← hFe]; unfold setN; rw [if_pos rfl])
  rw [hFe]
  clear hFe
  have hvz : (vv : Int) < (n : Int) := by omega
  have hvz2 : decide (n ≤ vv) = false := by simp; omega
  go_enter Try.func16, Try.ntmps16
  go_upto_region 1 with (fail)
  rw [Hw.out]
  go_upto_region 2 with (go_at_call 27; (with_reducible refine (copy_any _ c hG.out hn hm).mono ?_); rintro e w1 ⟨gb, gc, R1, C1, rfl, hg, hb1⟩; have d0' := cellA hb1 d0; have d1' := cellA hb1 d1; have d2' := cellA hb1 d2; have d3' := cellA hb1 d3)
  clear d0 d1 d2 d3
  go_upto_region 5 with ((go_at_call 49; (with_reducible refine (CS.out _ (stepA B0.out hb1)).mono ?_); rintro e w2 ⟨rfl, hb2⟩))
  have hM := hidA ((MixO.startAt vv HF0.out hg hb1).keep hb2)
  clear hg hb1 hb2 d0' d1' d2' d3' hvz2 CS Hw
  go_wp2
  go_loopg [13] m (fun g i wx => ∃ j : Nat, j ≤ m ∧ g = m - j ∧ i = .int .i64 j ∧ MixO w0 wx gb n m R1 C1 F Z vv j)
  case atStart => exact ⟨0, Nat.zero_le _, rfl, rfl, hM.out⟩
  case round =>
    clear hM
    obtain ⟨j, hj, rfl, rfl, hM⟩ := hrel
    obtain ⟨wi, rfl⟩ : ∃ wi : World, wi = wr := ⟨_, rfl⟩
    have HM := hidA hM
    clear hM
    have c0 := (hG.out.belowA HM.out.bel).cellh hvv
    by_cases hjm : j < m
    · have hjz : (j : Int) < (m : Int) := by omega
      have h1 := HM.out.gr.cellh hvv
      have h2 := HM.out.cur hvv hjm
      have h3 := HM.out.gr.frv hvv j
      have HF := hidA (HF1.out j hjm)
      by_cases hws : wh = true ∧ sb = true
      · obtain ⟨rfl, rfl⟩ := hws
        have hs := hsw rfl
        have hsz : (sw : Int) < (n : Int) := by omega
        rw [if_pos (by decide), boundF_in Z hs hjm] at HF
        go_upto_region 9 with (fail)
        have HM1 := hidA (HM.out.pre hvv 1099511627776)
        clear h1 h2 h3 c0 HM
        generalize wi.setCell ⟨R1 vv, j, none⟩ (.int .i64 1099511627776) = wj at HM1 ⊢
        have c1 := (hG.out.belowA HM1.out.bel).cellh hs
        have e1 := (hG.out.belowA HM1.out.bel).cellv hs hjm
        have h1 := HM1.out.gr.cellh hvv
        have CC := hidA (fun w => rsum_any (Z sw j) sc (hZo.out sw j hs hjm) hsc w)
        obtain ⟨sm, hsm⟩ : ∃ s, sumF (Z sw j) sc = s := ⟨_, rfl⟩
        rw [hsm] at CC HF
        obtain ⟨zz, hzz⟩ : ∃ s, Z sw j = s := ⟨_, rfl⟩
        rw [hzz] at CC e1
        clear hsm hzz
        go_upto_region 10 with (fail)
        go_still_tail 15, (by kernel_rfl)
        still_call ((CC.out _).mono (fun _ _ h => ⟨h.1, h.2.symm⟩))
        repeat still_step
        refine wpStill_nil ?_
        have HM2 := hidA (HM1.out.keep (Below.refl _ _).drew)
        clear c1 e1 h1 HM1 CC
        change wpList _ _ _ _ _ wj.drew
        generalize wj.drew = w2 at HM2 ⊢
        have g1 := HM2.out.gr.cellh hvv
        have g2 := HM2.out.cur hvv hjm
        have g3 := HM2.out.gr.frv hvv j
        go_wp2
        go_roundg (m - (j + 1))
        case rel => exact ⟨j + 1, by omega, rfl, by go_num, (HM2.out.step hvv HF.out.symm).swap⟩
        case measure => omega
      · rw [if_neg (by rw [Bool.and_eq_true]; exact hws)] at HF
        clear hsw
        cases sb
        · go_wp2
          go_roundg (m - (j + 1))
          case rel => exact ⟨j + 1, by omega, rfl, by go_num, HM.out.step hvv HF.out.symm⟩
          case measure => omega
        · cases wh
          · go_wp2
            go_roundg (m - (j + 1))
            case rel => exact ⟨j + 1, by omega, rfl, by go_num, HM.out.step hvv HF.out.symm⟩
            case measure => omega
          · exact absurd ⟨rfl, rfl⟩ hws
    · obtain rfl : j = m := by omega
      go_wp2
      go_ret
      exact GrRet.lift B0.out (GrRet.mk' (HM.out.endAt HF0.out) HM.out.bel)
end Go.Proofs.Ytdcaecpcofencaa

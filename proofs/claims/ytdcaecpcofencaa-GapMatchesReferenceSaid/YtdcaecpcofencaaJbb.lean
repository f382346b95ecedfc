import Derived.Test.YtdcaecpcofencaaJba
import Derived.StillTailTactics
namespace Go.Proofs.Ytdcaecpcofencaa
open Go.RowKit Go.Instr Go.Deep
set_option maxRecDepth 100000
set_option linter.unusedVariables false
set_option linter.unusedSimpArgs false

/-! The reference's follow. -/
theorem MixO.startAt {w wr : World} {b n m : Nat} {R C : Nat → Nat} {Y F : Nat → Nat → Int} (v : Nat) (hF : ∀ i j, i ≠ v → F i j = Y i j) (h : Gr wr w.heap.size b n m R C Y) (hb : Below w.heap.size w wr) : MixO w wr b n m R C F Y v 0 := ⟨h.congr (fun i j _ _ => by
  unfold mix
  split
  · rename_i e
    exact (hF i j (by omega)).symm
  · rfl), hb⟩
theorem MixO.endAt {w wr : World} {b n m v : Nat} {R C : Nat → Nat} {Y F : Nat → Nat → Int} (hF : ∀ i j, i ≠ v → F i j = Y i j) (h : MixO w wr b n m R C F Y v m) : Gr wr w.heap.size b n m R C F := h.gr.congr (fun i j _ hj => by
  unfold mix
  split
  · rfl
  · rename_i e
    exact (hF i j (by omega)).symm)
set_option maxRecDepth 100000 in
set_option maxHeartbeats 1000000 in
theorem rfollow_any (w : World) {lo b n m : Nat} {R C : Nat → Nat} {Z : Nat → Nat → Int} (c : Nat) {lo2 b2 : Nat} {R2 C2 : Nat → Nat} {Y : Nat → Nat → Int} (c2 : Nat) (h : Gr w lo b n m R C Z) (h2 : Gr w lo2 b2 n m R2 C2 Y) (hn : n ≤ 65536) (hm : m ≤ 65536) (x y : Nat) (k : Int) (hx : x < n) (hy : y < n) (hk : -17179869184 ≤ k ∧ k ≤ 17179869184) (hY : Zok n m Y) :
    Calls Try.prog 53 #[.slice (some ⟨b, 0, none⟩) n c, .slice (some ⟨b2, 0, none⟩) n c2, .int .i64 (x : Int), .int .i64 (y : Int), .int .i64 k] w fun e w' => GrRet w.heap.size n m (belowF m Z Y x y k) w e w' := by
  have hG := hidA h
  have hH := hidA h2
  have hYo := hidA hY
  clear h h2 hY
  obtain ⟨F, hFe⟩ : ∃ F, belowF m Z Y x y k = F := ⟨_, rfl⟩
  have HF0 := hidA (show ∀ i j, i ≠ x → F i j = Z i j from fun i j hij => by rw [← hFe]; unfold belowF; rw [if_neg (fun h => hij h.1)])
  have HF1 := hidA (show ∀ j, j < m → F x j = min (Z x j) (sumF (Y y j) k) from fun j hj => by rw [← hFe]; unfold belowF; rw [if_pos ⟨rfl, hj⟩])
  rw [hFe]
  clear hFe
  go_enter Try.func53, Try.ntmps53
  go_upto_region 2 with (go_at_call 27; (with_reducible refine (copy_any _ c hG.out hn hm).mono ?_); rintro e w1 ⟨gb, gc, R1, C1, rfl, hg, hb1⟩)
  have hM := hidA (MixO.startAt x HF0.out hg hb1)
  clear hg hb1
  go_wp2
  go_loopg [11] m (fun g i wx => ∃ j : Nat, j ≤ m ∧ g = m - j ∧ i = .int .i64 j ∧ MixO w wx gb n m R1 C1 F Z x j)
  case atStart => exact ⟨0, Nat.zero_le _, rfl, rfl, hM.out⟩
  case round =>
    clear hM
    obtain ⟨j, hj, rfl, rfl, hM⟩ := hrel
    obtain ⟨wi, rfl⟩ : ∃ wi : World, wi = wr := ⟨_, rfl⟩
    have HM := hidA hM
    clear hM
    have c0 := (hH.out.belowA HM.out.bel).cellh hx
    have hxz : (x : Int) < (n : Int) := by omega
    have hyz : (y : Int) < (n : Int) := by omega
    by_cases hjm : j < m
    · have hjz : (j : Int) < (m : Int) := by omega
      have c2' := (hH.out.belowA HM.out.bel).cellh hy
      have e2 := (hH.out.belowA HM.out.bel).cellv hy hjm
      have h1 := HM.out.gr.cellh hx
      have h2 := HM.out.cur hx hjm
      have h3 := HM.out.gr.frv hx j
      have CS := hidA (fun w => rsum_any (Y y j) k (hYo.out y j hy hjm) hk w)
      have HF := hidA (HF1.out j hjm).symm
      obtain ⟨z, hz⟩ : ∃ s, Z x j = s := ⟨_, rfl⟩
      rw [hz] at h2 HF
      obtain ⟨sm, hs⟩ : ∃ s, sumF (Y y j) k = s := ⟨_, rfl⟩
      rw [hs] at CS HF
      obtain ⟨yy, hyy⟩ : ∃ s, Y y j = s := ⟨_, rfl⟩
      rw [hyy] at CS e2
      have mm := fun ts t (w : World) => run_min2 (P := Try.prog) ts t z sm w
      clear hz hs hyy
      go_upto_region 5 with (fail)
      go_still_tail 23, (by kernel_rfl)
      still_call ((CS.out _).mono (fun _ _ h => ⟨h.1, h.2.symm⟩))
      repeat still_step
      refine wpStill_nil ?_
      have HM1 := hidA (HM.out.keep (Below.refl _ _).drew)
      clear h1 h2 h3 c2' e2 c0 HM CS
      change wpList _ _ _ _ _ wi.drew
      generalize wi.drew = w2 at HM1 ⊢
      have g1 := HM1.out.gr.cellh hx
      have g2 := HM1.out.cur hx hjm
      have g3 := HM1.out.gr.frv hx j
      go_wp2
      go_roundg (m - (j + 1))
      case rel => exact ⟨j + 1, by omega, rfl, by go_num, HM1.out.step hx HF.out⟩
      case measure => omega
    · obtain rfl : j = m := by omega
      go_wp2
      go_ret
      exact GrRet.mk' (HM.out.endAt HF0.out) HM.out.bel
end Go.Proofs.Ytdcaecpcofencaa

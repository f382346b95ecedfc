import Derived.Test.YtdcaecpcofencaaJbd
namespace Go.Proofs.Ytdcaecpcofencaa
open Go.RowKit Go.Instr Go.Deep
set_option maxRecDepth 100000
set_option linter.unusedVariables false
set_option linter.unusedSimpArgs false

/-! The reference's Assume. -/
set_option maxRecDepth 100000 in
set_option maxHeartbeats 2000000 in
theorem rassume_walk (w : World) {lo b n m : Nat} {R C : Nat → Nat} {Z : Nat → Nat → Int} (c : Nat) (h : Gr w lo b n m R C Z) (op : Int) (holds : Bool) (ao an av bo bn bv : Int) (pa pb : Option Addr) (la ca lb cb : Nat) (wa wb sa sb : Bool) (xw yw : Nat) (xc yc : Int) (CA : Hid (∀ W, Below w.heap.size w W → Calls Try.prog 49 #[.agg #[.int .i64 ao, .int .i64 an, .int .i64 av, .slice pa la ca], .int .i64 (n : Int)] W fun e w' => e = .returned (.tuple #[.int .i64 (xw : Int), .int .i64 xc, .bool sa]) ∧ Below W.heap.size W w')) (CB : Hid (∀ W, Below w.heap.size w W → Calls Try.prog 49 #[.agg #[.int .i64 bo, .int .i64 bn, .int .i64 bv, .slice pb lb cb], .int .i64 (n : Int)] W fun e w' => e = .returned (.tuple #[.int .i64 (yw : Int), .int .i64 yc, .bool sb]) ∧ Below W.heap.size W w')) (hx : sa = true → xw < n) (hy : sb = true → yw < n) (hxc : -2147483648 ≤ xc ∧ xc ≤ 2147483648) (hyc : -2147483648 ≤ yc ∧ yc ≤ 2147483648) (hZ : Zok n m Z) (hn : n ≤ 65536) (hm : m ≤ 65536) :
    Calls Try.prog 18 #[.slice (some ⟨b, 0, none⟩) n c, .int .i64 op, .bool holds, .agg #[.int .i64 ao, .int .i64 an, .int .i64 av, .slice pa la ca], .agg #[.int .i64 bo, .int .i64 bn, .int .i64 bv, .slice pb lb cb], .agg #[.bool wa, .bool wb]] w fun e w' => GrRet w.heap.size n m (assumeN m Z op holds (wa && wb && (sa && sb)) xw yw xc yc) w e w' := by
  obtain ⟨w0, hw0⟩ : ∃ w0, (((w.alloc (.cells #[.int .i64 ao, .int .i64 an, .int .i64 av, .slice pa la ca] 34)).alloc (.cells #[.int .i64 bo, .int .i64 bn, .int .i64 bv, .slice pb lb cb] 34)).alloc (.cells #[.bool wa, .bool wb] 26)) = w0 := ⟨_, rfl⟩
  have B0 : Hid (Below w.heap.size w w0) := hidA (by rw [← hw0]; exact ((((Below.refl _ _).alloc (by first | exact Nat.le_refl _ | (simp; done) | (simp; omega) | omega) _).alloc (by first | exact Nat.le_refl _ | (simp; done) | (simp; omega) | omega) _).alloc (by first | exact Nat.le_refl _ | (simp; done) | (simp; omega) | omega) _))
  have hsz : w.heap.size + 1 + 1 < w0.heap.size := by rw [← hw0]; simp
  have PK : Hid (∀ W, Below w0.heap.size w0 W → W.cell? ⟨w.heap.size, 0, none⟩ = some (.int .i64 ao) ∧ W.cell? ⟨w.heap.size, 1, none⟩ = some (.int .i64 an) ∧ W.cell? ⟨w.heap.size, 2, none⟩ = some (.int .i64 av) ∧ W.cell? ⟨w.heap.size, 3, none⟩ = some (.slice pa la ca) ∧ W.cell? ⟨w.heap.size + 1, 0, none⟩ = some (.int .i64 bo) ∧ W.cell? ⟨w.heap.size + 1, 1, none⟩ = some (.int .i64 bn) ∧ W.cell? ⟨w.heap.size + 1, 2, none⟩ = some (.int .i64 bv) ∧ W.cell? ⟨w.heap.size + 1, 3, none⟩ = some (.slice pb lb cb) ∧ W.cell? ⟨w.heap.size + 1 + 1, 0, none⟩ = some (.bool wa) ∧ W.cell? ⟨w.heap.size + 1 + 1, 1, none⟩ = some (.bool wb) ∧ w.heap.size < W.heap.size ∧ w.heap.size + 1 < W.heap.size ∧ w.heap.size + 1 + 1 < W.heap.size) := hidA (fun W hW => ⟨cellA hW (by rw [← hw0]; simp [go_sem]), cellA hW (by rw [← hw0]; simp [go_sem]), cellA hW (by rw [← hw0]; simp [go_sem]), cellA hW (by rw [← hw0]; simp [go_sem]), cellA hW (by rw [← hw0]; simp [go_sem]), cellA hW (by rw [← hw0]; simp [go_sem]), cellA hW (by rw [← hw0]; simp [go_sem]), cellA hW (by rw [← hw0]; simp [go_sem]), cellA hW (by rw [← hw0]; simp [go_sem]), cellA hW (by rw [← hw0]; simp [go_sem]), (by have h0 := hW.size; have h1 := hsz; omega), (by have h0 := hW.size; have h1 := hsz; omega), (by have h0 := hW.size; have h1 := hsz; omega)⟩)
  have Hw := hidA hw0; clear hw0
  have hG := hidA (h.belowA B0.out)
  have hZo := hidA hZ
  clear h hZ
  have hE0 := hidA (show ∀ b, b = (wa && wb && (sa && sb)) → assumeN m Z op holds (wa && wb && (sa && sb)) xw yw xc yc = assumeN m Z op holds b xw yw xc yc from fun b hb => by rw [hb])
  obtain ⟨F, hFe⟩ : ∃ F, assumeN m Z op holds (wa && wb && (sa && sb)) xw yw xc yc = F := ⟨_, rfl⟩
  rw [hFe] at hE0 ⊢
  have HFe := hidA hFe
  clear hFe
  go_enter Try.func18, Try.ntmps18
  go_upto_region 1 with (fail)
  rw [Hw.out]
  clear Hw
  obtain ⟨c0, c1, c2, c3, c4, c5, c6, c7, c8, c9, z0, z1, z2⟩ := PK.out _ (Below.refl _ _)
  go_upto_region 2 with ((go_at_call 49; (with_reducible refine (CA.out _ B0.out).mono ?_); rintro e w1 ⟨rfl, hb1⟩))
  clear c0 c1 c2 c3 c4 c5 c6 c7 c8 c9
  obtain ⟨c0, c1, c2, c3, c4, c5, c6, c7, c8, c9, z0, z1, z2⟩ := PK.out _ hb1
  go_upto_region 3 with ((go_at_call 49; (with_reducible refine (CB.out _ (stepA B0.out hb1)).mono ?_); rintro e w2 ⟨rfl, hb2⟩))
  clear c0 c1 c2 c3 c4 c5 c6 c7 c8 c9
  have hb12 := stepA hb1 hb2
  obtain ⟨c0, c1, c2, c3, c4, c5, c6, c7, c8, c9, z0, z1, z2⟩ := PK.out _ hb12
  have hG2 := hidA (hG.out.belowA hb12)
  have HB := hidA (stepA B0.out hb12)
  clear hG hb1 hb2 hb12 PK CA CB B0
  cases sa
  · obtain rfl : Z = F := by
      rw [← HFe.out]
      first | rfl | (cases wa <;> cases wb <;> rfl) | (cases wb <;> rfl)
    try clear HFe
    go_wp2_with (go_at_call 27; (with_reducible refine (copy_any _ c hG2.out hn hm).mono ?_); rintro e w3 ⟨gb, gc, R1, C1, rfl, hg, hb3⟩)
    go_ret
    exact GrRet.lift HB.out (GrRet.mk' hg hb3)
  cases sb
  · obtain rfl : Z = F := by
      rw [← HFe.out]
      first | rfl | (cases wa <;> cases wb <;> rfl) | (cases wb <;> rfl)
    try clear HFe
    go_wp2_with (go_at_call 27; (with_reducible refine (copy_any _ c hG2.out hn hm).mono ?_); rintro e w3 ⟨gb, gc, R1, C1, rfl, hg, hb3⟩)
    go_ret
    exact GrRet.lift HB.out (GrRet.mk' hg hb3)
  cases wa
  · obtain rfl : Z = F := by
      rw [← HFe.out]
      first | rfl | (cases wa <;> cases wb <;> rfl) | (cases wb <;> rfl)
    try clear HFe
    go_wp2_with (go_at_call 27; (with_reducible refine (copy_any _ c hG2.out hn hm).mono ?_); rintro e w3 ⟨gb, gc, R1, C1, rfl, hg, hb3⟩)
    go_ret
    exact GrRet.lift HB.out (GrRet.mk' hg hb3)
  cases wb
  · obtain rfl : Z = F := by
      rw [← HFe.out]
      first | rfl | (cases wa <;> cases wb <;> rfl) | (cases wb <;> rfl)
    try clear HFe
    go_wp2_with (go_at_call 27; (with_reducible refine (copy_any _ c hG2.out hn hm).mono ?_); rintro e w3 ⟨gb, gc, R1, C1, rfl, hg, hb3⟩)
    go_ret
    exact GrRet.lift HB.out (GrRet.mk' hg hb3)
  have hx1 := hx rfl
  have hy1 := hy rfl
  clear hx hy hE0
  by_cases o2 : op = 2
  · subst o2
    cases holds
    · obtain rfl : belowF m Z Z yw xw (xc - yc) = F := by
        rw [← HFe.out]
        show _ = belowF m Z Z yw xw (xc - yc - 0)
        first | rfl | rw [Int.sub_zero]
      have hF := hidA (rfollow_any _ c c hG2.out hG2.out hn hm yw xw (xc - yc) (by omega) (by omega) (by omega) hZo.out)
      clear HFe
      go_wp2_with (go_at_call 53; (with_reducible refine (hF.out).mono ?_); rintro e w3 ⟨gb, gc, R1, C1, rfl, hg, hb3⟩)
      go_ret
      exact GrRet.lift HB.out (GrRet.mk' hg hb3)
    · obtain rfl : belowF m Z Z xw yw (yc - xc - 1) = F := by
        rw [← HFe.out]
        show _ = belowF m Z Z xw yw (yc - xc - 1)
        first | rfl | rw [Int.sub_zero]
      have hF := hidA (rfollow_any _ c c hG2.out hG2.out hn hm xw yw (yc - xc - 1) (by omega) (by omega) (by omega) hZo.out)
      clear HFe
      go_wp2_with (go_at_call 53; (with_reducible refine (hF.out).mono ?_); rintro e w3 ⟨gb, gc, R1, C1, rfl, hg, hb3⟩)
      go_ret
      exact GrRet.lift HB.out (GrRet.mk' hg hb3)
  have o2' : (op == 2) = false := by simpa using o2
  by_cases o3 : op = 3
  · subst o3
    clear o2 o2'
    cases holds
    · obtain rfl : belowF m Z Z yw xw (xc - yc - 1) = F := by
        rw [← HFe.out]
        show _ = belowF m Z Z yw xw (xc - yc - 1)
        first | rfl | rw [Int.sub_zero]
      have hF := hidA (rfollow_any _ c c hG2.out hG2.out hn hm yw xw (xc - yc - 1) (by omega) (by omega) (by omega) hZo.out)
      clear HFe
      go_wp2_with (go_at_call 53; (with_reducible refine (hF.out).mono ?_); rintro e w3 ⟨gb, gc, R1, C1, rfl, hg, hb3⟩)
      go_ret
      exact GrRet.lift HB.out (GrRet.mk' hg hb3)
    · obtain rfl : belowF m Z Z xw yw (yc - xc) = F := by
        rw [← HFe.out]
        show _ = belowF m Z Z xw yw (yc - xc - 0)
        first | rfl | rw [Int.sub_zero]
      have hF := hidA (rfollow_any _ c c hG2.out hG2.out hn hm xw yw (yc - xc) (by omega) (by omega) (by omega) hZo.out)
      clear HFe
      go_wp2_with (go_at_call 53; (with_reducible refine (hF.out).mono ?_); rintro e w3 ⟨gb, gc, R1, C1, rfl, hg, hb3⟩)
      go_ret
      exact GrRet.lift HB.out (GrRet.mk' hg hb3)
  have o3' : (op == 3) = false := by simpa using o3
  by_cases o4 : op = 4
  · subst o4
    clear o2 o2' o3 o3'
    cases holds
    · obtain rfl : Z = F := by
        rw [← HFe.out]
        first | rfl | (cases wa <;> cases wb <;> rfl) | (cases wb <;> rfl)
      try clear HFe
      go_wp2_with (go_at_call 27; (with_reducible refine (copy_any _ c hG2.out hn hm).mono ?_); rintro e w3 ⟨gb, gc, R1, C1, rfl, hg, hb3⟩)
      go_ret
      exact GrRet.lift HB.out (GrRet.mk' hg hb3)
    · obtain rfl : belowF m (belowF m Z Z xw yw (yc - xc)) Z yw xw (xc - yc) = F := by
        rw [← HFe.out]
        show _ = belowF m (belowF m Z Z xw yw (yc - xc - 0)) Z yw xw (xc - yc - 0)
        rw [Int.sub_zero, Int.sub_zero]
      have hF := hidA (rfollow_any _ c c hG2.out hG2.out hn hm xw yw (yc - xc) (by omega) (by omega) (by omega) hZo.out)
      clear HFe
      go_wp2_with (first | (go_at_call 53; (with_reducible refine (hF.out).mono ?_); rintro e w3 ⟨gb, gc, R1, C1, rfl, hg, hb3⟩) | (go_at_call 53; (with_reducible refine (rfollow_any _ gc c hg (hG2.out.belowA hb3) hn hm yw xw (xc - yc) (by omega) (by omega) (by omega) hZo.out).mono ?_); rintro e w4 ⟨gb2, gc2, R3, C3, rfl, hg4, hb4⟩))
      go_ret
      exact GrRet.lift HB.out (GrRet.mk' (hg4.lo_le hb3.size) (stepA hb3 hb4))
  have o4' : (op == 4) = false := by simpa using o4
  obtain rfl : Z = F := by
    rw [← HFe.out]
    unfold assumeN
    rw [if_neg (by decide), if_neg (fun h => o2 h.1), if_neg o2, if_neg (fun h => o3 h.1), if_neg o3, if_neg (fun h => o4 h.1)]
  clear HFe o2 o3 o4
  go_wp2_with (go_at_call 27; (with_reducible refine (copy_any _ c hG2.out hn hm).mono ?_); rintro e w3 ⟨gb, gc, R1, C1, rfl, hg, hb3⟩)
  go_ret
  exact GrRet.lift HB.out (GrRet.mk' hg hb3)
end Go.Proofs.Ytdcaecpcofencaa

import Derived.Test.YtdcaecpcofencaaJi
namespace Go.Proofs.Ytdcaecpcofencaa
open Go.RowKit Go.Instr Go.Deep
set_option maxRecDepth 100000
set_option linter.unusedVariables false
set_option linter.unusedSimpArgs false

/-! gap.Assume. -/
theorem stepB {w w6 w7 : World} {r : Nat} (h : Below w.heap.size w w6) (hg : w6.grownBy w7 (some r)) (hr : w.heap.size ≤ r) : Below w.heap.size w w7 := h.grown hg h.size (fun k hk => by injection hk with hk; omega)
/-- What Assume gives. -/
def assumeN (m : Nat) (Z : Nat → Nat → Int) (op : Int) (holds ok : Bool) (xw yw : Nat) (xc yc : Int) : Nat → Nat → Int :=
  if ok = false then Z
  else if op = 2 ∧ holds = true then belowF m Z Z xw yw (yc - xc - 1)
  else if op = 2 then belowF m Z Z yw xw (xc - yc - 0)
  else if op = 3 ∧ holds = true then belowF m Z Z xw yw (yc - xc - 0)
  else if op = 3 then belowF m Z Z yw xw (xc - yc - 1)
  else if op = 4 ∧ holds = true then belowF m (belowF m Z Z xw yw (yc - xc - 0)) Z yw xw (xc - yc - 0)
  else Z
set_option maxRecDepth 100000 in
set_option maxHeartbeats 4000000 in
theorem assume_walk (w : World) {lo b n m : Nat} {R C : Nat → Nat} {Z : Nat → Nat → Int} (c : Nat) (h : Gr w lo b n m R C Z) (op : Int) (holds : Bool) (ao an av bo bn bv : Int) (pa pb : Option Addr) (la ca lb cb : Nat) (wa wb sa sb : Bool) (xw yw : Nat) (xc yc : Int) (CA : Hid (∀ W, Below w.heap.size w W → Calls Try.prog 45 #[.agg #[.int .i64 ao, .int .i64 an, .int .i64 av, .slice pa la ca], .int .i64 (n : Int)] W fun e w' => e = .returned (.tuple #[.agg #[.int .i64 (xw : Int), .int .i64 xc], .bool sa]) ∧ Below W.heap.size W w')) (CB : Hid (∀ W, Below w.heap.size w W → Calls Try.prog 45 #[.agg #[.int .i64 bo, .int .i64 bn, .int .i64 bv, .slice pb lb cb], .int .i64 (n : Int)] W fun e w' => e = .returned (.tuple #[.agg #[.int .i64 (yw : Int), .int .i64 yc], .bool sb]) ∧ Below W.heap.size W w')) (hx : sa = true → xw < n) (hy : sb = true → yw < n) (hxc : -2147483648 ≤ xc ∧ xc ≤ 2147483648) (hyc : -2147483648 ≤ yc ∧ yc ≤ 2147483648) (hZ : Zok n m Z) (hn : n ≤ 65536) (hm : m ≤ 65536) :
    Calls Try.prog 17 #[.slice (some ⟨b, 0, none⟩) n c, .int .i64 op, .bool holds, .agg #[.int .i64 ao, .int .i64 an, .int .i64 av, .slice pa la ca], .agg #[.int .i64 bo, .int .i64 bn, .int .i64 bv, .slice pb lb cb], .agg #[.bool wa, .bool wb]] w fun e w' => GrRet w.heap.size n m (assumeN m Z op holds (wa && wb && (sa && sb)) xw yw xc yc) w e w' := by
  obtain ⟨w0, hw0⟩ : ∃ w0, ((((w.alloc (.cells #[.slice (some ⟨b, 0, none⟩) n c] 30)).alloc (.cells #[.int .i64 ao, .int .i64 an, .int .i64 av, .slice pa la ca] 34)).alloc (.cells #[.int .i64 bo, .int .i64 bn, .int .i64 bv, .slice pb lb cb] 34)).alloc (.cells #[.bool wa, .bool wb] 26)) = w0 := ⟨_, rfl⟩
  have B0 : Hid (Below w.heap.size w w0) := hidA (by rw [← hw0]; exact (((((Below.refl _ _).alloc (by first | exact Nat.le_refl _ | (simp; done) | (simp; omega) | omega) _).alloc (by first | exact Nat.le_refl _ | (simp; done) | (simp; omega) | omega) _).alloc (by first | exact Nat.le_refl _ | (simp; done) | (simp; omega) | omega) _).alloc (by first | exact Nat.le_refl _ | (simp; done) | (simp; omega) | omega) _))
  have hsz : w.heap.size + 1 + 1 + 1 < w0.heap.size := by rw [← hw0]; simp
  have PK : Hid (∀ W, Below w0.heap.size w0 W → W.cell? ⟨w.heap.size, 0, none⟩ = some (.slice (some ⟨b, 0, none⟩) n c) ∧ W.cell? ⟨w.heap.size + 1, 0, none⟩ = some (.int .i64 ao) ∧ W.cell? ⟨w.heap.size + 1, 1, none⟩ = some (.int .i64 an) ∧ W.cell? ⟨w.heap.size + 1, 2, none⟩ = some (.int .i64 av) ∧ W.cell? ⟨w.heap.size + 1, 3, none⟩ = some (.slice pa la ca) ∧ W.cell? ⟨w.heap.size + 1 + 1, 0, none⟩ = some (.int .i64 bo) ∧ W.cell? ⟨w.heap.size + 1 + 1, 1, none⟩ = some (.int .i64 bn) ∧ W.cell? ⟨w.heap.size + 1 + 1, 2, none⟩ = some (.int .i64 bv) ∧ W.cell? ⟨w.heap.size + 1 + 1, 3, none⟩ = some (.slice pb lb cb) ∧ W.cell? ⟨w.heap.size + 1 + 1 + 1, 0, none⟩ = some (.bool wa) ∧ W.cell? ⟨w.heap.size + 1 + 1 + 1, 1, none⟩ = some (.bool wb) ∧ w.heap.size < W.heap.size ∧ w.heap.size + 1 < W.heap.size ∧ w.heap.size + 1 + 1 < W.heap.size ∧ w.heap.size + 1 + 1 + 1 < W.heap.size) := hidA (fun W hW => ⟨cellA hW (by rw [← hw0]; simp [go_sem]), cellA hW (by rw [← hw0]; simp [go_sem]), cellA hW (by rw [← hw0]; simp [go_sem]), cellA hW (by rw [← hw0]; simp [go_sem]), cellA hW (by rw [← hw0]; simp [go_sem]), cellA hW (by rw [← hw0]; simp [go_sem]), cellA hW (by rw [← hw0]; simp [go_sem]), cellA hW (by rw [← hw0]; simp [go_sem]), cellA hW (by rw [← hw0]; simp [go_sem]), cellA hW (by rw [← hw0]; simp [go_sem]), cellA hW (by rw [← hw0]; simp [go_sem]), (by have h0 := hW.size; have h1 := hsz; omega), (by have h0 := hW.size; have h1 := hsz; omega), (by have h0 := hW.size; have h1 := hsz; omega), (by have h0 := hW.size; have h1 := hsz; omega)⟩)
  have Hw := hidA hw0; clear hw0
  have hG := hidA (h.belowA B0.out)
  have ltb := h.ltb
  have ltR := hidA (fun i (hi : i < n) => h.ltR hi)
  clear h
  go_enter Try.func17, Try.ntmps17
  go_upto_region 1 with (fail)
  rw [Hw.out]
  clear Hw
  have HS : Hid (Below w0.heap.size w0 w0) := hidA (Below.refl _ _)
  obtain ⟨c0, c1, c2, c3, c4, c5, c6, c7, c8, c9, c10, z0, z1, z2, z3⟩ := PK.out _ HS.out
  go_upto_region 2 with ((go_at_call 45; refine (CA.out _ (stepA B0.out HS.out)).mono ?_; rintro e w1 ⟨rfl, hb⟩; have hs1 := stepA HS.out hb; have HBw1 := hidA hb; clear hb; have HS' := hidA hs1; clear HS hs1; clear c0 c1 c2 c3 c4 c5 c6 c7 c8 c9 c10 z0 z1 z2 z3; have HS := HS'; clear HS'; obtain ⟨c0, c1, c2, c3, c4, c5, c6, c7, c8, c9, c10, z0, z1, z2, z3⟩ := PK.out _ HS.out))
  obtain ⟨gs, hgs⟩ : ∃ d, w1.heap.size = d := ⟨_, rfl⟩
  obtain ⟨w2, hw2⟩ : ∃ w2, w1.alloc (.cells #[.int .i64 (xw : Int), .int .i64 xc] 70) = w2 := ⟨_, rfl⟩
  have B2 : Below w1.heap.size w1 w2 := by rw [← hw2]; exact (Below.refl _ _).alloc (Nat.le_refl _) _
  have S0 : Hid (w2.cell? ⟨gs, 0, none⟩ = some (.int .i64 (xw : Int))) := hidA (by rw [← hw2, ← hgs]; simp [go_sem])
  have S1 : Hid (w2.cell? ⟨gs, 1, none⟩ = some (.int .i64 xc)) := hidA (by rw [← hw2, ← hgs]; simp [go_sem])
  rw [hw2, hgs]
  have hs1 := stepA HS.out B2
  have lgs : gs < w2.heap.size := by rw [← hw2, ← hgs]; simp
  have HBw2 := hidA B2
  clear hw2 B2 hgs
  have HS' := hidA hs1; clear HS hs1; clear c0 c1 c2 c3 c4 c5 c6 c7 c8 c9 c10 z0 z1 z2 z3; have HS := HS'; clear HS'; obtain ⟨c0, c1, c2, c3, c4, c5, c6, c7, c8, c9, c10, z0, z1, z2, z3⟩ := PK.out _ HS.out

  clear HBw1 HBw2
  go_upto_region 3 with ((go_at_call 45; refine (CB.out _ (stepA B0.out HS.out)).mono ?_; rintro e w3 ⟨rfl, hb⟩; have hs1 := stepA HS.out hb; have HBw3 := hidA hb; clear hb; have HS' := hidA hs1; clear HS hs1; clear c0 c1 c2 c3 c4 c5 c6 c7 c8 c9 c10 z0 z1 z2 z3; have HS := HS'; clear HS'; obtain ⟨c0, c1, c2, c3, c4, c5, c6, c7, c8, c9, c10, z0, z1, z2, z3⟩ := PK.out _ HS.out))
  have S0' := hidA (cellA HBw3.out S0.out)
  clear S0
  have S0 := S0'
  clear S0'
  have S1' := hidA (cellA HBw3.out S1.out)
  clear S1
  have S1 := S1'
  clear S1'
  obtain ⟨gt, hgt⟩ : ∃ d, w3.heap.size = d := ⟨_, rfl⟩
  obtain ⟨w4, hw2⟩ : ∃ w2, w3.alloc (.cells #[.int .i64 (yw : Int), .int .i64 yc] 70) = w2 := ⟨_, rfl⟩
  have B2 : Below w3.heap.size w3 w4 := by rw [← hw2]; exact (Below.refl _ _).alloc (Nat.le_refl _) _
  have T0 : Hid (w4.cell? ⟨gt, 0, none⟩ = some (.int .i64 (yw : Int))) := hidA (by rw [← hw2, ← hgt]; simp [go_sem])
  have T1 : Hid (w4.cell? ⟨gt, 1, none⟩ = some (.int .i64 yc)) := hidA (by rw [← hw2, ← hgt]; simp [go_sem])
  have S0' := hidA (cellA B2 S0.out)
  clear S0
  have S0 := S0'
  clear S0'
  have S1' := hidA (cellA B2 S1.out)
  clear S1
  have S1 := S1'
  clear S1'
  rw [hw2, hgt]
  have hs1 := stepA HS.out B2
  have lgt : gt < w4.heap.size := by rw [← hw2, ← hgt]; simp
  have HBw4 := hidA B2
  clear hw2 B2 hgt
  have HS' := hidA hs1; clear HS hs1; clear c0 c1 c2 c3 c4 c5 c6 c7 c8 c9 c10 z0 z1 z2 z3; have HS := HS'; clear HS'; obtain ⟨c0, c1, c2, c3, c4, c5, c6, c7, c8, c9, c10, z0, z1, z2, z3⟩ := PK.out _ HS.out

  have lgs2 : gs < w4.heap.size := Nat.lt_of_lt_of_le (Nat.lt_of_lt_of_le lgs HBw3.out.size) HBw4.out.size
  clear HBw3 HBw4 lgs
  have hG4 := hidA (hG.out.belowA HS.out)
  have H4 := hidA HS.out
  go_upto_region 4 with ((go_at_call 51; refine (copied_any w4 c hG4.out hn hm).mono ?_; rintro e w5 ⟨br, cr, Rr, Cr, rfl, hr, hb⟩; have hs1 := stepA HS.out hb; have HBw5 := hidA hb; have HR5 := hidA hr; clear hb hr; have HS' := hidA hs1; clear HS hs1; clear c0 c1 c2 c3 c4 c5 c6 c7 c8 c9 c10 z0 z1 z2 z3; have HS := HS'; clear HS'; obtain ⟨c0, c1, c2, c3, c4, c5, c6, c7, c8, c9, c10, z0, z1, z2, z3⟩ := PK.out _ HS.out))
  clear c1 c2 c3 c4 c5 c6 c7 c8 z1 z2 z3
  have LO : Hid (w.heap.size ≤ w4.heap.size) := hidA (Nat.le_trans B0.out.size H4.out.size)
  have lw4 : w.heap.size < w4.heap.size := Nat.lt_of_lt_of_le (by omega : w.heap.size < w0.heap.size) H4.out.size
  have hb5 := HBw5.out.size
  obtain ⟨gr, hgr0⟩ : ∃ d, w5.heap.size = d := ⟨_, rfl⟩
  obtain ⟨w6, hw6⟩ : ∃ w2, ((w5.alloc (.cells #[.slice (some ⟨br, 0, none⟩) n cr] 30)).alloc (.cells #[.bool true, .bool true] 26)) = w2 := ⟨_, rfl⟩
  have B5 : Below w5.heap.size w5 w6 := by rw [← hw6]; exact ((Below.refl _ _).alloc (Nat.le_refl _) _).alloc (by simp) _
  have R0 : w6.cell? ⟨gr, 0, none⟩ = some (.slice (some ⟨br, 0, none⟩) n cr) := by rw [← hw6, ← hgr0]; simp [go_sem]
  have Q0 : w6.cell? ⟨gr + 1, 0, none⟩ = some (.bool true) := by rw [← hw6, ← hgr0]; simp [go_sem]
  have Q1 : w6.cell? ⟨gr + 1, 1, none⟩ = some (.bool true) := by rw [← hw6, ← hgr0]; simp [go_sem]
  rw [hw6, hgr0]
  have B6 : Hid (Below w.heap.size w w6) := hidA (stepA B0.out (stepA HS.out B5))
  have S0 := cellA B5 (cellA HBw5.out S0.out)
  have S1 := cellA B5 (cellA HBw5.out S1.out)
  have T0 := cellA B5 (cellA HBw5.out T0.out)
  have T1 := cellA B5 (cellA HBw5.out T1.out)
  have c0 := cellA B5 c0
  have c9 := cellA B5 c9
  have c10 := cellA B5 c10
  have HR := hidA (HR5.out.belowA B5)
  have HG := hidA (hG.out.belowA (stepA HS.out B5))
  have N5 : ∀ x, x < n → w.heap.size ≤ Rr x := fun x hx => Nat.le_trans LO.out (HR.out.row x hx).1
  have N1 : ∀ x, x < n → gr ≠ Rr x := fun x hx => by have := HR5.out.ltR hx; omega
  have N2 : ∀ x, x < n → w.heap.size ≠ Rr x := fun x hx => by have := (HR.out.row x hx).1; omega
  have N3 : ∀ x, x < n → b ≠ Rr x := fun x hx => by have := (HR.out.row x hx).1; omega
  have N4 : ∀ x, x < n → ∀ i, i < n → R i ≠ Rr x := fun x hx i hi => by have := (HR.out.row x hx).1; have := ltR.out i hi; omega
  have N6 : ∀ x, x < n → gs ≠ Rr x := fun x hx => by have := (HR.out.row x hx).1; omega
  have N7 : ∀ x, x < n → gt ≠ Rr x := fun x hx => by have := (HR.out.row x hx).1; omega
  clear hw6 hgr0 B5 HBw5 HR5 HS PK hG hG4 H4 hb5 lw4 lgt lgs2 z0 hsz B0 ltb ltR
  obtain ⟨q1, hq1⟩ : ∃ q, (wa && wb) = q := ⟨_, rfl⟩
  obtain ⟨q2, hq2⟩ : ∃ q, (sa && sb) = q := ⟨_, rfl⟩
  have E1 : ∀ w, (Op.equalIn 10000 26 (.agg #[.bool wa, .bool wb]) (.agg #[.bool true, .bool true])).run Try.prog w = .ok q1 w := fun w => by rw [equal_b2, ← hq1]; cases wa <;> cases wb <;> rfl
  have E2 : ∀ w, (Op.equalIn 10000 26 (.agg #[.bool sa, .bool sb]) (.agg #[.bool true, .bool true])).run Try.prog w = .ok q2 w := fun w => by rw [equal_b2, ← hq2]; cases sa <;> cases sb <;> rfl
  have HQ1 := hidA hq1
  have HQ := hidA hq2
  clear hq1 hq2
  cases q1
  · have FN : Hid (assumeN m Z op holds (wa && wb && (sa && sb)) xw yw xc yc = Z) := hidA (by rw [HQ1.out, HQ.out]; simp [assumeN])
    go_wp2
    go_ret
    exact ⟨br, cr, Rr, Cr, rfl, (HR.out.lo_le LO.out).congr (fun i j _ _ => by rw [FN.out]), B6.out⟩
  · cases q2
    · have FN : Hid (assumeN m Z op holds (wa && wb && (sa && sb)) xw yw xc yc = Z) := hidA (by rw [HQ1.out, HQ.out]; simp [assumeN])
      go_wp2
      go_ret
      exact ⟨br, cr, Rr, Cr, rfl, (HR.out.lo_le LO.out).congr (fun i j _ _ => by rw [FN.out]), B6.out⟩
    · have hx' : xw < n := hx (by have := HQ.out; simp at this; exact this.1)
      have hy' : yw < n := hy (by have := HQ.out; simp at this; exact this.2)
      clear hx hy
      by_cases e2 : op = 2
      · have b2 : (op == 2) = true := by simpa using e2
        cases holds
        · have FN : Hid (assumeN m Z op false (wa && wb && (sa && sb)) xw yw xc yc = belowF m Z Z yw xw (xc - yc - 0)) := hidA (by rw [HQ1.out, HQ.out]; simp [assumeN, e2])
          clear e2
          go_wp2_with (go_at_call 52; refine (assume1 w6 cr HR.out c HG.out gr w.heap.size yw xw yc xc 0 R0 c0 hy' hx' (N1 yw hy') (N2 yw hy') (N3 yw hy') (fun i hi => N4 yw hy' i hi) hn hm hZ hyc hxc (by omega)).mono ?_; rintro e w7 ⟨rfl, hgr, hr7⟩; have r7 := hgr.cell R0 (fun e => N1 yw hy' (Option.some.inj e)))
          go_ret
          exact ⟨br, cr, Rr, Cr, rfl, (hr7.lo_le LO.out).congr (fun i j _ _ => by rw [FN.out]), stepB B6.out hgr (N5 yw hy')⟩
        · have FN : Hid (assumeN m Z op true (wa && wb && (sa && sb)) xw yw xc yc = belowF m Z Z xw yw (yc - xc - 1)) := hidA (by rw [HQ1.out, HQ.out]; simp [assumeN, e2])
          clear e2
          go_wp2_with (go_at_call 52; refine (assume1 w6 cr HR.out c HG.out gr w.heap.size xw yw xc yc 1 R0 c0 hx' hy' (N1 xw hx') (N2 xw hx') (N3 xw hx') (fun i hi => N4 xw hx' i hi) hn hm hZ hxc hyc (by omega)).mono ?_; rintro e w7 ⟨rfl, hgr, hr7⟩; have r7 := hgr.cell R0 (fun e => N1 xw hx' (Option.some.inj e)))
          go_ret
          exact ⟨br, cr, Rr, Cr, rfl, (hr7.lo_le LO.out).congr (fun i j _ _ => by rw [FN.out]), stepB B6.out hgr (N5 xw hx')⟩
      · have b2 : (op == 2) = false := by simpa using e2
        by_cases e3 : op = 3
        · have b3 : (op == 3) = true := by simpa using e3
          cases holds
          · have FN : Hid (assumeN m Z op false (wa && wb && (sa && sb)) xw yw xc yc = belowF m Z Z yw xw (xc - yc - 1)) := hidA (by rw [HQ1.out, HQ.out]; simp [assumeN, e3])
            clear e2 e3
            go_wp2_with (go_at_call 52; refine (assume1 w6 cr HR.out c HG.out gr w.heap.size yw xw yc xc 1 R0 c0 hy' hx' (N1 yw hy') (N2 yw hy') (N3 yw hy') (fun i hi => N4 yw hy' i hi) hn hm hZ hyc hxc (by omega)).mono ?_; rintro e w7 ⟨rfl, hgr, hr7⟩; have r7 := hgr.cell R0 (fun e => N1 yw hy' (Option.some.inj e)))
            go_ret
            exact ⟨br, cr, Rr, Cr, rfl, (hr7.lo_le LO.out).congr (fun i j _ _ => by rw [FN.out]), stepB B6.out hgr (N5 yw hy')⟩
          · have FN : Hid (assumeN m Z op true (wa && wb && (sa && sb)) xw yw xc yc = belowF m Z Z xw yw (yc - xc - 0)) := hidA (by rw [HQ1.out, HQ.out]; simp [assumeN, e3])
            clear e2 e3
            go_wp2_with (go_at_call 52; refine (assume1 w6 cr HR.out c HG.out gr w.heap.size xw yw xc yc 0 R0 c0 hx' hy' (N1 xw hx') (N2 xw hx') (N3 xw hx') (fun i hi => N4 xw hx' i hi) hn hm hZ hxc hyc (by omega)).mono ?_; rintro e w7 ⟨rfl, hgr, hr7⟩; have r7 := hgr.cell R0 (fun e => N1 xw hx' (Option.some.inj e)))
            go_ret
            exact ⟨br, cr, Rr, Cr, rfl, (hr7.lo_le LO.out).congr (fun i j _ _ => by rw [FN.out]), stepB B6.out hgr (N5 xw hx')⟩
        · have b3 : (op == 3) = false := by simpa using e3
          by_cases e4 : op = 4
          · have b4 : (op == 4) = true := by simpa using e4
            cases holds
            · have FN : Hid (assumeN m Z op false (wa && wb && (sa && sb)) xw yw xc yc = Z) := hidA (by rw [HQ1.out, HQ.out]; simp [assumeN, e4])
              clear e2 e3 e4
              go_wp2
              go_ret
              exact ⟨br, cr, Rr, Cr, rfl, (HR.out.lo_le LO.out).congr (fun i j _ _ => by rw [FN.out]), B6.out⟩
            · have FN : Hid (assumeN m Z op true (wa && wb && (sa && sb)) xw yw xc yc = belowF m (belowF m Z Z xw yw (yc - xc - 0)) Z yw xw (xc - yc - 0)) := hidA (by rw [HQ1.out, HQ.out]; simp [assumeN, e4])
              clear e2 e3 e4
              go_upto_region 17 with ((go_at_call 52; refine (assume1 w6 cr HR.out c HG.out gr w.heap.size xw yw xc yc 0 R0 c0 hx' hy' (N1 xw hx') (N2 xw hx') (N3 xw hx') (fun i hi => N4 xw hx' i hi) hn hm hZ hxc hyc (by omega)).mono ?_; rintro e w7 ⟨rfl, hgr, hr7⟩; have r7 := hgr.cell R0 (fun e => N1 xw hx' (Option.some.inj e)); have c7 := hgr.cell c0 (fun e => N2 xw hx' (Option.some.inj e)); have s70 := hgr.cell S0 (fun e => N6 xw hx' (Option.some.inj e)); have s71 := hgr.cell S1 (fun e => N6 xw hx' (Option.some.inj e)); have t70 := hgr.cell T0 (fun e => N7 xw hx' (Option.some.inj e)); have t71 := hgr.cell T1 (fun e => N7 xw hx' (Option.some.inj e)); have HG7 := hidA (HG.out.grown hgr (N3 xw hx') (fun i hi => N4 xw hx' i hi)); have HR7 := hidA hr7; have GR7 := hidA hgr; clear hr7 hgr; clear R0 c0 S0 S1 T0 T1))
              go_wp2_with (go_at_call 52; refine (assume1 w7 cr HR7.out c HG7.out gr w.heap.size yw xw yc xc 0 r7 c7 hy' hx' (N1 yw hy') (N2 yw hy') (N3 yw hy') (fun i hi => N4 yw hy' i hi) hn hm hZ hyc hxc (by omega)).mono ?_; rintro e w8 ⟨rfl, hgr, hr8⟩; have r8 := hgr.cell r7 (fun e => N1 yw hy' (Option.some.inj e)))
              go_ret
              exact ⟨br, cr, Rr, Cr, rfl, (hr8.lo_le LO.out).congr (fun i j _ _ => by rw [FN.out]), stepB (stepB B6.out GR7.out (N5 xw hx')) hgr (N5 yw hy')⟩
          · have b4 : (op == 4) = false := by simpa using e4
            have FN : Hid (assumeN m Z op holds (wa && wb && (sa && sb)) xw yw xc yc = Z) := hidA (by rw [HQ1.out, HQ.out]; simp [assumeN, e2, e3, e4])
            clear e2 e3 e4
            go_wp2
            go_ret
            exact ⟨br, cr, Rr, Cr, rfl, (HR.out.lo_le LO.out).congr (fun i j _ _ => by rw [FN.out]), B6.out⟩

end Go.Proofs.Ytdcaecpcofencaa

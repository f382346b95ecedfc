import Derived.Test.YtpfcfaakdhamlaaJas
namespace Go.Proofs.Ytpfcfaakdhamlaa
open Go.RowKit Go.Instr Go.Deep
set_option maxRecDepth 100000
set_option linter.unusedVariables false
set_option linter.unusedSimpArgs false

/-! GapAssumes' walk. -/
set_option maxRecDepth 100000 in
set_option maxHeartbeats 8000000 in
theorem assumes_walk (w : World) (xa xb : Nat) (hxa : xa < 256) (hxb : xb < 256) (lx : List Int) (ox : Option Addr) (nx kx : Nat) (Lx : lx.length = nx) (hlx : intsIn w lx (.slice ox nx kx)) (lv : List Int) (ov : Option Addr) (nv kv : Nat) (Lv : lv.length = nv) (hlv : kIn .i32 w lv (.slice ov nv kv)) (hv32 : ∀ i, -2147483648 ≤ lv.getD i 0 ∧ lv.getD i 0 ≤ 2147483647) (lm : List Int) (om : Option Addr) (nm km : Nat) (Lm : lm.length = nm) (hlm : kIn .u8 w lm (.slice om nm km)) (hm8 : ∀ i, 0 ≤ lm.getD i 0 ∧ lm.getD i 0 ≤ 255) (op v x u c d : Int) (f0 f1 : Nat) (hd wa wb : Bool) (hf0 : f0 < 256) (hf1 : f1 < 256) :
    Calls Try.prog 5 #[.agg #[.int .u8 (xa : Int), .int .u8 (xb : Int), .slice ox nx kx, .slice ov nv kv, .slice om nm km], .agg #[.int .i64 op, .int .i64 v, .int .i64 x, .int .i64 u, .int .i64 c, .int .i64 d, .int .u8 (f0 : Int), .int .u8 (f1 : Int), .bool hd, .bool wa, .bool wb]] w fun e w' => e = .returned (.bool true) ∧ Below w.heap.size w w' := by
  obtain ⟨w0, hw0⟩ : ∃ w0, ((w.alloc (.cells #[.int .u8 (xa : Int), .int .u8 (xb : Int), .slice ox nx kx, .slice ov nv kv, .slice om nm km] 49)).alloc (.cells #[.int .i64 op, .int .i64 v, .int .i64 x, .int .i64 u, .int .i64 c, .int .i64 d, .int .u8 (f0 : Int), .int .u8 (f1 : Int), .bool hd, .bool wa, .bool wb] 28)) = w0 := ⟨_, rfl⟩
  have B0 : Hid (Below w.heap.size w w0) := hidA (by rw [← hw0]; exact (((Below.refl _ _).alloc (by first | exact Nat.le_refl _ | (simp; done) | (simp; omega) | omega) _).alloc (by first | exact Nat.le_refl _ | (simp; done) | (simp; omega) | omega) _))
  have hsz : w.heap.size + 1 < w0.heap.size := by rw [← hw0]; simp
  have PK : Hid (∀ W, Below w0.heap.size w0 W → W.cell? ⟨w.heap.size, 0, none⟩ = some (.int .u8 (xa : Int)) ∧ W.cell? ⟨w.heap.size, 1, none⟩ = some (.int .u8 (xb : Int)) ∧ W.cell? ⟨w.heap.size, 2, none⟩ = some (.slice ox nx kx) ∧ W.cell? ⟨w.heap.size, 3, none⟩ = some (.slice ov nv kv) ∧ W.cell? ⟨w.heap.size, 4, none⟩ = some (.slice om nm km) ∧ W.cell? ⟨w.heap.size + 1, 0, none⟩ = some (.int .i64 op) ∧ W.cell? ⟨w.heap.size + 1, 1, none⟩ = some (.int .i64 v) ∧ W.cell? ⟨w.heap.size + 1, 2, none⟩ = some (.int .i64 x) ∧ W.cell? ⟨w.heap.size + 1, 3, none⟩ = some (.int .i64 u) ∧ W.cell? ⟨w.heap.size + 1, 4, none⟩ = some (.int .i64 c) ∧ W.cell? ⟨w.heap.size + 1, 5, none⟩ = some (.int .i64 d) ∧ W.cell? ⟨w.heap.size + 1, 6, none⟩ = some (.int .u8 (f0 : Int)) ∧ W.cell? ⟨w.heap.size + 1, 7, none⟩ = some (.int .u8 (f1 : Int)) ∧ W.cell? ⟨w.heap.size + 1, 8, none⟩ = some (.bool hd) ∧ W.cell? ⟨w.heap.size + 1, 9, none⟩ = some (.bool wa) ∧ W.cell? ⟨w.heap.size + 1, 10, none⟩ = some (.bool wb) ∧ w.heap.size < W.heap.size ∧ w.heap.size + 1 < W.heap.size) := hidA (fun W hW => ⟨cellA hW (by rw [← hw0]; simp [go_sem]), cellA hW (by rw [← hw0]; simp [go_sem]), cellA hW (by rw [← hw0]; simp [go_sem]), cellA hW (by rw [← hw0]; simp [go_sem]), cellA hW (by rw [← hw0]; simp [go_sem]), cellA hW (by rw [← hw0]; simp [go_sem]), cellA hW (by rw [← hw0]; simp [go_sem]), cellA hW (by rw [← hw0]; simp [go_sem]), cellA hW (by rw [← hw0]; simp [go_sem]), cellA hW (by rw [← hw0]; simp [go_sem]), cellA hW (by rw [← hw0]; simp [go_sem]), cellA hW (by rw [← hw0]; simp [go_sem]), cellA hW (by rw [← hw0]; simp [go_sem]), cellA hW (by rw [← hw0]; simp [go_sem]), cellA hW (by rw [← hw0]; simp [go_sem]), cellA hW (by rw [← hw0]; simp [go_sem]), (by have h0 := hW.size; have h1 := hsz; omega), (by have h0 := hW.size; have h1 := hsz; omega)⟩)
  have Hw := hidA hw0; clear hw0
  have FRW : Hid (∀ W, Below w0.heap.size w0 W → ∀ i, W.frozen? ⟨w.heap.size + 1, i, none⟩ = false) := hidA (fun W hW i => (hW.frozen (p := ⟨w.heap.size + 1, i, none⟩) hsz).trans (by rw [← Hw.out]; simp [go_sem]))
  have Ix := hidA (intsIn_below B0.out hlx)
  have Kv := hidA (kIn_below B0.out hlv)
  have Km := hidA (kIn_below B0.out hlm)
  clear hlx hlv hlm
  go_enter Try.func5, Try.ntmps5
  go_upto_region 1 with (fail)
  rw [Hw.out]
  clear Hw
  obtain ⟨c0, c1, c2, c3, c4, c5, c6, c7, c8, c9, c10, c11, c12, c13, c14, c15, z0, z1⟩ := PK.out _ (Below.refl _ _)
  have FR := hidA (FRW.out _ (Below.refl _ _))
  have HB := B0
  clear PK FRW B0 hsz z0 z1
  obtain ⟨n, hn'⟩ : ∃ n, varsN xa = n := ⟨_, rfl⟩
  obtain ⟨m, hm'⟩ : ∃ m, parN xa xb = m := ⟨_, rfl⟩
  have n5 : n ≤ 5 := by rw [← hn']; exact (varsN_bd xa).2
  have n1 : 1 ≤ n := by rw [← hn']; exact (varsN_bd xa).1
  have m3 : m ≤ 3 := by rw [← hm']; exact (parN_bd xa xb).1
  have hmn := hidA (show m ≤ n by rw [← hm', ← hn']; exact (parN_bd xa xb).2)
  have hn := hidA hn'
  have hm := hidA hm'
  clear hn' hm'
  obtain ⟨V, eV⟩ : ∃ V, valsL n lv = V := ⟨_, rfl⟩
  have LW := hidA (show V.length = n by rw [← eV]; exact valsL_len n lv)
  have HW32 := hidA (show ∀ i, -2147483648 ≤ V.getD i 0 ∧ V.getD i 0 ≤ 2147483647 by rw [← eV]; exact valsL_bd n hv32)
  obtain ⟨K, eK⟩ : ∃ K, tightZ V lm m = K := ⟨_, rfl⟩
  have HK := hidA (show hasB n m K (fun i => V.getD i 0) = true by rw [← eK]; exact tight_has HW32.out hm8)
  have OK := hidA (show Zok n m K by rw [← eK]; exact tight_ok n m HW32.out hm8)
  have HVe := hidA eV
  have HKe := hidA eK
  have hv32 := hidA hv32
  have hm8 := hidA hm8
  have Lx := hidA Lx
  have Lv := hidA Lv
  have Lm := hidA Lm
  clear eV eK
  go_upto_region 4 with ((go_at_call 9; (with_reducible refine (examples_any _).mono ?_); rintro e w1 ⟨rfl, hb⟩; have Kv' := hidA (kIn_below hb Kv.out); clear Kv; have Kv := Kv'; clear Kv'; have Km' := hidA (kIn_below hb Km.out); clear Km; have Km := Km'; clear Km'; have FR' := hidA (fun i => ((hb.frozen (p := ⟨w.heap.size + 1, i, none⟩) (by have h := World.block_lt_of_cell? _ _ c5; exact h)).trans (FR.out i))); clear FR; have FR := FR'; clear FR'; have HB' := hidA (stepA HB.out hb); clear HB; have HB := HB'; clear HB'; have c0' := cellA hb c0; clear c0; have c0 := c0'; clear c0'; have c1' := cellA hb c1; clear c1; have c1 := c1'; clear c1'; have c2' := cellA hb c2; clear c2; have c2 := c2'; clear c2'; have c3' := cellA hb c3; clear c3; have c3 := c3'; clear c3'; have c4' := cellA hb c4; clear c4; have c4 := c4'; clear c4'; have c5' := cellA hb c5; clear c5; have c5 := c5'; clear c5'; have c6' := cellA hb c6; clear c6; have c6 := c6'; clear c6'; have c7' := cellA hb c7; clear c7; have c7 := c7'; clear c7'; have c8' := cellA hb c8; clear c8; have c8 := c8'; clear c8'; have c9' := cellA hb c9; clear c9; have c9 := c9'; clear c9'; have c10' := cellA hb c10; clear c10; have c10 := c10'; clear c10'; have c11' := cellA hb c11; clear c11; have c11 := c11'; clear c11'; have c12' := cellA hb c12; clear c12; have c12 := c12'; clear c12'; have c13' := cellA hb c13; clear c13; have c13 := c13'; clear c13'; have c14' := cellA hb c14; clear c14; have c14 := c14'; clear c14'; have c15' := cellA hb c15; clear c15; have c15 := c15'; clear c15'; have Ix' := hidA (intsIn_below hb Ix.out); clear Ix; have Ix := Ix'; clear Ix'; clear hb))
  go_upto_region 5 with ((go_at_call 10; (with_reducible refine ((made3 hn.out hm.out _ hxa hxb lx ox nx kx Lx.out Ix.out rfl)).mono ?_); rintro e w2 ⟨bg, cg, Rg, Cg, rfl, hg, hb⟩; have Kv' := hidA (kIn_below hb Kv.out); clear Kv; have Kv := Kv'; clear Kv'; have Km' := hidA (kIn_below hb Km.out); clear Km; have Km := Km'; clear Km'; have FR' := hidA (fun i => ((hb.frozen (p := ⟨w.heap.size + 1, i, none⟩) (by have h := World.block_lt_of_cell? _ _ c5; exact h)).trans (FR.out i))); clear FR; have FR := FR'; clear FR'; have HB' := hidA (stepA HB.out hb); clear HB; have HB := HB'; clear HB'; have c0' := cellA hb c0; clear c0; have c0 := c0'; clear c0'; have c1' := cellA hb c1; clear c1; have c1 := c1'; clear c1'; have c2' := cellA hb c2; clear c2; have c2 := c2'; clear c2'; have c3' := cellA hb c3; clear c3; have c3 := c3'; clear c3'; have c4' := cellA hb c4; clear c4; have c4 := c4'; clear c4'; have c5' := cellA hb c5; clear c5; have c5 := c5'; clear c5'; have c6' := cellA hb c6; clear c6; have c6 := c6'; clear c6'; have c7' := cellA hb c7; clear c7; have c7 := c7'; clear c7'; have c8' := cellA hb c8; clear c8; have c8 := c8'; clear c8'; have c9' := cellA hb c9; clear c9; have c9 := c9'; clear c9'; have c10' := cellA hb c10; clear c10; have c10 := c10'; clear c10'; have c11' := cellA hb c11; clear c11; have c11 := c11'; clear c11'; have c12' := cellA hb c12; clear c12; have c12 := c12'; clear c12'; have c13' := cellA hb c13; clear c13; have c13 := c13'; clear c13'; have c14' := cellA hb c14; clear c14; have c14 := c14'; clear c14'; have c15' := cellA hb c15; clear c15; have c15 := c15'; clear c15'; have Ix' := hidA (intsIn_below hb Ix.out); clear Ix; have Ix := Ix'; clear Ix'; clear hb; have Hg := hidA hg; clear hg))
  go_upto_region 6 with ((go_at_call 31; (with_reducible refine (values_any _ bg n cg n5 lv ov nv kv Lv.out Kv.out hv32.out).mono ?_); rintro e w3 ⟨gv, cv, rfl, hgv, hi, hb⟩; have hgv1 : w.heap.size + 1 < w2.heap.size := World.block_lt_of_cell? _ _ c5; have Kv' := hidA (kIn_below hb Kv.out); clear Kv; have Kv := Kv'; clear Kv'; have Km' := hidA (kIn_below hb Km.out); clear Km; have Km := Km'; clear Km'; have FR' := hidA (fun i => ((hb.frozen (p := ⟨w.heap.size + 1, i, none⟩) (by have h := World.block_lt_of_cell? _ _ c5; exact h)).trans (FR.out i))); clear FR; have FR := FR'; clear FR'; have HB' := hidA (stepA HB.out hb); clear HB; have HB := HB'; clear HB'; have Hg' := hidA (Hg.out.belowA hb); clear Hg; have Hg := Hg'; clear Hg'; have c0' := cellA hb c0; clear c0; have c0 := c0'; clear c0'; have c1' := cellA hb c1; clear c1; have c1 := c1'; clear c1'; have c2' := cellA hb c2; clear c2; have c2 := c2'; clear c2'; have c3' := cellA hb c3; clear c3; have c3 := c3'; clear c3'; have c4' := cellA hb c4; clear c4; have c4 := c4'; clear c4'; have c5' := cellA hb c5; clear c5; have c5 := c5'; clear c5'; have c6' := cellA hb c6; clear c6; have c6 := c6'; clear c6'; have c7' := cellA hb c7; clear c7; have c7 := c7'; clear c7'; have c8' := cellA hb c8; clear c8; have c8 := c8'; clear c8'; have c9' := cellA hb c9; clear c9; have c9 := c9'; clear c9'; have c10' := cellA hb c10; clear c10; have c10 := c10'; clear c10'; have c11' := cellA hb c11; clear c11; have c11 := c11'; clear c11'; have c12' := cellA hb c12; clear c12; have c12 := c12'; clear c12'; have c13' := cellA hb c13; clear c13; have c13 := c13'; clear c13'; have c14' := cellA hb c14; clear c14; have c14 := c14'; clear c14'; have c15' := cellA hb c15; clear c15; have c15 := c15'; clear c15'; have Ix' := hidA (intsIn_below hb Ix.out); clear Ix; have Ix := Ix'; clear Ix'; clear hb; rw [HVe.out] at hi; have Iw := hidA hi; clear hi))
  have gvn : w.heap.size + 1 ≠ gv := by omega
  have lok : w.heap.size + 1 < w3.heap.size := World.block_lt_of_cell? _ _ c5
  clear hgv hgv1
  go_upto_region 7 with ((go_at_call 32; (with_reducible refine ((tight_any _ cg Hg.out n5 m3 hmn.out V (some ⟨gv, 0, none⟩) cv Iw.out LW.out HW32.out lm om nm km Lm.out Km.out hm8.out)).mono ?_); rintro e w4 ⟨bk, ck, Rk, Ck, rfl, hg, hb⟩; have Kv' := hidA (kIn_below hb Kv.out); clear Kv; have Kv := Kv'; clear Kv'; have Km' := hidA (kIn_below hb Km.out); clear Km; have Km := Km'; clear Km'; have FR' := hidA (fun i => ((hb.frozen (p := ⟨w.heap.size + 1, i, none⟩) (by have h := World.block_lt_of_cell? _ _ c5; exact h)).trans (FR.out i))); clear FR; have FR := FR'; clear FR'; have HB' := hidA (stepA HB.out hb); clear HB; have HB := HB'; clear HB'; have Hg' := hidA (Hg.out.belowA hb); clear Hg; have Hg := Hg'; clear Hg'; have c0' := cellA hb c0; clear c0; have c0 := c0'; clear c0'; have c1' := cellA hb c1; clear c1; have c1 := c1'; clear c1'; have c2' := cellA hb c2; clear c2; have c2 := c2'; clear c2'; have c3' := cellA hb c3; clear c3; have c3 := c3'; clear c3'; have c4' := cellA hb c4; clear c4; have c4 := c4'; clear c4'; have c5' := cellA hb c5; clear c5; have c5 := c5'; clear c5'; have c6' := cellA hb c6; clear c6; have c6 := c6'; clear c6'; have c7' := cellA hb c7; clear c7; have c7 := c7'; clear c7'; have c8' := cellA hb c8; clear c8; have c8 := c8'; clear c8'; have c9' := cellA hb c9; clear c9; have c9 := c9'; clear c9'; have c10' := cellA hb c10; clear c10; have c10 := c10'; clear c10'; have c11' := cellA hb c11; clear c11; have c11 := c11'; clear c11'; have c12' := cellA hb c12; clear c12; have c12 := c12'; clear c12'; have c13' := cellA hb c13; clear c13; have c13 := c13'; clear c13'; have c14' := cellA hb c14; clear c14; have c14 := c14'; clear c14'; have c15' := cellA hb c15; clear c15; have c15 := c15'; clear c15'; have Ix' := hidA (intsIn_below hb Ix.out); clear Ix; have Ix := Ix'; clear Ix'; have Iw' := hidA (intsIn_below hb Iw.out); clear Iw; have Iw := Iw'; clear Iw'; clear hb; have Hk := hidA hg; clear hg; rw [HKe.out] at Hk))
  have Hk' := hidA (Hk.out.lo_le (lo' := w.heap.size + 1 + 1) (by omega))
  clear Hk
  have Hk := Hk'
  clear Hk' lok Hg Ix Kv Km HVe HKe hv32 hm8 Lx Lv Lm hn hm c0 c1 c2 c3 c4
  go_upto_region 8 with ((go_at_call 33; (with_reducible refine (clipped_any op v x u c d f0 f1 hd wa wb n n1 n5 _).mono ?_); rintro e w5 ⟨⟨v1, x1, u1, m1, m2, m3', rfl⟩, hb⟩; have FR' := hidA (fun i => ((hb.frozen (p := ⟨w.heap.size + 1, i, none⟩) (by have h := World.block_lt_of_cell? _ _ c5; exact h)).trans (FR.out i))); clear FR; have FR := FR'; clear FR'; have HB' := hidA (stepA HB.out hb); clear HB; have HB := HB'; clear HB'; have Hk' := hidA (Hk.out.belowA hb); clear Hk; have Hk := Hk'; clear Hk'; have c5' := cellA hb c5; clear c5; have c5 := c5'; clear c5'; have c6' := cellA hb c6; clear c6; have c6 := c6'; clear c6'; have c7' := cellA hb c7; clear c7; have c7 := c7'; clear c7'; have c8' := cellA hb c8; clear c8; have c8 := c8'; clear c8'; have c9' := cellA hb c9; clear c9; have c9 := c9'; clear c9'; have c10' := cellA hb c10; clear c10; have c10 := c10'; clear c10'; have c11' := cellA hb c11; clear c11; have c11 := c11'; clear c11'; have c12' := cellA hb c12; clear c12; have c12 := c12'; clear c12'; have c13' := cellA hb c13; clear c13; have c13 := c13'; clear c13'; have c14' := cellA hb c14; clear c14; have c14 := c14'; clear c14'; have c15' := cellA hb c15; clear c15; have c15 := c15'; clear c15'; have Iw' := hidA (intsIn_below hb Iw.out); clear Iw; have Iw := Iw'; clear Iw'; clear hb; have fr := FR.out))
  obtain ⟨w6, hw6⟩ : ∃ w6, (((((((((((w5.setCell ⟨w.heap.size + 1, 0, none⟩ (.int .i64 op)).setCell ⟨w.heap.size + 1, 1, none⟩ (.int .i64 (v1 : Int))).setCell ⟨w.heap.size + 1, 2, none⟩ (.int .i64 (x1 : Int))).setCell ⟨w.heap.size + 1, 3, none⟩ (.int .i64 (u1 : Int))).setCell ⟨w.heap.size + 1, 4, none⟩ (.int .i64 (wrap32 c))).setCell ⟨w.heap.size + 1, 5, none⟩ (.int .i64 (wrap32 d))).setCell ⟨w.heap.size + 1, 6, none⟩ (.int .u8 (f0 : Int))).setCell ⟨w.heap.size + 1, 7, none⟩ (.int .u8 (f1 : Int))).setCell ⟨w.heap.size + 1, 8, none⟩ (.bool hd)).setCell ⟨w.heap.size + 1, 9, none⟩ (.bool wa)).setCell ⟨w.heap.size + 1, 10, none⟩ (.bool wb)) = w6 := ⟨_, rfl⟩
  have B6 : Hid (Below w.heap.size w w6) := hidA (by rw [← hw6]; exact (by repeat (first | with_reducible exact Below.refl _ _ | with_reducible exact HB.out | with_reducible refine Below.setCell ?_ (by first | omega | (dsimp only; omega) | (simp; done) | (simp; omega)) _ | with_reducible refine Below.alloc ?_ (by first | omega | (dsimp only; omega) | (simp; done) | (simp; omega)) _ | with_reducible refine Below.drew ?_ | with_reducible refine drewnA ?_ _ | with_reducible refine Below.trans ?_ (HB.out.mono (by first | omega | (dsimp only; omega) | (simp; done) | (simp; omega))))))
  have e0 : w6.cell? ⟨w.heap.size + 1, 0, none⟩ = some (.int .i64 op) := by rw [← hw6]; simp [go_sem, c5, c6, c7, c8, c9, c10, c11, c12, c13, c14, c15]
  have e1 : w6.cell? ⟨w.heap.size + 1, 1, none⟩ = some (.int .i64 (v1 : Int)) := by rw [← hw6]; simp [go_sem, c5, c6, c7, c8, c9, c10, c11, c12, c13, c14, c15]
  have e2 : w6.cell? ⟨w.heap.size + 1, 2, none⟩ = some (.int .i64 (x1 : Int)) := by rw [← hw6]; simp [go_sem, c5, c6, c7, c8, c9, c10, c11, c12, c13, c14, c15]
  have e3 : w6.cell? ⟨w.heap.size + 1, 3, none⟩ = some (.int .i64 (u1 : Int)) := by rw [← hw6]; simp [go_sem, c5, c6, c7, c8, c9, c10, c11, c12, c13, c14, c15]
  have e4 : w6.cell? ⟨w.heap.size + 1, 4, none⟩ = some (.int .i64 (wrap32 c)) := by rw [← hw6]; simp [go_sem, c5, c6, c7, c8, c9, c10, c11, c12, c13, c14, c15]
  have e5 : w6.cell? ⟨w.heap.size + 1, 5, none⟩ = some (.int .i64 (wrap32 d)) := by rw [← hw6]; simp [go_sem, c5, c6, c7, c8, c9, c10, c11, c12, c13, c14, c15]
  have e6 : w6.cell? ⟨w.heap.size + 1, 6, none⟩ = some (.int .u8 (f0 : Int)) := by rw [← hw6]; simp [go_sem, c5, c6, c7, c8, c9, c10, c11, c12, c13, c14, c15]
  have e7 : w6.cell? ⟨w.heap.size + 1, 7, none⟩ = some (.int .u8 (f1 : Int)) := by rw [← hw6]; simp [go_sem, c5, c6, c7, c8, c9, c10, c11, c12, c13, c14, c15]
  have Hk6 := hidA (show Gr w6 (w.heap.size + 1 + 1) bk n m Rk Ck K by rw [← hw6]; exact (((((((((((Hk.out.far (by show w.heap.size + 1 < w.heap.size + 1 + 1; omega) _).far (by show w.heap.size + 1 < w.heap.size + 1 + 1; omega) _).far (by show w.heap.size + 1 < w.heap.size + 1 + 1; omega) _).far (by show w.heap.size + 1 < w.heap.size + 1 + 1; omega) _).far (by show w.heap.size + 1 < w.heap.size + 1 + 1; omega) _).far (by show w.heap.size + 1 < w.heap.size + 1 + 1; omega) _).far (by show w.heap.size + 1 < w.heap.size + 1 + 1; omega) _).far (by show w.heap.size + 1 < w.heap.size + 1 + 1; omega) _).far (by show w.heap.size + 1 < w.heap.size + 1 + 1; omega) _).far (by show w.heap.size + 1 < w.heap.size + 1 + 1; omega) _).far (by show w.heap.size + 1 < w.heap.size + 1 + 1; omega) _))
  have Iw6 := hidA (show intsIn w6 V (.slice (some ⟨gv, 0, none⟩) n cv) by rw [← hw6]; exact (intsIn_far (intsIn_far (intsIn_far (intsIn_far (intsIn_far (intsIn_far (intsIn_far (intsIn_far (intsIn_far (intsIn_far (intsIn_far Iw.out gvn _) gvn _) gvn _) gvn _) gvn _) gvn _) gvn _) gvn _) gvn _) gvn _) gvn _))
  rw [hw6]
  clear hw6 HB Hk Iw FR fr c5 c6 c7 c8 c9 c10 c11 c12 c13 c14 c15
  have HB := B6
  have Hk := Hk6
  have Iw := Iw6
  clear B6 Hk6 Iw6
  obtain ⟨so, hso⟩ : ∃ o, sideOp f0 = o := ⟨_, rfl⟩
  obtain ⟨sn, hsn⟩ : ∃ o, sideN f0 (x1 : Int) = o := ⟨_, rfl⟩
  obtain ⟨sv, hsv⟩ : ∃ o, sideV f0 (wrap32 c) = o := ⟨_, rfl⟩
  obtain ⟨sl, hsl⟩ : ∃ o, sideL f0 (x1 : Int) (wrap32 c) = o := ⟨_, rfl⟩
  have CSD := hidA (fun w => by have h := side_any f0 hf0 (x1 : Int) (wrap32 c) w; rw [hso, hsn, hsv, hsl] at h; exact h)
  have SOK := hidA (show ExOk sl by rw [← hsl]; exact sideL_ok f0 (by omega) (by have := wrap32_bd c; omega))
  clear hso hsn hsv hsl
  obtain ⟨ro, hro⟩ : ∃ o, sideOp f1 = o := ⟨_, rfl⟩
  obtain ⟨rn, hrn⟩ : ∃ o, sideN f1 (u1 : Int) = o := ⟨_, rfl⟩
  obtain ⟨rv, hrv⟩ : ∃ o, sideV f1 (wrap32 d) = o := ⟨_, rfl⟩
  obtain ⟨rl, hrl⟩ : ∃ o, sideL f1 (u1 : Int) (wrap32 d) = o := ⟨_, rfl⟩
  have CTD := hidA (fun w => by have h := side_any f1 hf1 (u1 : Int) (wrap32 d) w; rw [hro, hrn, hrv, hrl] at h; exact h)
  have TOK := hidA (show ExOk rl by rw [← hrl]; exact sideL_ok f1 (by omega) (by have := wrap32_bd d; omega))
  clear hro hrn hrv hrl
  go_upto_region 9 with ((go_at_call 11; (with_reducible refine (CSD.out _).mono ?_); rintro e w7 ⟨os, cs, rfl, hx, hb⟩; have HB' := hidA (stepA HB.out hb); clear HB; have HB := HB'; clear HB'; have Hk' := hidA (Hk.out.belowA hb); clear Hk; have Hk := Hk'; clear Hk'; have e0' := cellA hb e0; clear e0; have e0 := e0'; clear e0'; have e1' := cellA hb e1; clear e1; have e1 := e1'; clear e1'; have e2' := cellA hb e2; clear e2; have e2 := e2'; clear e2'; have e3' := cellA hb e3; clear e3; have e3 := e3'; clear e3'; have e4' := cellA hb e4; clear e4; have e4 := e4'; clear e4'; have e5' := cellA hb e5; clear e5; have e5 := e5'; clear e5'; have e6' := cellA hb e6; clear e6; have e6 := e6'; clear e6'; have e7' := cellA hb e7; clear e7; have e7 := e7'; clear e7'; have Iw' := hidA (intsIn_below hb Iw.out); clear Iw; have Iw := Iw'; clear Iw'; clear hb; have HX7 := hidA (hx.ex so sn sv); clear hx))
  obtain ⟨E, hE⟩ : ∃ d, w7.heap.size = d := ⟨_, rfl⟩
  obtain ⟨w8, hw8⟩ : ∃ w8, w7.alloc (.cells #[.int .i64 so, .int .i64 sn, .int .i64 sv, .slice os sl.length cs] 34) = w8 := ⟨_, rfl⟩
  have hb : Below w7.heap.size w7 w8 := by rw [← hw8]; exact below_al _ _
  have E0 : w8.cell? ⟨E, 0, none⟩ = some (.int .i64 so) := by rw [← hw8, ← hE]; simp [go_sem]
  have E1 : w8.cell? ⟨E, 1, none⟩ = some (.int .i64 sn) := by rw [← hw8, ← hE]; simp [go_sem]
  have E2 : w8.cell? ⟨E, 2, none⟩ = some (.int .i64 sv) := by rw [← hw8, ← hE]; simp [go_sem]
  have E3 : w8.cell? ⟨E, 3, none⟩ = some (.slice os sl.length cs) := by rw [← hw8, ← hE]; simp [go_sem]
  have HX := hidA (exIn_below hb _ _ HX7.out)
  rw [hw8, hE]
  have HB' := hidA (stepA HB.out hb); clear HB; have HB := HB'; clear HB'; have Hk' := hidA (Hk.out.belowA hb); clear Hk; have Hk := Hk'; clear Hk'; have e0' := cellA hb e0; clear e0; have e0 := e0'; clear e0'; have e1' := cellA hb e1; clear e1; have e1 := e1'; clear e1'; have e2' := cellA hb e2; clear e2; have e2 := e2'; clear e2'; have e3' := cellA hb e3; clear e3; have e3 := e3'; clear e3'; have e4' := cellA hb e4; clear e4; have e4 := e4'; clear e4'; have e5' := cellA hb e5; clear e5; have e5 := e5'; clear e5'; have e6' := cellA hb e6; clear e6; have e6 := e6'; clear e6'; have e7' := cellA hb e7; clear e7; have e7 := e7'; clear e7'; have Iw' := hidA (intsIn_below hb Iw.out); clear Iw; have Iw := Iw'; clear Iw'; clear hb
  clear hw8 hE HX7 CSD
  go_upto_region 10 with ((go_at_call 11; (with_reducible refine (CTD.out _).mono ?_); rintro e w9 ⟨or, cr, rfl, hx, hb⟩; have HX' := hidA (exIn_below hb _ _ HX.out); clear HX; have HX := HX'; clear HX'; have HB' := hidA (stepA HB.out hb); clear HB; have HB := HB'; clear HB'; have Hk' := hidA (Hk.out.belowA hb); clear Hk; have Hk := Hk'; clear Hk'; have e0' := cellA hb e0; clear e0; have e0 := e0'; clear e0'; have e1' := cellA hb e1; clear e1; have e1 := e1'; clear e1'; have e2' := cellA hb e2; clear e2; have e2 := e2'; clear e2'; have e3' := cellA hb e3; clear e3; have e3 := e3'; clear e3'; have e4' := cellA hb e4; clear e4; have e4 := e4'; clear e4'; have e5' := cellA hb e5; clear e5; have e5 := e5'; clear e5'; have e6' := cellA hb e6; clear e6; have e6 := e6'; clear e6'; have e7' := cellA hb e7; clear e7; have e7 := e7'; clear e7'; have E0' := cellA hb E0; clear E0; have E0 := E0'; clear E0'; have E1' := cellA hb E1; clear E1; have E1 := E1'; clear E1'; have E2' := cellA hb E2; clear E2; have E2 := E2'; clear E2'; have E3' := cellA hb E3; clear E3; have E3 := E3'; clear E3'; have Iw' := hidA (intsIn_below hb Iw.out); clear Iw; have Iw := Iw'; clear Iw'; clear hb; have HX7 := hidA (hx.ex ro rn rv); clear hx))
  obtain ⟨F, hE⟩ : ∃ d, w9.heap.size = d := ⟨_, rfl⟩
  obtain ⟨w10, hw8⟩ : ∃ w8, w9.alloc (.cells #[.int .i64 ro, .int .i64 rn, .int .i64 rv, .slice or rl.length cr] 34) = w8 := ⟨_, rfl⟩
  have hb : Below w9.heap.size w9 w10 := by rw [← hw8]; exact below_al _ _
  have F0 : w10.cell? ⟨F, 0, none⟩ = some (.int .i64 ro) := by rw [← hw8, ← hE]; simp [go_sem]
  have F1 : w10.cell? ⟨F, 1, none⟩ = some (.int .i64 rn) := by rw [← hw8, ← hE]; simp [go_sem]
  have F2 : w10.cell? ⟨F, 2, none⟩ = some (.int .i64 rv) := by rw [← hw8, ← hE]; simp [go_sem]
  have F3 : w10.cell? ⟨F, 3, none⟩ = some (.slice or rl.length cr) := by rw [← hw8, ← hE]; simp [go_sem]
  have HY := hidA (exIn_below hb _ _ HX7.out)
  rw [hw8, hE]
  have HX' := hidA (exIn_below hb _ _ HX.out); clear HX; have HX := HX'; clear HX'; have HB' := hidA (stepA HB.out hb); clear HB; have HB := HB'; clear HB'; have Hk' := hidA (Hk.out.belowA hb); clear Hk; have Hk := Hk'; clear Hk'; have e0' := cellA hb e0; clear e0; have e0 := e0'; clear e0'; have e1' := cellA hb e1; clear e1; have e1 := e1'; clear e1'; have e2' := cellA hb e2; clear e2; have e2 := e2'; clear e2'; have e3' := cellA hb e3; clear e3; have e3 := e3'; clear e3'; have e4' := cellA hb e4; clear e4; have e4 := e4'; clear e4'; have e5' := cellA hb e5; clear e5; have e5 := e5'; clear e5'; have e6' := cellA hb e6; clear e6; have e6 := e6'; clear e6'; have e7' := cellA hb e7; clear e7; have e7 := e7'; clear e7'; have E0' := cellA hb E0; clear E0; have E0 := E0'; clear E0'; have E1' := cellA hb E1; clear E1; have E1 := E1'; clear E1'; have E2' := cellA hb E2; clear E2; have E2 := E2'; clear E2'; have E3' := cellA hb E3; clear E3; have E3 := E3'; clear E3'; have Iw' := hidA (intsIn_below hb Iw.out); clear Iw; have Iw := Iw'; clear Iw'; clear hb
  clear hw8 hE HX7 CTD
  obtain ⟨ok, hok, hok2⟩ := and_255 op
  obtain ⟨o2, ho2⟩ : ∃ r, 2 + ok % 3 = r := ⟨_, rfl⟩
  have hoz : (2 : Int) + (ok : Int) % 3 = (o2 : Int) := by omega
  have o2b : 2 ≤ o2 ∧ o2 ≤ 4 := by omega
  clear ho2
  go_upto_region 12 with (fail)
  obtain ⟨P, hP⟩ : ∃ d, w10.heap.size = d := ⟨_, rfl⟩
  rw [hP]
  obtain ⟨w11, hw8⟩ : ∃ w8, (w10.alloc (.cells #[.int .i64 so, .int .i64 sn, .int .i64 sv, .slice os sl.length cs, .int .i64 ro, .int .i64 rn, .int .i64 rv, .slice or rl.length cr] 34)).alloc (.cells #[.int .i64 (o2 : Int), .slice (some ⟨P, 0, none⟩) 2 2, .slice none 0 0] 59) = w8 := ⟨_, rfl⟩
  have hb : Below w10.heap.size w10 w11 := by rw [← hw8]; exact stepA (below_al _ _) (below_al _ _)
  have P0 : w11.cell? ⟨P, 0, none⟩ = some (.int .i64 so) := by rw [← hw8, ← hP]; simp [go_sem]
  have P1 : w11.cell? ⟨P, 1, none⟩ = some (.int .i64 sn) := by rw [← hw8, ← hP]; simp [go_sem]
  have P2 : w11.cell? ⟨P, 2, none⟩ = some (.int .i64 sv) := by rw [← hw8, ← hP]; simp [go_sem]
  have P3 : w11.cell? ⟨P, 3, none⟩ = some (.slice os sl.length cs) := by rw [← hw8, ← hP]; simp [go_sem]
  have P4 : w11.cell? ⟨P, 4, none⟩ = some (.int .i64 ro) := by rw [← hw8, ← hP]; simp [go_sem]
  have P5 : w11.cell? ⟨P, 5, none⟩ = some (.int .i64 rn) := by rw [← hw8, ← hP]; simp [go_sem]
  have P6 : w11.cell? ⟨P, 6, none⟩ = some (.int .i64 rv) := by rw [← hw8, ← hP]; simp [go_sem]
  have P7 : w11.cell? ⟨P, 7, none⟩ = some (.slice or rl.length cr) := by rw [← hw8, ← hP]; simp [go_sem]
  have G0 : w11.cell? ⟨P + 1, 0, none⟩ = some (.int .i64 (o2 : Int)) := by rw [← hw8, ← hP]; simp [go_sem]
  have G1 : w11.cell? ⟨P + 1, 1, none⟩ = some (.slice (some ⟨P, 0, none⟩) 2 2) := by rw [← hw8, ← hP]; simp [go_sem]
  have G2 : w11.cell? ⟨P + 1, 2, none⟩ = some (.slice none 0 0) := by rw [← hw8, ← hP]; simp [go_sem]
  rw [hw8]
  have HX' := hidA (exIn_below hb _ _ HX.out); clear HX; have HX := HX'; clear HX'; have HY' := hidA (exIn_below hb _ _ HY.out); clear HY; have HY := HY'; clear HY'; have HB' := hidA (stepA HB.out hb); clear HB; have HB := HB'; clear HB'; have Hk' := hidA (Hk.out.belowA hb); clear Hk; have Hk := Hk'; clear Hk'; have e0' := cellA hb e0; clear e0; have e0 := e0'; clear e0'; have e1' := cellA hb e1; clear e1; have e1 := e1'; clear e1'; have e2' := cellA hb e2; clear e2; have e2 := e2'; clear e2'; have e3' := cellA hb e3; clear e3; have e3 := e3'; clear e3'; have e4' := cellA hb e4; clear e4; have e4 := e4'; clear e4'; have e5' := cellA hb e5; clear e5; have e5 := e5'; clear e5'; have e6' := cellA hb e6; clear e6; have e6 := e6'; clear e6'; have e7' := cellA hb e7; clear e7; have e7 := e7'; clear e7'; have E0' := cellA hb E0; clear E0; have E0 := E0'; clear E0'; have E1' := cellA hb E1; clear E1; have E1 := E1'; clear E1'; have E2' := cellA hb E2; clear E2; have E2 := E2'; clear E2'; have E3' := cellA hb E3; clear E3; have E3 := E3'; clear E3'; have F0' := cellA hb F0; clear F0; have F0 := F0'; clear F0'; have F1' := cellA hb F1; clear F1; have F1 := F1'; clear F1'; have F2' := cellA hb F2; clear F2; have F2 := F2'; clear F2'; have F3' := cellA hb F3; clear F3; have F3 := F3'; clear F3'; have Iw' := hidA (intsIn_below hb Iw.out); clear Iw; have Iw := Iw'; clear Iw'; clear hb
  clear hw8 hP
  have HC := hidA (show cdIn w11 (.mk (o2 : Int) [.mk so sn sv sl, .mk ro rn rv rl] []) (.agg #[.int .i64 (o2 : Int), .slice (some ⟨P, 0, none⟩) 2 2, .slice none 0 0]) by
    rw [cdIn]
    refine ⟨_, _, _, _, rfl, Nat.le_refl _, by show 2 ≤ 9223372036854775807; omega, ?_, Nat.le_refl _, by omega, by rw [cdsIn]; trivial⟩
    rw [exsIn, exsIn, exsIn]
    exact ⟨⟨P, 0, _, _, _, _, rfl, P0, P1, P2, P3, HX.out⟩, ⟨P, 0, _, _, _, _, rfl, P4, P5, P6, P7, HY.out⟩, trivial⟩)
  clear P0 P1 P2 P3 P4 P5 P6 P7
  obtain ⟨bh, hbh⟩ : ∃ b, holdsC V [] (.mk (o2 : Int) [.mk so sn sv sl, .mk ro rn rv rl] []) = b := ⟨_, rfl⟩
  obtain ⟨b1, hb1⟩ : ∃ b, wholeB V n so sn sv sl = b := ⟨_, rfl⟩
  obtain ⟨b2, hb2⟩ : ∃ b, wholeB V n ro rn rv rl = b := ⟨_, rfl⟩
  have CH : Hid (∀ W, Below w11.heap.size w11 W → Calls Try.prog 37 #[.agg #[.int .i64 (o2 : Int), .slice (some ⟨P, 0, none⟩) 2 2, .slice none 0 0], .slice (some ⟨gv, 0, none⟩) n cv, .slice none 0 0] W fun e w' => e = .returned (.bool bh) ∧ Below W.heap.size W w') := hidA (fun W hW => by have h := rholds_any V [] _ _ _ _ W (cdIn_below hW _ _ HC.out) (intsIn_below hW Iw.out) (nil_in W); rw [hbh] at h; exact h)
  have CW1 : Hid (∀ W, Below w11.heap.size w11 W → Calls Try.prog 35 #[.agg #[.int .i64 so, .int .i64 sn, .int .i64 sv, .slice os sl.length cs], .slice (some ⟨gv, 0, none⟩) n cv] W fun e w' => e = .returned (.bool b1) ∧ Below W.heap.size W w') := hidA (fun W hW => by have h := whole_any W so sn sv sl SOK.out os _ cs rfl (exIn_below hW _ _ HX.out) V n _ cv LW.out (intsIn_below hW Iw.out) HW32.out; rw [hb1] at h; exact h)
  have CW2 : Hid (∀ W, Below w11.heap.size w11 W → Calls Try.prog 35 #[.agg #[.int .i64 ro, .int .i64 rn, .int .i64 rv, .slice or rl.length cr], .slice (some ⟨gv, 0, none⟩) n cv] W fun e w' => e = .returned (.bool b2) ∧ Below W.heap.size W w') := hidA (fun W hW => by have h := whole_any W ro rn rv rl TOK.out or _ cr rfl (exIn_below hW _ _ HY.out) V n _ cv LW.out (intsIn_below hW Iw.out) HW32.out; rw [hb2] at h; exact h)
  have AOK := hidA (assumes_ok HW32.out HK.out (o2 : Int) so sn sv ro rn rv sl rl)
  rw [hbh, hb1, hb2] at AOK
  obtain ⟨Z, hZ⟩ : ∃ Z, assumeN m K (o2 : Int) bh (b1 && b2 && ((shiftT n so sn sl).2.2 && (shiftT n ro rn rl).2.2)) (shiftT n so sn sl).1 (shiftT n ro rn rl).1 (shiftT n so sn sl).2.1 (shiftT n ro rn rl).2.1 = Z := ⟨_, rfl⟩
  rw [hZ] at AOK
  have CA : Hid (∀ W, Below w11.heap.size w11 W → Calls Try.prog 17 #[.slice (some ⟨bk, 0, none⟩) n ck, .int .i64 (o2 : Int), .bool bh, .agg #[.int .i64 so, .int .i64 sn, .int .i64 sv, .slice os sl.length cs], .agg #[.int .i64 ro, .int .i64 rn, .int .i64 rv, .slice or rl.length cr], .agg #[.bool b1, .bool b2]] W fun e w' => GrRet W.heap.size n m Z W e w') := hidA (fun W hW => by have h := gassume_any W ck (Hk.out.belowA hW) (o2 : Int) bh so sn sv ro rn rv sl rl os or cs cr (exIn_below hW _ _ HX.out) (exIn_below hW _ _ HY.out) b1 b2 (by omega) (by omega) OK.out; rw [hZ] at h; exact h)
  clear hbh hb1 hb2 hZ HX HY HC SOK TOK
  have PKV : Hid (∀ w', Below w11.heap.size w11 w' → w'.cell? ⟨E, 0, none⟩ = some (.int .i64 so) ∧ w'.cell? ⟨E, 1, none⟩ = some (.int .i64 sn) ∧ w'.cell? ⟨E, 2, none⟩ = some (.int .i64 sv) ∧ w'.cell? ⟨E, 3, none⟩ = some (.slice os sl.length cs) ∧ w'.cell? ⟨F, 0, none⟩ = some (.int .i64 ro) ∧ w'.cell? ⟨F, 1, none⟩ = some (.int .i64 rn) ∧ w'.cell? ⟨F, 2, none⟩ = some (.int .i64 rv) ∧ w'.cell? ⟨F, 3, none⟩ = some (.slice or rl.length cr) ∧ w'.cell? ⟨P + 1, 0, none⟩ = some (.int .i64 (o2 : Int)) ∧ w'.cell? ⟨P + 1, 1, none⟩ = some (.slice (some ⟨P, 0, none⟩) 2 2) ∧ w'.cell? ⟨P + 1, 2, none⟩ = some (.slice none 0 0)) := hidA (fun W hW => ⟨cellA hW E0, cellA hW E1, cellA hW E2, cellA hW E3, cellA hW F0, cellA hW F1, cellA hW F2, cellA hW F3, cellA hW G0, cellA hW G1, cellA hW G2⟩)
  have hsD := (Below.refl w11.heap.size w11).drew
  go_region_held3 (fun w' => w'.cell? ⟨E, 0, none⟩ = some (.int .i64 so) ∧ w'.cell? ⟨E, 1, none⟩ = some (.int .i64 sn) ∧ w'.cell? ⟨E, 2, none⟩ = some (.int .i64 sv) ∧ w'.cell? ⟨E, 3, none⟩ = some (.slice os sl.length cs) ∧ w'.cell? ⟨F, 0, none⟩ = some (.int .i64 ro) ∧ w'.cell? ⟨F, 1, none⟩ = some (.int .i64 rn) ∧ w'.cell? ⟨F, 2, none⟩ = some (.int .i64 rv) ∧ w'.cell? ⟨F, 3, none⟩ = some (.slice or rl.length cr) ∧ w'.cell? ⟨P + 1, 0, none⟩ = some (.int .i64 (o2 : Int)) ∧ w'.cell? ⟨P + 1, 1, none⟩ = some (.slice (some ⟨P, 0, none⟩) 2 2) ∧ w'.cell? ⟨P + 1, 2, none⟩ = some (.slice none 0 0) ∧ Below w11.heap.size w11 w')
    (first | with_reducible exact ⟨cellD E0, cellD E1, cellD E2, cellD E3, cellD F0, cellD F1, cellD F2, cellD F3, cellD G0, cellD G1, cellD G2, hsD⟩ | with_reducible exact ⟨(PKV.out _ (by assumption)).1, (PKV.out _ (by assumption)).2.1, (PKV.out _ (by assumption)).2.2.1, (PKV.out _ (by assumption)).2.2.2.1, (PKV.out _ (by assumption)).2.2.2.2.1, (PKV.out _ (by assumption)).2.2.2.2.2.1, (PKV.out _ (by assumption)).2.2.2.2.2.2.1, (PKV.out _ (by assumption)).2.2.2.2.2.2.2.1, (PKV.out _ (by assumption)).2.2.2.2.2.2.2.2.1, (PKV.out _ (by assumption)).2.2.2.2.2.2.2.2.2.1, (PKV.out _ (by assumption)).2.2.2.2.2.2.2.2.2.2, by assumption⟩)
    (first
      | ((go_at_call 37; (with_reducible refine (CH.out _ (by assumption)).mono ?_); rintro e w12 ⟨rfl, hb12⟩; have hs12 : Below w11.heap.size w11 w12 := stepA (by assumption) hb12))
      | ((go_at_call 35; (with_reducible refine (CW1.out _ (by assumption)).mono ?_); rintro e w13 ⟨rfl, hb13⟩; have hs13 : Below w11.heap.size w11 w13 := stepA (by assumption) hb13))
      | ((go_at_call 35; (with_reducible refine (CW2.out _ (by assumption)).mono ?_); rintro e w14 ⟨rfl, hb14⟩; have hs14 : Below w11.heap.size w11 w14 := stepA (by assumption) hb14))
      | ((go_at_call 17; (with_reducible refine (CA.out _ (by assumption)).mono ?_); rintro e w15 ⟨bz, ch, Rh, Ch, rfl, hg15, hb15⟩; have hs15 : Below w11.heap.size w11 w15 := stepA (by assumption) hb15)))
  clear PKV hsD CH CW1 CW2 CA hs12 hb12 hs13 hb13 hs14 hb14
  have Hh := hidA hg15
  have hb := hs15
  clear hg15 hb15 hs15 E0 E1 E2 E3 F0 F1 F2 F3 G0 G1 G2
  have HB' := hidA (stepA HB.out hb); clear HB; have HB := HB'; clear HB'; have Hk' := hidA (Hk.out.belowA hb); clear Hk; have Hk := Hk'; clear Hk'; have e0' := cellA hb e0; clear e0; have e0 := e0'; clear e0'; have e1' := cellA hb e1; clear e1; have e1 := e1'; clear e1'; have e2' := cellA hb e2; clear e2; have e2 := e2'; clear e2'; have e3' := cellA hb e3; clear e3; have e3 := e3'; clear e3'; have e4' := cellA hb e4; clear e4; have e4 := e4'; clear e4'; have e5' := cellA hb e5; clear e5; have e5 := e5'; clear e5'; have e6' := cellA hb e6; clear e6; have e6 := e6'; clear e6'; have e7' := cellA hb e7; clear e7; have e7 := e7'; clear e7'; have Iw' := hidA (intsIn_below hb Iw.out); clear Iw; have Iw := Iw'; clear Iw'; clear hb
  have HZ := hidA AOK.out.1
  have LZ := AOK.out.2
  have CL : Hid (Calls Try.prog 23 #[.slice (some ⟨bz, 0, none⟩) n ch, .slice (some ⟨bk, 0, none⟩) n ck] w15 fun e w' => e = .returned (.bool true) ∧ w15 = w') := hidA (by rw [← LZ]; exact leq_any _ ch ck Hh.out Hk.out (by omega) (by omega))
  clear LZ
  go_wp2_with (first | ((go_at_call 34; (with_reducible refine (has_r ch Hh.out _ _ _ Iw.out LW.out hmn.out n5 HW32.out HZ.out).mono ?_); rintro e v1 ⟨rfl, rfl⟩)) | ((go_at_call 23; (with_reducible refine (CL.out).mono ?_); rintro e v1 ⟨rfl, rfl⟩)))
  go_ret
  exact ⟨rfl, HB.out⟩
end Go.Proofs.Ytpfcfaakdhamlaa

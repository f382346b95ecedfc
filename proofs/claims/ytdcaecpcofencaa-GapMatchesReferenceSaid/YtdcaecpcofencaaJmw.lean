import Derived.Test.YtdcaecpcofencaaJbf
import Derived.Test.YtdcaecpcofencaaJrl
namespace Go.Proofs.Ytdcaecpcofencaa
open Go.RowKit Go.Instr Go.Deep
set_option maxRecDepth 100000
set_option linter.unusedVariables false
set_option linter.unusedSimpArgs false

/-! GapMatchesReference's walk. -/
theorem sumF_fineM (a k : Int) : fineB (sumF a k) = true := by
  unfold sumF
  split
  · rename_i h
    unfold fineB
    rw [h]; simp
  · decide
theorem setN_okM {n m : Nat} {Z : Nat → Nat → Int} (h : Zok n m Z) (vv : Int) (wh sh : Bool) (sw sc : Int) : Zok n m (setN n m Z vv wh sh sw sc) := fun i j hi hj => by
  unfold setN
  split
  · split
    · exact sumF_fineM _ _
    · decide
  · exact h i j hi hj
theorem belowF_okM {n m : Nat} {Z Y : Nat → Nat → Int} (h : Zok n m Z) (xw yw : Nat) (k : Int) : Zok n m (belowF m Z Y xw yw k) := fun i j hi hj => by
  unfold belowF
  split
  · rcases Int.le_total (Z i j) (sumF (Y yw j) k) with e | e
    · rw [Int.min_eq_left e]; exact h i j hi hj
    · rw [Int.min_eq_right e]; exact sumF_fineM _ _
  · exact h i j hi hj
theorem assumeN_okM {n m : Nat} {Z : Nat → Nat → Int} (h : Zok n m Z) (op : Int) (hd ok : Bool) (xw yw : Nat) (xc yc : Int) : Zok n m (assumeN m Z op hd ok xw yw xc yc) := by
  unfold assumeN
  repeat (first | exact h | exact belowF_okM h _ _ _ | exact belowF_okM (belowF_okM h _ _ _) _ _ _ | split)
theorem valid_okM {n m : Nat} {Z : Nat → Nat → Int} (h : Zok n m Z) : validB n m Z (n : Int) (m : Int) = true := by
  unfold validB fineAll
  simp
  exact fun i hi j hj => h i j hi hj
theorem same_self {w : World} {lo b n m : Nat} {R C : Nat → Nat} {Z : Nat → Nat → Int} (c : Nat) (h : Gr w lo b n m R C Z) {lo2 b2 : Nat} {R2 C2 : Nat → Nat} (c2 : Nat) (h2 : Gr w lo2 b2 n m R2 C2 Z) (hn : n ≤ 5) (hm : m ≤ 3) : Calls Try.prog 12 #[.slice (some ⟨b, 0, none⟩) n c, .slice (some ⟨b2, 0, none⟩) n c2] w fun e w' => e = .returned (.bool true) ∧ Below w.heap.size w w' :=
  same_r c h c2 h2 hn hm (sameB_yes fun _ _ _ _ => rfl)
theorem valid_yes {w : World} {lo b n m : Nat} {R C : Nat → Nat} {Z : Nat → Nat → Int} (c : Nat) (h : Gr w lo b n m R C Z) (hz : Zok n m Z) (hn : n ≤ 5) (hm : m ≤ 3) : Calls Try.prog 28 #[.slice (some ⟨b, 0, none⟩) n c, .int .i64 (n : Int), .int .i64 (m : Int)] w fun e w' => e = .returned (.bool true) ∧ Below w.heap.size w w' := by
  refine (valid_any w c h (n : Int) (m : Int) (by omega) (by omega)).mono ?_
  rintro e w' ⟨rfl, rfl⟩
  rw [valid_okM hz]
  exact ⟨rfl, Below.refl _ _⟩
theorem pureB {w : World} {f : FuncId} {args : Array Value} {v : Value} (h : ∀ W, Below w.heap.size w W → Calls Try.prog f args W fun e w' => e = .returned v ∧ W = w') : ∀ W, Below w.heap.size w W → Calls Try.prog f args W fun e w' => e = .returned v ∧ Below W.heap.size W w' := fun W hW => (h W hW).mono (by rintro e w' ⟨rfl, rfl⟩; exact ⟨rfl, Below.refl _ _⟩)
set_option maxRecDepth 100000 in
set_option maxHeartbeats 8000000 in
theorem matches_walk (w : World) (xa xb : Nat) (hxa : xa < 256) (hxb : xb < 256) (lx : List Int) (ox : Option Addr) (nx kx : Nat) (Lx : lx.length = nx) (hlx : intsIn w lx (.slice ox nx kx)) (ya yb : Nat) (ly : List Int) (oy : Option Addr) (ny ky : Nat) (Ly : ly.length = ny) (hly : intsIn w ly (.slice oy ny ky)) (op v x u c d : Int) (f0 f1 : Nat) (hd wa wb : Bool) (hf0 : f0 < 256) (hf1 : f1 < 256) (bx : -9223372036854775808 ≤ x ∧ x ≤ 9223372036854775807) (bu : -9223372036854775808 ≤ u ∧ u ≤ 9223372036854775807) (bc : -9223372036854775808 ≤ c ∧ c ≤ 9223372036854775807) (bd : -9223372036854775808 ≤ d ∧ d ≤ 9223372036854775807) :
    Calls Try.prog 3 #[.agg #[.int .u8 (xa : Int), .int .u8 (xb : Int), .slice ox nx kx], .agg #[.int .u8 (ya : Int), .int .u8 (yb : Int), .slice oy ny ky], .agg #[.int .i64 op, .int .i64 v, .int .i64 x, .int .i64 u, .int .i64 c, .int .i64 d, .int .u8 (f0 : Int), .int .u8 (f1 : Int), .bool hd, .bool wa, .bool wb]] w fun e w' => e = .returned (.bool true) ∧ Below w.heap.size w w' := by
  obtain ⟨w0, hw0⟩ : ∃ w0, (((w.alloc (.cells #[.int .u8 (xa : Int), .int .u8 (xb : Int), .slice ox nx kx] 24)).alloc (.cells #[.int .u8 (ya : Int), .int .u8 (yb : Int), .slice oy ny ky] 24)).alloc (.cells #[.int .i64 op, .int .i64 v, .int .i64 x, .int .i64 u, .int .i64 c, .int .i64 d, .int .u8 (f0 : Int), .int .u8 (f1 : Int), .bool hd, .bool wa, .bool wb] 28)) = w0 := ⟨_, rfl⟩
  have B0 : Hid (Below w.heap.size w w0) := hidA (by rw [← hw0]; exact ((((Below.refl _ _).alloc (by first | exact Nat.le_refl _ | (simp; done) | (simp; omega) | omega) _).alloc (by first | exact Nat.le_refl _ | (simp; done) | (simp; omega) | omega) _).alloc (by first | exact Nat.le_refl _ | (simp; done) | (simp; omega) | omega) _))
  have hsz : w.heap.size + 1 + 1 < w0.heap.size := by rw [← hw0]; simp
  have PK : Hid (∀ W, Below w0.heap.size w0 W → W.cell? ⟨w.heap.size, 0, none⟩ = some (.int .u8 (xa : Int)) ∧ W.cell? ⟨w.heap.size, 1, none⟩ = some (.int .u8 (xb : Int)) ∧ W.cell? ⟨w.heap.size, 2, none⟩ = some (.slice ox nx kx) ∧ W.cell? ⟨w.heap.size + 1, 0, none⟩ = some (.int .u8 (ya : Int)) ∧ W.cell? ⟨w.heap.size + 1, 1, none⟩ = some (.int .u8 (yb : Int)) ∧ W.cell? ⟨w.heap.size + 1, 2, none⟩ = some (.slice oy ny ky) ∧ W.cell? ⟨w.heap.size + 1 + 1, 0, none⟩ = some (.int .i64 op) ∧ W.cell? ⟨w.heap.size + 1 + 1, 1, none⟩ = some (.int .i64 v) ∧ W.cell? ⟨w.heap.size + 1 + 1, 2, none⟩ = some (.int .i64 x) ∧ W.cell? ⟨w.heap.size + 1 + 1, 3, none⟩ = some (.int .i64 u) ∧ W.cell? ⟨w.heap.size + 1 + 1, 4, none⟩ = some (.int .i64 c) ∧ W.cell? ⟨w.heap.size + 1 + 1, 5, none⟩ = some (.int .i64 d) ∧ W.cell? ⟨w.heap.size + 1 + 1, 6, none⟩ = some (.int .u8 (f0 : Int)) ∧ W.cell? ⟨w.heap.size + 1 + 1, 7, none⟩ = some (.int .u8 (f1 : Int)) ∧ W.cell? ⟨w.heap.size + 1 + 1, 8, none⟩ = some (.bool hd) ∧ W.cell? ⟨w.heap.size + 1 + 1, 9, none⟩ = some (.bool wa) ∧ W.cell? ⟨w.heap.size + 1 + 1, 10, none⟩ = some (.bool wb) ∧ w.heap.size < W.heap.size ∧ w.heap.size + 1 < W.heap.size ∧ w.heap.size + 1 + 1 < W.heap.size) := hidA (fun W hW => ⟨cellA hW (by rw [← hw0]; simp [go_sem]), cellA hW (by rw [← hw0]; simp [go_sem]), cellA hW (by rw [← hw0]; simp [go_sem]), cellA hW (by rw [← hw0]; simp [go_sem]), cellA hW (by rw [← hw0]; simp [go_sem]), cellA hW (by rw [← hw0]; simp [go_sem]), cellA hW (by rw [← hw0]; simp [go_sem]), cellA hW (by rw [← hw0]; simp [go_sem]), cellA hW (by rw [← hw0]; simp [go_sem]), cellA hW (by rw [← hw0]; simp [go_sem]), cellA hW (by rw [← hw0]; simp [go_sem]), cellA hW (by rw [← hw0]; simp [go_sem]), cellA hW (by rw [← hw0]; simp [go_sem]), cellA hW (by rw [← hw0]; simp [go_sem]), cellA hW (by rw [← hw0]; simp [go_sem]), cellA hW (by rw [← hw0]; simp [go_sem]), cellA hW (by rw [← hw0]; simp [go_sem]), (by have h0 := hW.size; have h1 := hsz; omega), (by have h0 := hW.size; have h1 := hsz; omega), (by have h0 := hW.size; have h1 := hsz; omega)⟩)
  have Hw := hidA hw0; clear hw0
  have FRW : Hid (∀ W, Below w0.heap.size w0 W → ∀ i, W.frozen? ⟨w.heap.size + 1, i, none⟩ = false) := hidA (fun W hW i => (hW.frozen (p := ⟨w.heap.size + 1, i, none⟩) (by have h := hsz; show w.heap.size + 1 < w0.heap.size; omega)).trans (by rw [← Hw.out]; simp [go_sem]))
  have Ix := hidA (intsIn_below B0.out hlx)
  have Iy := hidA (intsIn_below B0.out hly)
  have HY0 := hidA hly
  clear hlx hly
  go_enter Try.func3, Try.ntmps3
  go_upto_region 1 with (fail)
  rw [Hw.out]
  clear Hw
  obtain ⟨c0, c1, c2, c3, c4, c5, c6, c7, c8, c9, c10, c11, c12, c13, c14, c15, c16, z0, z1, z2⟩ := PK.out _ (Below.refl _ _)
  have FR := hidA (FRW.out _ (Below.refl _ _))
  have HB := B0
  clear PK FRW B0 hsz z0 z1 z2
  obtain ⟨n, hn'⟩ : ∃ n, varsN xa = n := ⟨_, rfl⟩
  obtain ⟨m, hm'⟩ : ∃ m, parN xa xb = m := ⟨_, rfl⟩
  have n5 : n ≤ 5 := by rw [← hn']; exact (varsN_bd xa).2
  have n1 : 1 ≤ n := by rw [← hn']; exact (varsN_bd xa).1
  have m3 : m ≤ 3 := by rw [← hm']; exact (parN_bd xa xb).1
  have hmn : m ≤ n := by rw [← hm', ← hn']; exact (parN_bd xa xb).2
  have hn := hidA hn'
  have hm := hidA hm'
  clear hn' hm'
  obtain ⟨Zg, eg⟩ : ∃ Z, madeZ lx m = Z := ⟨_, rfl⟩
  obtain ⟨Zh, eh⟩ : ∃ Z, madeZ ly m = Z := ⟨_, rfl⟩
  have OK := hidA (show Zok n m Zg by rw [← eg]; exact madeZ_ok lx n m)
  have Zge := hidA eg
  have Zhe := hidA eh
  clear eg eh
  have Lx := hidA Lx
  have Ly := hidA Ly
  go_upto_region 4 with ((go_at_call 9; (with_reducible refine (examples_any _).mono ?_); rintro e w1 ⟨rfl, hb⟩; have FR' := hidA (fun i => ((hb.frozen (p := ⟨w.heap.size + 1, i, none⟩) (by have h := World.block_lt_of_cell? _ _ c3; exact h)).trans (FR.out i))); clear FR; have FR := FR'; clear FR'; have HB' := hidA (stepA HB.out hb); clear HB; have HB := HB'; clear HB'; have c0' := cellA hb c0; clear c0; have c0 := c0'; clear c0'; have c1' := cellA hb c1; clear c1; have c1 := c1'; clear c1'; have c2' := cellA hb c2; clear c2; have c2 := c2'; clear c2'; have c3' := cellA hb c3; clear c3; have c3 := c3'; clear c3'; have c4' := cellA hb c4; clear c4; have c4 := c4'; clear c4'; have c5' := cellA hb c5; clear c5; have c5 := c5'; clear c5'; have c6' := cellA hb c6; clear c6; have c6 := c6'; clear c6'; have c7' := cellA hb c7; clear c7; have c7 := c7'; clear c7'; have c8' := cellA hb c8; clear c8; have c8 := c8'; clear c8'; have c9' := cellA hb c9; clear c9; have c9 := c9'; clear c9'; have c10' := cellA hb c10; clear c10; have c10 := c10'; clear c10'; have c11' := cellA hb c11; clear c11; have c11 := c11'; clear c11'; have c12' := cellA hb c12; clear c12; have c12 := c12'; clear c12'; have c13' := cellA hb c13; clear c13; have c13 := c13'; clear c13'; have c14' := cellA hb c14; clear c14; have c14 := c14'; clear c14'; have c15' := cellA hb c15; clear c15; have c15 := c15'; clear c15'; have c16' := cellA hb c16; clear c16; have c16 := c16'; clear c16'; have Ix' := hidA (intsIn_below hb Ix.out); clear Ix; have Ix := Ix'; clear Ix'; have Iy' := hidA (intsIn_below hb Iy.out); clear Iy; have Iy := Iy'; clear Iy'; clear hb))
  have lok : w.heap.size + 1 < w1.heap.size := World.block_lt_of_cell? _ _ c3
  go_upto_region 5 with ((go_at_call 10; (with_reducible refine ((made3 hn.out hm.out _ hxa hxb lx ox nx kx Lx.out Ix.out Zge.out)).mono ?_); rintro e w2 ⟨bg, cg, Rg, Cg, rfl, hg, hb⟩; have FR' := hidA (fun i => ((hb.frozen (p := ⟨w.heap.size + 1, i, none⟩) (by have h := World.block_lt_of_cell? _ _ c3; exact h)).trans (FR.out i))); clear FR; have FR := FR'; clear FR'; have HB' := hidA (stepA HB.out hb); clear HB; have HB := HB'; clear HB'; have c0' := cellA hb c0; clear c0; have c0 := c0'; clear c0'; have c1' := cellA hb c1; clear c1; have c1 := c1'; clear c1'; have c2' := cellA hb c2; clear c2; have c2 := c2'; clear c2'; have c3' := cellA hb c3; clear c3; have c3 := c3'; clear c3'; have c4' := cellA hb c4; clear c4; have c4 := c4'; clear c4'; have c5' := cellA hb c5; clear c5; have c5 := c5'; clear c5'; have c6' := cellA hb c6; clear c6; have c6 := c6'; clear c6'; have c7' := cellA hb c7; clear c7; have c7 := c7'; clear c7'; have c8' := cellA hb c8; clear c8; have c8 := c8'; clear c8'; have c9' := cellA hb c9; clear c9; have c9 := c9'; clear c9'; have c10' := cellA hb c10; clear c10; have c10 := c10'; clear c10'; have c11' := cellA hb c11; clear c11; have c11 := c11'; clear c11'; have c12' := cellA hb c12; clear c12; have c12 := c12'; clear c12'; have c13' := cellA hb c13; clear c13; have c13 := c13'; clear c13'; have c14' := cellA hb c14; clear c14; have c14 := c14'; clear c14'; have c15' := cellA hb c15; clear c15; have c15 := c15'; clear c15'; have c16' := cellA hb c16; clear c16; have c16 := c16'; clear c16'; have Ix' := hidA (intsIn_below hb Ix.out); clear Ix; have Ix := Ix'; clear Ix'; have Iy' := hidA (intsIn_below hb Iy.out); clear Iy; have Iy := Iy'; clear Iy'; clear hb; have Hg := hidA hg; clear hg))
  have Hg' := hidA (Hg.out.lo_le (lo' := w.heap.size + 1 + 1) (by omega))
  clear Hg
  have Hg := Hg'
  clear Hg' lok
  have fr := FR.out
  go_upto_region 7 with (fail)
  obtain ⟨w3, hw3⟩ : ∃ w3, (w2.setCell ⟨w.heap.size + 1, 0, none⟩ (.int .u8 (xa : Int))).setCell ⟨w.heap.size + 1, 1, none⟩ (.int .u8 (xb : Int)) = w3 := ⟨_, rfl⟩
  have B6 : Hid (Below w.heap.size w w3) := hidA (by rw [← hw3]; exact (by repeat (first | with_reducible exact Below.refl _ _ | with_reducible exact HB.out | with_reducible refine Below.setCell ?_ (by first | omega | (dsimp only; omega) | (simp; done) | (simp; omega)) _ | with_reducible refine Below.alloc ?_ (by first | omega | (dsimp only; omega) | (simp; done) | (simp; omega)) _ | with_reducible refine Below.drew ?_ | with_reducible refine drewnA ?_ _ | with_reducible refine Below.trans ?_ (HB.out.mono (by first | omega | (dsimp only; omega) | (simp; done) | (simp; omega))))))
  have e3 : w3.cell? ⟨w.heap.size + 1, 0, none⟩ = some (.int .u8 (xa : Int)) := by rw [← hw3]; simp [go_sem, c3, c4, c5, c6, c7, c8, c9, c10, c11, c12, c13, c14, c15, c16]
  have e4 : w3.cell? ⟨w.heap.size + 1, 1, none⟩ = some (.int .u8 (xb : Int)) := by rw [← hw3]; simp [go_sem, c3, c4, c5, c6, c7, c8, c9, c10, c11, c12, c13, c14, c15, c16]
  have e5 : w3.cell? ⟨w.heap.size + 1, 2, none⟩ = some (.slice oy ny ky) := by rw [← hw3]; simp [go_sem, c3, c4, c5, c6, c7, c8, c9, c10, c11, c12, c13, c14, c15, c16]
  have e6 : w3.cell? ⟨w.heap.size + 1 + 1, 0, none⟩ = some (.int .i64 op) := by rw [← hw3]; simp [go_sem, c3, c4, c5, c6, c7, c8, c9, c10, c11, c12, c13, c14, c15, c16]
  have e7 : w3.cell? ⟨w.heap.size + 1 + 1, 1, none⟩ = some (.int .i64 v) := by rw [← hw3]; simp [go_sem, c3, c4, c5, c6, c7, c8, c9, c10, c11, c12, c13, c14, c15, c16]
  have e8 : w3.cell? ⟨w.heap.size + 1 + 1, 2, none⟩ = some (.int .i64 x) := by rw [← hw3]; simp [go_sem, c3, c4, c5, c6, c7, c8, c9, c10, c11, c12, c13, c14, c15, c16]
  have e9 : w3.cell? ⟨w.heap.size + 1 + 1, 3, none⟩ = some (.int .i64 u) := by rw [← hw3]; simp [go_sem, c3, c4, c5, c6, c7, c8, c9, c10, c11, c12, c13, c14, c15, c16]
  have e10 : w3.cell? ⟨w.heap.size + 1 + 1, 4, none⟩ = some (.int .i64 c) := by rw [← hw3]; simp [go_sem, c3, c4, c5, c6, c7, c8, c9, c10, c11, c12, c13, c14, c15, c16]
  have e11 : w3.cell? ⟨w.heap.size + 1 + 1, 5, none⟩ = some (.int .i64 d) := by rw [← hw3]; simp [go_sem, c3, c4, c5, c6, c7, c8, c9, c10, c11, c12, c13, c14, c15, c16]
  have e12 : w3.cell? ⟨w.heap.size + 1 + 1, 6, none⟩ = some (.int .u8 (f0 : Int)) := by rw [← hw3]; simp [go_sem, c3, c4, c5, c6, c7, c8, c9, c10, c11, c12, c13, c14, c15, c16]
  have e13 : w3.cell? ⟨w.heap.size + 1 + 1, 7, none⟩ = some (.int .u8 (f1 : Int)) := by rw [← hw3]; simp [go_sem, c3, c4, c5, c6, c7, c8, c9, c10, c11, c12, c13, c14, c15, c16]
  have e14 : w3.cell? ⟨w.heap.size + 1 + 1, 8, none⟩ = some (.bool hd) := by rw [← hw3]; simp [go_sem, c3, c4, c5, c6, c7, c8, c9, c10, c11, c12, c13, c14, c15, c16]
  have e15 : w3.cell? ⟨w.heap.size + 1 + 1, 9, none⟩ = some (.bool wa) := by rw [← hw3]; simp [go_sem, c3, c4, c5, c6, c7, c8, c9, c10, c11, c12, c13, c14, c15, c16]
  have e16 : w3.cell? ⟨w.heap.size + 1 + 1, 10, none⟩ = some (.bool wb) := by rw [← hw3]; simp [go_sem, c3, c4, c5, c6, c7, c8, c9, c10, c11, c12, c13, c14, c15, c16]
  have Hg6 := hidA (show Gr w3 (w.heap.size + 1 + 1) bg n m Rg Cg Zg by rw [← hw3]; exact ((Hg.out.far (by show w.heap.size + 1 < w.heap.size + 1 + 1; omega) _).far (by show w.heap.size + 1 < w.heap.size + 1 + 1; omega) _))
  have Iy6 := hidA (show intsIn w3 ly (.slice oy ny ky) by rw [← hw3]; exact intsIn_below (w := w) (by repeat (first | with_reducible exact Below.refl _ _ | with_reducible exact HB.out | with_reducible refine Below.setCell ?_ (by first | omega | (dsimp only; omega) | (simp; done) | (simp; omega)) _ | with_reducible refine Below.alloc ?_ (by first | omega | (dsimp only; omega) | (simp; done) | (simp; omega)) _ | with_reducible refine Below.drew ?_ | with_reducible refine drewnA ?_ _ | with_reducible refine Below.trans ?_ (HB.out.mono (by first | omega | (dsimp only; omega) | (simp; done) | (simp; omega))))) HY0.out)
  rw [hw3]
  clear hw3 HB Hg Ix Iy HY0 FR fr c0 c1 c2 c3 c4 c5 c6 c7 c8 c9 c10 c11 c12 c13 c14 c15 c16 Lx
  have HB := B6
  have Hg := Hg6
  have Iy := Iy6
  clear B6 Hg6 Iy6
  go_upto_region 8 with ((go_at_call 10; (with_reducible refine ((made3 hn.out hm.out _ hxa hxb ly oy ny ky Ly.out Iy.out Zhe.out)).mono ?_); rintro e w4 ⟨bh, ch, Rh, Ch, rfl, hg, hb⟩; have HB' := hidA (stepA HB.out hb); clear HB; have HB := HB'; clear HB'; have Hg' := hidA (Hg.out.belowA hb); clear Hg; have Hg := Hg'; clear Hg'; have e3' := cellA hb e3; clear e3; have e3 := e3'; clear e3'; have e4' := cellA hb e4; clear e4; have e4 := e4'; clear e4'; have e5' := cellA hb e5; clear e5; have e5 := e5'; clear e5'; have e6' := cellA hb e6; clear e6; have e6 := e6'; clear e6'; have e7' := cellA hb e7; clear e7; have e7 := e7'; clear e7'; have e8' := cellA hb e8; clear e8; have e8 := e8'; clear e8'; have e9' := cellA hb e9; clear e9; have e9 := e9'; clear e9'; have e10' := cellA hb e10; clear e10; have e10 := e10'; clear e10'; have e11' := cellA hb e11; clear e11; have e11 := e11'; clear e11'; have e12' := cellA hb e12; clear e12; have e12 := e12'; clear e12'; have e13' := cellA hb e13; clear e13; have e13 := e13'; clear e13'; have e14' := cellA hb e14; clear e14; have e14 := e14'; clear e14'; have e15' := cellA hb e15; clear e15; have e15 := e15'; clear e15'; have e16' := cellA hb e16; clear e16; have e16 := e16'; clear e16'; have Iy' := hidA (intsIn_below hb Iy.out); clear Iy; have Iy := Iy'; clear Iy'; clear hb; have Hh := hidA hg; clear hg))
  have g0 := Hg.out.cellh (i := 0) (by omega)
  clear Iy Ly hn hm Zge Zhe e3 e4 e5
  go_upto_region 10 with (fail)
  obtain ⟨so, hso⟩ : ∃ o, sideOp f0 = o := ⟨_, rfl⟩
  obtain ⟨sn, hsn⟩ : ∃ o, sideN f0 x = o := ⟨_, rfl⟩
  obtain ⟨sv, hsv⟩ : ∃ o, sideV f0 c = o := ⟨_, rfl⟩
  obtain ⟨sl, hsl⟩ : ∃ o, sideL f0 x c = o := ⟨_, rfl⟩
  have CSD := hidA (fun w => by have h := side_any f0 hf0 x c w; rw [hso, hsn, hsv, hsl] at h; exact h)
  have SOK := hidA (show ExOk sl by rw [← hsl]; exact sideL_ok f0 bx bc)
  clear hso hsn hsv hsl
  obtain ⟨ro, hro⟩ : ∃ o, sideOp f1 = o := ⟨_, rfl⟩
  obtain ⟨rn, hrn⟩ : ∃ o, sideN f1 u = o := ⟨_, rfl⟩
  obtain ⟨rv, hrv⟩ : ∃ o, sideV f1 d = o := ⟨_, rfl⟩
  obtain ⟨rl, hrl⟩ : ∃ o, sideL f1 u d = o := ⟨_, rfl⟩
  have CTD := hidA (fun w => by have h := side_any f1 hf1 u d w; rw [hro, hrn, hrv, hrl] at h; exact h)
  have TOK := hidA (show ExOk rl by rw [← hrl]; exact sideL_ok f1 bu bd)
  clear hro hrn hrv hrl
  go_upto_region 11 with ((go_at_call 11; (with_reducible refine (CSD.out _).mono ?_); rintro e w5 ⟨os, cs, rfl, hx, hb⟩; have HB' := hidA (stepA HB.out hb); clear HB; have HB := HB'; clear HB'; have Hg' := hidA (Hg.out.belowA hb); clear Hg; have Hg := Hg'; clear Hg'; have Hh' := hidA (Hh.out.belowA hb); clear Hh; have Hh := Hh'; clear Hh'; have e6' := cellA hb e6; clear e6; have e6 := e6'; clear e6'; have e7' := cellA hb e7; clear e7; have e7 := e7'; clear e7'; have e8' := cellA hb e8; clear e8; have e8 := e8'; clear e8'; have e9' := cellA hb e9; clear e9; have e9 := e9'; clear e9'; have e10' := cellA hb e10; clear e10; have e10 := e10'; clear e10'; have e11' := cellA hb e11; clear e11; have e11 := e11'; clear e11'; have e12' := cellA hb e12; clear e12; have e12 := e12'; clear e12'; have e13' := cellA hb e13; clear e13; have e13 := e13'; clear e13'; have e14' := cellA hb e14; clear e14; have e14 := e14'; clear e14'; have e15' := cellA hb e15; clear e15; have e15 := e15'; clear e15'; have e16' := cellA hb e16; clear e16; have e16 := e16'; clear e16'; clear hb; have HX7 := hidA (hx.ex so sn sv); clear hx))
  obtain ⟨E, hE⟩ : ∃ d, w5.heap.size = d := ⟨_, rfl⟩
  obtain ⟨w6, hw8⟩ : ∃ w8, w5.alloc (.cells #[.int .i64 so, .int .i64 sn, .int .i64 sv, .slice os sl.length cs] 34) = w8 := ⟨_, rfl⟩
  have hb : Below w5.heap.size w5 w6 := by rw [← hw8]; exact below_al _ _
  have E0 : w6.cell? ⟨E, 0, none⟩ = some (.int .i64 so) := by rw [← hw8, ← hE]; simp [go_sem]
  have E1 : w6.cell? ⟨E, 1, none⟩ = some (.int .i64 sn) := by rw [← hw8, ← hE]; simp [go_sem]
  have E2 : w6.cell? ⟨E, 2, none⟩ = some (.int .i64 sv) := by rw [← hw8, ← hE]; simp [go_sem]
  have E3 : w6.cell? ⟨E, 3, none⟩ = some (.slice os sl.length cs) := by rw [← hw8, ← hE]; simp [go_sem]
  have HX := hidA (exIn_below hb _ _ HX7.out)
  rw [hw8, hE]
  have HB' := hidA (stepA HB.out hb); clear HB; have HB := HB'; clear HB'; have Hg' := hidA (Hg.out.belowA hb); clear Hg; have Hg := Hg'; clear Hg'; have Hh' := hidA (Hh.out.belowA hb); clear Hh; have Hh := Hh'; clear Hh'; have e6' := cellA hb e6; clear e6; have e6 := e6'; clear e6'; have e7' := cellA hb e7; clear e7; have e7 := e7'; clear e7'; have e8' := cellA hb e8; clear e8; have e8 := e8'; clear e8'; have e9' := cellA hb e9; clear e9; have e9 := e9'; clear e9'; have e10' := cellA hb e10; clear e10; have e10 := e10'; clear e10'; have e11' := cellA hb e11; clear e11; have e11 := e11'; clear e11'; have e12' := cellA hb e12; clear e12; have e12 := e12'; clear e12'; have e13' := cellA hb e13; clear e13; have e13 := e13'; clear e13'; have e14' := cellA hb e14; clear e14; have e14 := e14'; clear e14'; have e15' := cellA hb e15; clear e15; have e15 := e15'; clear e15'; have e16' := cellA hb e16; clear e16; have e16 := e16'; clear e16'; clear hb
  clear hw8 hE HX7 CSD
  go_upto_region 12 with ((go_at_call 11; (with_reducible refine (CTD.out _).mono ?_); rintro e w7 ⟨or, cr, rfl, hx, hb⟩; have HX' := hidA (exIn_below hb _ _ HX.out); clear HX; have HX := HX'; clear HX'; have HB' := hidA (stepA HB.out hb); clear HB; have HB := HB'; clear HB'; have Hg' := hidA (Hg.out.belowA hb); clear Hg; have Hg := Hg'; clear Hg'; have Hh' := hidA (Hh.out.belowA hb); clear Hh; have Hh := Hh'; clear Hh'; have e6' := cellA hb e6; clear e6; have e6 := e6'; clear e6'; have e7' := cellA hb e7; clear e7; have e7 := e7'; clear e7'; have e8' := cellA hb e8; clear e8; have e8 := e8'; clear e8'; have e9' := cellA hb e9; clear e9; have e9 := e9'; clear e9'; have e10' := cellA hb e10; clear e10; have e10 := e10'; clear e10'; have e11' := cellA hb e11; clear e11; have e11 := e11'; clear e11'; have e12' := cellA hb e12; clear e12; have e12 := e12'; clear e12'; have e13' := cellA hb e13; clear e13; have e13 := e13'; clear e13'; have e14' := cellA hb e14; clear e14; have e14 := e14'; clear e14'; have e15' := cellA hb e15; clear e15; have e15 := e15'; clear e15'; have e16' := cellA hb e16; clear e16; have e16 := e16'; clear e16'; have E0' := cellA hb E0; clear E0; have E0 := E0'; clear E0'; have E1' := cellA hb E1; clear E1; have E1 := E1'; clear E1'; have E2' := cellA hb E2; clear E2; have E2 := E2'; clear E2'; have E3' := cellA hb E3; clear E3; have E3 := E3'; clear E3'; clear hb; have HX7 := hidA (hx.ex ro rn rv); clear hx))
  obtain ⟨F, hE⟩ : ∃ d, w7.heap.size = d := ⟨_, rfl⟩
  obtain ⟨w8, hw8⟩ : ∃ w8, w7.alloc (.cells #[.int .i64 ro, .int .i64 rn, .int .i64 rv, .slice or rl.length cr] 34) = w8 := ⟨_, rfl⟩
  have hb : Below w7.heap.size w7 w8 := by rw [← hw8]; exact below_al _ _
  have F0 : w8.cell? ⟨F, 0, none⟩ = some (.int .i64 ro) := by rw [← hw8, ← hE]; simp [go_sem]
  have F1 : w8.cell? ⟨F, 1, none⟩ = some (.int .i64 rn) := by rw [← hw8, ← hE]; simp [go_sem]
  have F2 : w8.cell? ⟨F, 2, none⟩ = some (.int .i64 rv) := by rw [← hw8, ← hE]; simp [go_sem]
  have F3 : w8.cell? ⟨F, 3, none⟩ = some (.slice or rl.length cr) := by rw [← hw8, ← hE]; simp [go_sem]
  have HY := hidA (exIn_below hb _ _ HX7.out)
  rw [hw8, hE]
  have HX' := hidA (exIn_below hb _ _ HX.out); clear HX; have HX := HX'; clear HX'; have HB' := hidA (stepA HB.out hb); clear HB; have HB := HB'; clear HB'; have Hg' := hidA (Hg.out.belowA hb); clear Hg; have Hg := Hg'; clear Hg'; have Hh' := hidA (Hh.out.belowA hb); clear Hh; have Hh := Hh'; clear Hh'; have e6' := cellA hb e6; clear e6; have e6 := e6'; clear e6'; have e7' := cellA hb e7; clear e7; have e7 := e7'; clear e7'; have e8' := cellA hb e8; clear e8; have e8 := e8'; clear e8'; have e9' := cellA hb e9; clear e9; have e9 := e9'; clear e9'; have e10' := cellA hb e10; clear e10; have e10 := e10'; clear e10'; have e11' := cellA hb e11; clear e11; have e11 := e11'; clear e11'; have e12' := cellA hb e12; clear e12; have e12 := e12'; clear e12'; have e13' := cellA hb e13; clear e13; have e13 := e13'; clear e13'; have e14' := cellA hb e14; clear e14; have e14 := e14'; clear e14'; have e15' := cellA hb e15; clear e15; have e15 := e15'; clear e15'; have e16' := cellA hb e16; clear e16; have e16 := e16'; clear e16'; have E0' := cellA hb E0; clear E0; have E0 := E0'; clear E0'; have E1' := cellA hb E1; clear E1; have E1 := E1'; clear E1'; have E2' := cellA hb E2; clear E2; have E2 := E2'; clear E2'; have E3' := cellA hb E3; clear E3; have E3 := E3'; clear E3'; clear hb
  clear hw8 hE HX7 CTD
  obtain ⟨ZS, hZS⟩ : ∃ z, setN n m Zg v wa (shiftT n so sn sl).2.2 (shiftT n so sn sl).1 (shiftT n so sn sl).2.1 = z := ⟨_, rfl⟩
  obtain ⟨ZT, hZT⟩ : ∃ z, setN n m Zg v true (shiftT n so sn sl).2.2 (shiftT n so sn sl).1 (shiftT n so sn sl).2.1 = z := ⟨_, rfl⟩
  obtain ⟨ZA, hZA⟩ : ∃ z, assumeN m Zg op hd (wa && wb && ((shiftT n so sn sl).2.2 && (shiftT n ro rn rl).2.2)) (shiftT n so sn sl).1 (shiftT n ro rn rl).1 (shiftT n so sn sl).2.1 (shiftT n ro rn rl).2.1 = z := ⟨_, rfl⟩
  obtain ⟨ZB, hZB⟩ : ∃ z, assumeN m Zg op hd (true && true && ((shiftT n so sn sl).2.2 && (shiftT n ro rn rl).2.2)) (shiftT n so sn sl).1 (shiftT n ro rn rl).1 (shiftT n so sn sl).2.1 (shiftT n ro rn rl).2.1 = z := ⟨_, rfl⟩
  obtain ⟨bb, hbb⟩ : ∃ z, boundF n m Zg v u = z := ⟨_, rfl⟩
  obtain ⟨q1, hq1⟩ : ∃ z, leqB n m Zg Zh = z := ⟨_, rfl⟩
  obtain ⟨q2, hq2⟩ : ∃ z, validB n m Zg x u = z := ⟨_, rfl⟩
  have OT := hidA (show Zok n m ZT by rw [← hZT]; exact setN_okM OK.out _ _ _ _ _)
  have OB := hidA (show Zok n m ZB by rw [← hZB]; exact assumeN_okM OK.out _ _ _ _ _ _ _)
  have KNo : Hid (∀ W, Below w8.heap.size w8 W → Calls Try.prog 13 #[.int .i64 (n : Int), .int .i64 (m : Int)] W fun e w' => GrRet W.heap.size n m newF W e w') := hidA (fun W hW => by have h := new_in n m hmn (by omega) W; exact h)
  have KNr : Hid (∀ W, Below w8.heap.size w8 W → Calls Try.prog 14 #[.int .i64 (n : Int), .int .i64 (m : Int)] W fun e w' => GrRet W.heap.size n m newF W e w') := hidA (fun W hW => by have h := rnew_any n m (by omega) (by omega) W; exact h)
  have KSo : Hid (∀ W, Below w8.heap.size w8 W → Calls Try.prog 15 #[.slice (some ⟨bg, 0, none⟩) n cg, .int .i64 v, .agg #[.int .i64 so, .int .i64 sn, .int .i64 sv, .slice os sl.length cs], .bool wa] W fun e w' => GrRet W.heap.size n m ZS W e w') := hidA (fun W hW => by have h := gset_any W cg (Hg.out.belowA hW) v so sn sv sl os cs (exIn_below hW _ _ HX.out) wa (by omega) (by omega) OK.out; rw [hZS] at h; exact h)
  have KSr : Hid (∀ W, Below w8.heap.size w8 W → Calls Try.prog 16 #[.slice (some ⟨bg, 0, none⟩) n cg, .int .i64 v, .agg #[.int .i64 so, .int .i64 sn, .int .i64 sv, .slice os sl.length cs], .bool wa] W fun e w' => GrRet W.heap.size n m ZS W e w') := hidA (fun W hW => by have h := rset_any W cg (Hg.out.belowA hW) v so sn sv sl SOK.out os cs (exIn_below hW _ _ HX.out) wa (by omega) (by omega) OK.out; rw [hZS] at h; exact h)
  have KTr : Hid (∀ W, Below w8.heap.size w8 W → Calls Try.prog 16 #[.slice (some ⟨bg, 0, none⟩) n cg, .int .i64 v, .agg #[.int .i64 so, .int .i64 sn, .int .i64 sv, .slice os sl.length cs], .bool true] W fun e w' => GrRet W.heap.size n m ZT W e w') := hidA (fun W hW => by have h := rset_any W cg (Hg.out.belowA hW) v so sn sv sl SOK.out os cs (exIn_below hW _ _ HX.out) true (by omega) (by omega) OK.out; rw [hZT] at h; exact h)
  have KAo : Hid (∀ W, Below w8.heap.size w8 W → Calls Try.prog 17 #[.slice (some ⟨bg, 0, none⟩) n cg, .int .i64 op, .bool hd, .agg #[.int .i64 so, .int .i64 sn, .int .i64 sv, .slice os sl.length cs], .agg #[.int .i64 ro, .int .i64 rn, .int .i64 rv, .slice or rl.length cr], .agg #[.bool wa, .bool wb]] W fun e w' => GrRet W.heap.size n m ZA W e w') := hidA (fun W hW => by have h := gassume_any W cg (Hg.out.belowA hW) op hd so sn sv ro rn rv sl rl os or cs cr (exIn_below hW _ _ HX.out) (exIn_below hW _ _ HY.out) wa wb (by omega) (by omega) OK.out; rw [hZA] at h; exact h)
  have KAr : Hid (∀ W, Below w8.heap.size w8 W → Calls Try.prog 18 #[.slice (some ⟨bg, 0, none⟩) n cg, .int .i64 op, .bool hd, .agg #[.int .i64 so, .int .i64 sn, .int .i64 sv, .slice os sl.length cs], .agg #[.int .i64 ro, .int .i64 rn, .int .i64 rv, .slice or rl.length cr], .agg #[.bool wa, .bool wb]] W fun e w' => GrRet W.heap.size n m ZA W e w') := hidA (fun W hW => by have h := rassume_any W cg (Hg.out.belowA hW) op hd so sn sv ro rn rv sl rl SOK.out TOK.out os or cs cr (exIn_below hW _ _ HX.out) (exIn_below hW _ _ HY.out) wa wb (by omega) (by omega) OK.out; rw [hZA] at h; exact h)
  have KBr : Hid (∀ W, Below w8.heap.size w8 W → Calls Try.prog 18 #[.slice (some ⟨bg, 0, none⟩) n cg, .int .i64 op, .bool hd, .agg #[.int .i64 so, .int .i64 sn, .int .i64 sv, .slice os sl.length cs], .agg #[.int .i64 ro, .int .i64 rn, .int .i64 rv, .slice or rl.length cr], .agg #[.bool true, .bool true]] W fun e w' => GrRet W.heap.size n m ZB W e w') := hidA (fun W hW => by have h := rassume_any W cg (Hg.out.belowA hW) op hd so sn sv ro rn rv sl rl SOK.out TOK.out os or cs cr (exIn_below hW _ _ HX.out) (exIn_below hW _ _ HY.out) true true (by omega) (by omega) OK.out; rw [hZB] at h; exact h)
  have KJo : Hid (∀ W, Below w8.heap.size w8 W → Calls Try.prog 19 #[.slice (some ⟨bg, 0, none⟩) n cg, .slice (some ⟨bh, 0, none⟩) n ch] W fun e w' => GrRet W.heap.size n m (fun i j => max (Zg i j) (Zh i j)) W e w') := hidA (fun W hW => by have h := join_any W cg (Hg.out.belowA hW) ch (Hh.out.belowA hW) (by omega) (by omega); exact h)
  have KJr : Hid (∀ W, Below w8.heap.size w8 W → Calls Try.prog 20 #[.slice (some ⟨bg, 0, none⟩) n cg, .slice (some ⟨bh, 0, none⟩) n ch] W fun e w' => GrRet W.heap.size n m (fun i j => max (Zg i j) (Zh i j)) W e w') := hidA (fun W hW => by have h := rjoin_any W cg ch (Hg.out.belowA hW) (Hh.out.belowA hW) (by omega) (by omega); exact h)
  have KWo : Hid (∀ W, Below w8.heap.size w8 W → Calls Try.prog 21 #[.slice (some ⟨bg, 0, none⟩) n cg, .slice (some ⟨bh, 0, none⟩) n ch] W fun e w' => GrRet W.heap.size n m (fun i j => if Zg i j < Zh i j then 1099511627776 else Zg i j) W e w') := hidA (fun W hW => by have h := widen_any W cg (Hg.out.belowA hW) ch (Hh.out.belowA hW) (by omega) (by omega); exact h)
  have KWr : Hid (∀ W, Below w8.heap.size w8 W → Calls Try.prog 22 #[.slice (some ⟨bg, 0, none⟩) n cg, .slice (some ⟨bh, 0, none⟩) n ch] W fun e w' => GrRet W.heap.size n m (fun i j => if Zg i j < Zh i j then 1099511627776 else Zg i j) W e w') := hidA (fun W hW => by have h := rwiden_any W cg ch (Hg.out.belowA hW) (Hh.out.belowA hW) (by omega) (by omega); exact h)
  have KCp : Hid (∀ W, Below w8.heap.size w8 W → Calls Try.prog 27 #[.slice (some ⟨bg, 0, none⟩) n cg] W fun e w' => GrRet W.heap.size n m Zg W e w') := hidA (fun W hW => by have h := copy_any W cg (Hg.out.belowA hW) (by omega) (by omega); exact h)
  have KLo : Hid (∀ W, Below w8.heap.size w8 W → Calls Try.prog 23 #[.slice (some ⟨bg, 0, none⟩) n cg, .slice (some ⟨bh, 0, none⟩) n ch] W fun e w' => e = .returned (.bool q1) ∧ Below W.heap.size W w') := hidA (pureB <| fun W hW => by have h := leq_any W cg ch (Hg.out.belowA hW) (Hh.out.belowA hW) (by omega) (by omega); rw [hq1] at h; exact h)
  have KLr : Hid (∀ W, Below w8.heap.size w8 W → Calls Try.prog 24 #[.slice (some ⟨bg, 0, none⟩) n cg, .slice (some ⟨bh, 0, none⟩) n ch] W fun e w' => e = .returned (.bool q1) ∧ Below W.heap.size W w') := hidA (fun W hW => by have h := rleq_any W cg ch (Hg.out.belowA hW) (Hh.out.belowA hW) (by omega) (by omega); rw [hq1] at h; exact h)
  have KBo : Hid (∀ W, Below w8.heap.size w8 W → Calls Try.prog 25 #[.slice (some ⟨bg, 0, none⟩) n cg, .int .i64 v, .int .i64 u] W fun e w' => e = .returned (.int .i64 bb) ∧ Below W.heap.size W w') := hidA (pureB <| fun W hW => by have h := bound_any cg (Hg.out.belowA hW) v u (by omega) (by omega); rw [hbb] at h; exact h)
  have KBn : Hid (∀ W, Below w8.heap.size w8 W → Calls Try.prog 26 #[.slice (some ⟨bg, 0, none⟩) n cg, .int .i64 v, .int .i64 u] W fun e w' => e = .returned (.int .i64 bb) ∧ Below W.heap.size W w') := hidA (pureB <| fun W hW => by have h := rbound_any cg (Hg.out.belowA hW) v u (by omega) (by omega); rw [hbb] at h; exact h)
  have KVo : Hid (∀ W, Below w8.heap.size w8 W → Calls Try.prog 28 #[.slice (some ⟨bg, 0, none⟩) n cg, .int .i64 x, .int .i64 u] W fun e w' => e = .returned (.bool q2) ∧ Below W.heap.size W w') := hidA (pureB <| fun W hW => by have h := valid_any W cg (Hg.out.belowA hW) x u (by omega) (by omega); rw [hq2] at h; exact h)
  have KVr : Hid (∀ W, Below w8.heap.size w8 W → Calls Try.prog 29 #[.slice (some ⟨bg, 0, none⟩) n cg, .int .i64 x, .int .i64 u] W fun e w' => e = .returned (.bool q2) ∧ Below W.heap.size W w') := hidA (pureB <| fun W hW => by have h := rvalid_any W cg (Hg.out.belowA hW) x u (by omega) (by omega); rw [hq2] at h; exact h)
  clear hZS hZT hZA hZB hbb hq1 hq2 HX HY SOK TOK bx bu bc bd OK Hh e12 e13
  have g0 := Hg.out.cellh (i := 0) (by omega)
  have B8 := HB
  clear HB Hg
  have HB : Hid (Below w8.heap.size w8 w8) := hidA (Below.refl _ _)
  go_cut [145] (fun s W => s = .bool false ∧ Below w8.heap.size w8 W)
  case first =>
    clear g0 KCp KVo KVr KTr KBr OT OB e8 e10 HB
    dsimp only [List.append]
    have PKV : Hid (∀ w', Below w8.heap.size w8 w' → w'.cell? ⟨w.heap.size + 1 + 1, 0, none⟩ = some (.int .i64 op) ∧ w'.cell? ⟨w.heap.size + 1 + 1, 1, none⟩ = some (.int .i64 v) ∧ w'.cell? ⟨w.heap.size + 1 + 1, 3, none⟩ = some (.int .i64 u) ∧ w'.cell? ⟨w.heap.size + 1 + 1, 8, none⟩ = some (.bool hd) ∧ w'.cell? ⟨w.heap.size + 1 + 1, 9, none⟩ = some (.bool wa) ∧ w'.cell? ⟨w.heap.size + 1 + 1, 10, none⟩ = some (.bool wb) ∧ w'.cell? ⟨E, 0, none⟩ = some (.int .i64 so) ∧ w'.cell? ⟨E, 1, none⟩ = some (.int .i64 sn) ∧ w'.cell? ⟨E, 2, none⟩ = some (.int .i64 sv) ∧ w'.cell? ⟨E, 3, none⟩ = some (.slice os sl.length cs) ∧ w'.cell? ⟨F, 0, none⟩ = some (.int .i64 ro) ∧ w'.cell? ⟨F, 1, none⟩ = some (.int .i64 rn) ∧ w'.cell? ⟨F, 2, none⟩ = some (.int .i64 rv) ∧ w'.cell? ⟨F, 3, none⟩ = some (.slice or rl.length cr)) := hidA (fun W hW => ⟨cellA hW e6, cellA hW e7, cellA hW e9, cellA hW e14, cellA hW e15, cellA hW e16, cellA hW E0, cellA hW E1, cellA hW E2, cellA hW E3, cellA hW F0, cellA hW F1, cellA hW F2, cellA hW F3⟩)
    clear e6 e7 e9 e14 e15 e16 E0 E1 E2 E3 F0 F1 F2 F3
    refine wp_region_rel (by kernel_rfl) [50, 51, 52, 53, 54, 55, 56, 57, 58, 59, 60, 61, 62, 63, 64, 65, 66, 67, 68, 69, 70, 71, 72, 73, 74, 75, 76, 77, 78, 79, 80, 81, 82, 83, 84, 85, 86, 87, 88, 89, 90, 91, 92, 93, 94, 95, 96, 97, 98, 99, 100, 101, 102, 103, 104, 105, 106, 107, 108, 109, 110, 111, 112, 113, 114, 115, 116, 117, 118, 119, 120, 121, 122, 123, 124, 125, 126, 127, 128, 129, 130, 131, 132, 133, 134, 135, 136, 137, 138, 139, 140, 141, 142, 143, 144, 145] (by kernel_rfl) (by kernel_rfl) (fun W => Below w8.heap.size w8 W) (RT [(50, .val (.int .i64 (n : Int))), (51, .val (.int .i64 (m : Int))), (52, .gr n m newF), (53, .val (.int .i64 (n : Int))), (54, .val (.int .i64 (m : Int))), (55, .gr n m newF), (56, .val (.bool true)), (57, .val (.bool false)), (58, .val (.bool false)), (59, .val (.slice (some ⟨bg, 0, none⟩) n cg)), (60, .val (.pointer (some ⟨w.heap.size + 1 + 1, 1, none⟩))), (61, .val (.int .i64 v)), (62, .val (.agg #[.int .i64 so, .int .i64 sn, .int .i64 sv, .slice os sl.length cs])), (63, .val (.pointer (some ⟨w.heap.size + 1 + 1, 9, none⟩))), (64, .val (.pointer (some ⟨w.heap.size + 1 + 1, 9, none⟩))), (65, .val (.bool wa)), (66, .gr n m ZS), (67, .val (.slice (some ⟨bg, 0, none⟩) n cg)), (68, .val (.pointer (some ⟨w.heap.size + 1 + 1, 1, none⟩))), (69, .val (.int .i64 v)), (70, .val (.agg #[.int .i64 so, .int .i64 sn, .int .i64 sv, .slice os sl.length cs])), (71, .val (.pointer (some ⟨w.heap.size + 1 + 1, 9, none⟩))), (72, .val (.pointer (some ⟨w.heap.size + 1 + 1, 9, none⟩))), (73, .val (.bool wa)), (74, .gr n m ZS), (75, .val (.bool true)), (76, .val (.bool false)), (77, .val (.bool false)), (78, .val (.bool false)), (79, .val (.slice (some ⟨bg, 0, none⟩) n cg)), (80, .val (.pointer (some ⟨w.heap.size + 1 + 1, 0, none⟩))), (81, .val (.int .i64 op)), (82, .val (.pointer (some ⟨w.heap.size + 1 + 1, 8, none⟩))), (83, .val (.bool hd)), (84, .val (.agg #[.int .i64 so, .int .i64 sn, .int .i64 sv, .slice os sl.length cs])), (85, .val (.agg #[.int .i64 ro, .int .i64 rn, .int .i64 rv, .slice or rl.length cr])), (86, .val (.pointer (some ⟨w.heap.size + 1 + 1, 9, none⟩))), (87, .val (.agg #[.bool wa, .bool wb])), (88, .gr n m ZA), (89, .val (.slice (some ⟨bg, 0, none⟩) n cg)), (90, .val (.pointer (some ⟨w.heap.size + 1 + 1, 0, none⟩))), (91, .val (.int .i64 op)), (92, .val (.pointer (some ⟨w.heap.size + 1 + 1, 8, none⟩))), (93, .val (.bool hd)), (94, .val (.agg #[.int .i64 so, .int .i64 sn, .int .i64 sv, .slice os sl.length cs])), (95, .val (.agg #[.int .i64 ro, .int .i64 rn, .int .i64 rv, .slice or rl.length cr])), (96, .val (.pointer (some ⟨w.heap.size + 1 + 1, 9, none⟩))), (97, .val (.agg #[.bool wa, .bool wb])), (98, .gr n m ZA), (99, .val (.bool true)), (100, .val (.bool false)), (101, .val (.bool false)), (102, .val (.bool false)), (103, .val (.slice (some ⟨bg, 0, none⟩) n cg)), (104, .val (.slice (some ⟨bh, 0, none⟩) n ch)), (105, .gr n m (fun i j => max (Zg i j) (Zh i j))), (106, .val (.slice (some ⟨bg, 0, none⟩) n cg)), (107, .val (.slice (some ⟨bh, 0, none⟩) n ch)), (108, .gr n m (fun i j => max (Zg i j) (Zh i j))), (109, .val (.bool true)), (110, .val (.bool false)), (111, .val (.bool false)), (112, .val (.bool false)), (113, .val (.slice (some ⟨bg, 0, none⟩) n cg)), (114, .val (.slice (some ⟨bh, 0, none⟩) n ch)), (115, .gr n m (fun i j => if Zg i j < Zh i j then 1099511627776 else Zg i j)), (116, .val (.slice (some ⟨bg, 0, none⟩) n cg)), (117, .val (.slice (some ⟨bh, 0, none⟩) n ch)), (118, .gr n m (fun i j => if Zg i j < Zh i j then 1099511627776 else Zg i j)), (119, .val (.bool true)), (120, .val (.bool false)), (121, .val (.bool false)), (122, .val (.bool false)), (123, .val (.slice (some ⟨bg, 0, none⟩) n cg)), (124, .val (.slice (some ⟨bh, 0, none⟩) n ch)), (125, .val (.bool q1)), (126, .val (.slice (some ⟨bg, 0, none⟩) n cg)), (127, .val (.slice (some ⟨bh, 0, none⟩) n ch)), (128, .val (.bool q1)), (129, .val (.bool false)), (130, .val (.bool false)), (131, .val (.bool false)), (132, .val (.slice (some ⟨bg, 0, none⟩) n cg)), (133, .val (.pointer (some ⟨w.heap.size + 1 + 1, 1, none⟩))), (134, .val (.int .i64 v)), (135, .val (.pointer (some ⟨w.heap.size + 1 + 1, 3, none⟩))), (136, .val (.int .i64 u)), (137, .val (.int .i64 bb)), (138, .val (.slice (some ⟨bg, 0, none⟩) n cg)), (139, .val (.pointer (some ⟨w.heap.size + 1 + 1, 1, none⟩))), (140, .val (.int .i64 v)), (141, .val (.pointer (some ⟨w.heap.size + 1 + 1, 3, none⟩))), (142, .val (.int .i64 u)), (143, .val (.int .i64 bb)), (144, .val (.bool false)), (145, .val (.bool false))]) (fun _ _ _ _ => rt_mono _) (Below.refl w8.heap.size w8).drew ?relsteps ?relrest
    case relsteps =>
      refine And.intro ?_ ?_
      · as_aux_lemma =>
        refine rel_run 50 [] [10] 0 true 215 (by rfl) (by kernel_rfl) (Or.inl rfl) (fun a W hS hi ho => ?_)
        show YieldR Try.prog _ (SpR (.val (.int .i64 (n : Int)))) W _
        have g10 : a.tmps[10]? = some (.int .i64 (n : Int)) := (ho 10 rfl).trans rfl
        clear hi ho
        go_simp
        exact yieldR_value hS rfl
      refine And.intro ?_ ?_
      · as_aux_lemma =>
        refine rel_run 51 [] [11] 0 true 215 (by rfl) (by kernel_rfl) (Or.inl rfl) (fun a W hS hi ho => ?_)
        show YieldR Try.prog _ (SpR (.val (.int .i64 (m : Int)))) W _
        have g11 : a.tmps[11]? = some (.int .i64 (m : Int)) := (ho 11 rfl).trans rfl
        clear hi ho
        go_simp
        exact yieldR_value hS rfl
      refine And.intro ?_ ?_
      · as_aux_lemma =>
        refine rel_run 52 [50, 51] [] 0 true 215 (by rfl) (by kernel_rfl) (Or.inl rfl) (fun a W hS hi ho => ?_)
        show YieldR Try.prog _ (SpR (.gr n m newF)) W _
        have g50 : a.tmps[50]? = some (.int .i64 (n : Int)) := by obtain ⟨v, g, e⟩ := hi 50 rfl; exact g.trans (congrArg some e)
        have g51 : a.tmps[51]? = some (.int .i64 (m : Int)) := by obtain ⟨v, g, e⟩ := hi 51 rfl; exact g.trans (congrArg some e)
        clear hi ho
        go_simp
        refine yieldR_enter ?_
        (with_reducible refine (KNo.out _ hS).mono ?_)
        rintro e w1 ⟨b, c, R, C, rfl, hg, hb⟩
        exact ⟨_, rfl, stepA hS hb, hb, b, c, R, C, _, rfl, hg⟩
      refine And.intro ?_ ?_
      · as_aux_lemma =>
        refine rel_run 53 [] [10] 0 true 215 (by rfl) (by kernel_rfl) (Or.inl rfl) (fun a W hS hi ho => ?_)
        show YieldR Try.prog _ (SpR (.val (.int .i64 (n : Int)))) W _
        have g10 : a.tmps[10]? = some (.int .i64 (n : Int)) := (ho 10 rfl).trans rfl
        clear hi ho
        go_simp
        exact yieldR_value hS rfl
      refine And.intro ?_ ?_
      · as_aux_lemma =>
        refine rel_run 54 [] [11] 0 true 215 (by rfl) (by kernel_rfl) (Or.inl rfl) (fun a W hS hi ho => ?_)
        show YieldR Try.prog _ (SpR (.val (.int .i64 (m : Int)))) W _
        have g11 : a.tmps[11]? = some (.int .i64 (m : Int)) := (ho 11 rfl).trans rfl
        clear hi ho
        go_simp
        exact yieldR_value hS rfl
      refine And.intro ?_ ?_
      · as_aux_lemma =>
        refine rel_run 55 [53, 54] [] 0 true 215 (by rfl) (by kernel_rfl) (Or.inl rfl) (fun a W hS hi ho => ?_)
        show YieldR Try.prog _ (SpR (.gr n m newF)) W _
        have g53 : a.tmps[53]? = some (.int .i64 (n : Int)) := by obtain ⟨v, g, e⟩ := hi 53 rfl; exact g.trans (congrArg some e)
        have g54 : a.tmps[54]? = some (.int .i64 (m : Int)) := by obtain ⟨v, g, e⟩ := hi 54 rfl; exact g.trans (congrArg some e)
        clear hi ho
        go_simp
        refine yieldR_enter ?_
        (with_reducible refine (KNr.out _ hS).mono ?_)
        rintro e w1 ⟨b, c, R, C, rfl, hg, hb⟩
        exact ⟨_, rfl, stepA hS hb, hb, b, c, R, C, _, rfl, hg⟩
      refine And.intro ?_ ?_
      · as_aux_lemma =>
        refine rel_run 56 [52, 55] [] 0 true 215 (by rfl) (by kernel_rfl) (Or.inl rfl) (fun a W hS hi ho => ?_)
        show YieldR Try.prog _ (SpR (.val (.bool true))) W _
        obtain ⟨v52, g52, h52⟩ := hi 52 rfl
        have h52' : SpR (.gr n m newF) v52 W := h52
        obtain ⟨b52, c52, R52, C52, lo52, rfl, q52⟩ := h52'
        clear h52
        obtain ⟨v55, g55, h55⟩ := hi 55 rfl
        have h55' : SpR (.gr n m newF) v55 W := h55
        obtain ⟨b55, c55, R55, C55, lo55, rfl, q55⟩ := h55'
        clear h55
        clear hi ho
        go_simp
        refine yieldR_enter ?_
        (with_reducible refine (same_self c52 q52 c55 q55 n5 m3).mono ?_)
        rintro e w1 ⟨rfl, hb⟩
        exact ⟨_, rfl, stepA hS hb, hb, rfl⟩
      refine And.intro ?_ ?_
      · as_aux_lemma =>
        refine rel_run 57 [56] [] 0 true 215 (by rfl) (by kernel_rfl) (Or.inl rfl) (fun a W hS hi ho => ?_)
        show YieldR Try.prog _ (SpR (.val (.bool false))) W _
        have g56 : a.tmps[56]? = some (.bool true) := by obtain ⟨v, g, e⟩ := hi 56 rfl; exact g.trans (congrArg some e)
        clear hi ho
        go_simp
        exact yieldR_value hS rfl
      refine And.intro ?_ ?_
      · as_aux_lemma =>
        refine rel_run 58 [57] [] 0 true 215 (by rfl) (by kernel_rfl) (Or.inl rfl) (fun a W hS hi ho => ?_)
        show YieldR Try.prog _ (SpR (.val (.bool false))) W _
        have g57 : a.tmps[57]? = some (.bool false) := by obtain ⟨v, g, e⟩ := hi 57 rfl; exact g.trans (congrArg some e)
        clear hi ho
        go_simp
        exact yieldR_value hS rfl
      refine And.intro ?_ ?_
      · as_aux_lemma =>
        refine rel_run 59 [] [8] 58 false 215 (by rfl) (by kernel_rfl) (Or.inr (fun v w h => h)) (fun a W hS hi ho => ?_)
        show YieldR Try.prog _ (SpR (.val (.slice (some ⟨bg, 0, none⟩) n cg))) W _
        have g8 : a.tmps[8]? = some (.slice (some ⟨bg, 0, none⟩) n cg) := (ho 8 rfl).trans rfl
        clear hi ho
        go_simp
        exact yieldR_value hS rfl
      refine And.intro ?_ ?_
      · as_aux_lemma =>
        refine rel_run 60 [] [5] 58 false 215 (by rfl) (by kernel_rfl) (Or.inr (fun v w h => h)) (fun a W hS hi ho => ?_)
        show YieldR Try.prog _ (SpR (.val (.pointer (some ⟨w.heap.size + 1 + 1, 1, none⟩)))) W _
        have g5 : a.tmps[5]? = some (.pointer (some ⟨w.heap.size + 1 + 1, 0, none⟩)) := (ho 5 rfl).trans rfl
        clear hi ho
        go_simp
        exact yieldR_value hS rfl
      refine And.intro ?_ ?_
      · as_aux_lemma =>
        refine rel_run 61 [60] [] 58 false 215 (by rfl) (by kernel_rfl) (Or.inr (fun v w h => h)) (fun a W hS hi ho => ?_)
        show YieldR Try.prog _ (SpR (.val (.int .i64 v))) W _
        have g60 : a.tmps[60]? = some (.pointer (some ⟨w.heap.size + 1 + 1, 1, none⟩)) := by obtain ⟨v, g, e⟩ := hi 60 rfl; exact g.trans (congrArg some e)
        clear hi ho
        obtain ⟨e6, e7, e9, e14, e15, e16, E0, E1, E2, E3, F0, F1, F2, F3⟩ := PKV.out _ hS
        go_simp
        exact yieldR_value hS rfl
      refine And.intro ?_ ?_
      · as_aux_lemma =>
        refine rel_run 62 [] [12] 58 false 215 (by rfl) (by kernel_rfl) (Or.inr (fun v w h => h)) (fun a W hS hi ho => ?_)
        show YieldR Try.prog _ (SpR (.val (.agg #[.int .i64 so, .int .i64 sn, .int .i64 sv, .slice os sl.length cs]))) W _
        have g12 : a.tmps[12]? = some (.pointer (some ⟨E, 0, none⟩)) := (ho 12 rfl).trans rfl
        clear hi ho
        obtain ⟨e6, e7, e9, e14, e15, e16, E0, E1, E2, E3, F0, F1, F2, F3⟩ := PKV.out _ hS
        go_simp
        exact yieldR_value hS rfl
      refine And.intro ?_ ?_
      · as_aux_lemma =>
        refine rel_run 63 [] [5] 58 false 215 (by rfl) (by kernel_rfl) (Or.inr (fun v w h => h)) (fun a W hS hi ho => ?_)
        show YieldR Try.prog _ (SpR (.val (.pointer (some ⟨w.heap.size + 1 + 1, 9, none⟩)))) W _
        have g5 : a.tmps[5]? = some (.pointer (some ⟨w.heap.size + 1 + 1, 0, none⟩)) := (ho 5 rfl).trans rfl
        clear hi ho
        go_simp
        exact yieldR_value hS rfl
      refine And.intro ?_ ?_
      · as_aux_lemma =>
        refine rel_run 64 [63] [] 58 false 215 (by rfl) (by kernel_rfl) (Or.inr (fun v w h => h)) (fun a W hS hi ho => ?_)
        show YieldR Try.prog _ (SpR (.val (.pointer (some ⟨w.heap.size + 1 + 1, 9, none⟩)))) W _
        have g63 : a.tmps[63]? = some (.pointer (some ⟨w.heap.size + 1 + 1, 9, none⟩)) := by obtain ⟨v, g, e⟩ := hi 63 rfl; exact g.trans (congrArg some e)
        clear hi ho
        go_simp
        exact yieldR_value hS rfl
      refine And.intro ?_ ?_
      · as_aux_lemma =>
        refine rel_run 65 [64] [] 58 false 215 (by rfl) (by kernel_rfl) (Or.inr (fun v w h => h)) (fun a W hS hi ho => ?_)
        show YieldR Try.prog _ (SpR (.val (.bool wa))) W _
        have g64 : a.tmps[64]? = some (.pointer (some ⟨w.heap.size + 1 + 1, 9, none⟩)) := by obtain ⟨v, g, e⟩ := hi 64 rfl; exact g.trans (congrArg some e)
        clear hi ho
        obtain ⟨e6, e7, e9, e14, e15, e16, E0, E1, E2, E3, F0, F1, F2, F3⟩ := PKV.out _ hS
        go_simp
        exact yieldR_value hS rfl
      refine And.intro ?_ ?_
      · as_aux_lemma =>
        refine rel_run 66 [59, 61, 62, 65] [] 58 false 215 (by rfl) (by kernel_rfl) (Or.inr (fun v w h => h)) (fun a W hS hi ho => ?_)
        show YieldR Try.prog _ (SpR (.gr n m ZS)) W _
        have g59 : a.tmps[59]? = some (.slice (some ⟨bg, 0, none⟩) n cg) := by obtain ⟨v, g, e⟩ := hi 59 rfl; exact g.trans (congrArg some e)
        have g61 : a.tmps[61]? = some (.int .i64 v) := by obtain ⟨v, g, e⟩ := hi 61 rfl; exact g.trans (congrArg some e)
        have g62 : a.tmps[62]? = some (.agg #[.int .i64 so, .int .i64 sn, .int .i64 sv, .slice os sl.length cs]) := by obtain ⟨v, g, e⟩ := hi 62 rfl; exact g.trans (congrArg some e)
        have g65 : a.tmps[65]? = some (.bool wa) := by obtain ⟨v, g, e⟩ := hi 65 rfl; exact g.trans (congrArg some e)
        clear hi ho
        go_simp
        refine yieldR_enter ?_
        (with_reducible refine (KSo.out _ hS).mono ?_)
        rintro e w1 ⟨b, c, R, C, rfl, hg, hb⟩
        exact ⟨_, rfl, stepA hS hb, hb, b, c, R, C, _, rfl, hg⟩
      refine And.intro ?_ ?_
      · as_aux_lemma =>
        refine rel_run 67 [] [8] 58 false 215 (by rfl) (by kernel_rfl) (Or.inr (fun v w h => h)) (fun a W hS hi ho => ?_)
        show YieldR Try.prog _ (SpR (.val (.slice (some ⟨bg, 0, none⟩) n cg))) W _
        have g8 : a.tmps[8]? = some (.slice (some ⟨bg, 0, none⟩) n cg) := (ho 8 rfl).trans rfl
        clear hi ho
        go_simp
        exact yieldR_value hS rfl
      refine And.intro ?_ ?_
      · as_aux_lemma =>
        refine rel_run 68 [] [5] 58 false 215 (by rfl) (by kernel_rfl) (Or.inr (fun v w h => h)) (fun a W hS hi ho => ?_)
        show YieldR Try.prog _ (SpR (.val (.pointer (some ⟨w.heap.size + 1 + 1, 1, none⟩)))) W _
        have g5 : a.tmps[5]? = some (.pointer (some ⟨w.heap.size + 1 + 1, 0, none⟩)) := (ho 5 rfl).trans rfl
        clear hi ho
        go_simp
        exact yieldR_value hS rfl
      refine And.intro ?_ ?_
      · as_aux_lemma =>
        refine rel_run 69 [68] [] 58 false 215 (by rfl) (by kernel_rfl) (Or.inr (fun v w h => h)) (fun a W hS hi ho => ?_)
        show YieldR Try.prog _ (SpR (.val (.int .i64 v))) W _
        have g68 : a.tmps[68]? = some (.pointer (some ⟨w.heap.size + 1 + 1, 1, none⟩)) := by obtain ⟨v, g, e⟩ := hi 68 rfl; exact g.trans (congrArg some e)
        clear hi ho
        obtain ⟨e6, e7, e9, e14, e15, e16, E0, E1, E2, E3, F0, F1, F2, F3⟩ := PKV.out _ hS
        go_simp
        exact yieldR_value hS rfl
      refine And.intro ?_ ?_
      · as_aux_lemma =>
        refine rel_run 70 [] [12] 58 false 215 (by rfl) (by kernel_rfl) (Or.inr (fun v w h => h)) (fun a W hS hi ho => ?_)
        show YieldR Try.prog _ (SpR (.val (.agg #[.int .i64 so, .int .i64 sn, .int .i64 sv, .slice os sl.length cs]))) W _
        have g12 : a.tmps[12]? = some (.pointer (some ⟨E, 0, none⟩)) := (ho 12 rfl).trans rfl
        clear hi ho
        obtain ⟨e6, e7, e9, e14, e15, e16, E0, E1, E2, E3, F0, F1, F2, F3⟩ := PKV.out _ hS
        go_simp
        exact yieldR_value hS rfl
      refine And.intro ?_ ?_
      · as_aux_lemma =>
        refine rel_run 71 [] [5] 58 false 215 (by rfl) (by kernel_rfl) (Or.inr (fun v w h => h)) (fun a W hS hi ho => ?_)
        show YieldR Try.prog _ (SpR (.val (.pointer (some ⟨w.heap.size + 1 + 1, 9, none⟩)))) W _
        have g5 : a.tmps[5]? = some (.pointer (some ⟨w.heap.size + 1 + 1, 0, none⟩)) := (ho 5 rfl).trans rfl
        clear hi ho
        go_simp
        exact yieldR_value hS rfl
      refine And.intro ?_ ?_
      · as_aux_lemma =>
        refine rel_run 72 [71] [] 58 false 215 (by rfl) (by kernel_rfl) (Or.inr (fun v w h => h)) (fun a W hS hi ho => ?_)
        show YieldR Try.prog _ (SpR (.val (.pointer (some ⟨w.heap.size + 1 + 1, 9, none⟩)))) W _
        have g71 : a.tmps[71]? = some (.pointer (some ⟨w.heap.size + 1 + 1, 9, none⟩)) := by obtain ⟨v, g, e⟩ := hi 71 rfl; exact g.trans (congrArg some e)
        clear hi ho
        go_simp
        exact yieldR_value hS rfl
      refine And.intro ?_ ?_
      · as_aux_lemma =>
        refine rel_run 73 [72] [] 58 false 215 (by rfl) (by kernel_rfl) (Or.inr (fun v w h => h)) (fun a W hS hi ho => ?_)
        show YieldR Try.prog _ (SpR (.val (.bool wa))) W _
        have g72 : a.tmps[72]? = some (.pointer (some ⟨w.heap.size + 1 + 1, 9, none⟩)) := by obtain ⟨v, g, e⟩ := hi 72 rfl; exact g.trans (congrArg some e)
        clear hi ho
        obtain ⟨e6, e7, e9, e14, e15, e16, E0, E1, E2, E3, F0, F1, F2, F3⟩ := PKV.out _ hS
        go_simp
        exact yieldR_value hS rfl
      refine And.intro ?_ ?_
      · as_aux_lemma =>
        refine rel_run 74 [67, 69, 70, 73] [] 58 false 215 (by rfl) (by kernel_rfl) (Or.inr (fun v w h => h)) (fun a W hS hi ho => ?_)
        show YieldR Try.prog _ (SpR (.gr n m ZS)) W _
        have g67 : a.tmps[67]? = some (.slice (some ⟨bg, 0, none⟩) n cg) := by obtain ⟨v, g, e⟩ := hi 67 rfl; exact g.trans (congrArg some e)
        have g69 : a.tmps[69]? = some (.int .i64 v) := by obtain ⟨v, g, e⟩ := hi 69 rfl; exact g.trans (congrArg some e)
        have g70 : a.tmps[70]? = some (.agg #[.int .i64 so, .int .i64 sn, .int .i64 sv, .slice os sl.length cs]) := by obtain ⟨v, g, e⟩ := hi 70 rfl; exact g.trans (congrArg some e)
        have g73 : a.tmps[73]? = some (.bool wa) := by obtain ⟨v, g, e⟩ := hi 73 rfl; exact g.trans (congrArg some e)
        clear hi ho
        go_simp
        refine yieldR_enter ?_
        (with_reducible refine (KSr.out _ hS).mono ?_)
        rintro e w1 ⟨b, c, R, C, rfl, hg, hb⟩
        exact ⟨_, rfl, stepA hS hb, hb, b, c, R, C, _, rfl, hg⟩
      refine And.intro ?_ ?_
      · as_aux_lemma =>
        refine rel_run 75 [66, 74] [] 58 false 215 (by rfl) (by kernel_rfl) (Or.inr (fun v w h => h)) (fun a W hS hi ho => ?_)
        show YieldR Try.prog _ (SpR (.val (.bool true))) W _
        obtain ⟨v66, g66, h66⟩ := hi 66 rfl
        have h66' : SpR (.gr n m ZS) v66 W := h66
        obtain ⟨b66, c66, R66, C66, lo66, rfl, q66⟩ := h66'
        clear h66
        obtain ⟨v74, g74, h74⟩ := hi 74 rfl
        have h74' : SpR (.gr n m ZS) v74 W := h74
        obtain ⟨b74, c74, R74, C74, lo74, rfl, q74⟩ := h74'
        clear h74
        clear hi ho
        go_simp
        refine yieldR_enter ?_
        (with_reducible refine (same_self c66 q66 c74 q74 n5 m3).mono ?_)
        rintro e w1 ⟨rfl, hb⟩
        exact ⟨_, rfl, stepA hS hb, hb, rfl⟩
      refine And.intro ?_ ?_
      · as_aux_lemma =>
        refine rel_run 76 [75] [] 58 false 215 (by rfl) (by kernel_rfl) (Or.inr (fun v w h => h)) (fun a W hS hi ho => ?_)
        show YieldR Try.prog _ (SpR (.val (.bool false))) W _
        have g75 : a.tmps[75]? = some (.bool true) := by obtain ⟨v, g, e⟩ := hi 75 rfl; exact g.trans (congrArg some e)
        clear hi ho
        go_simp
        exact yieldR_value hS rfl
      refine And.intro ?_ ?_
      · as_aux_lemma =>
        refine rel_run 77 [58, 76] [] 0 true 215 (by rfl) (by kernel_rfl) (Or.inl rfl) (fun a W hS hi ho => ?_)
        show YieldR Try.prog _ (SpR (.val (.bool false))) W _
        have g58 : a.tmps[58]? = some (.bool false) := by obtain ⟨v, g, e⟩ := hi 58 rfl; exact g.trans (congrArg some e)
        have g76 : a.tmps[76]? = some (.bool false) := by obtain ⟨v, g, e⟩ := hi 76 rfl; exact g.trans (congrArg some e)
        clear hi ho
        go_simp
        exact yieldR_value hS rfl
      refine And.intro ?_ ?_
      · as_aux_lemma =>
        refine rel_run 78 [77] [] 0 true 215 (by rfl) (by kernel_rfl) (Or.inl rfl) (fun a W hS hi ho => ?_)
        show YieldR Try.prog _ (SpR (.val (.bool false))) W _
        have g77 : a.tmps[77]? = some (.bool false) := by obtain ⟨v, g, e⟩ := hi 77 rfl; exact g.trans (congrArg some e)
        clear hi ho
        go_simp
        exact yieldR_value hS rfl
      refine And.intro ?_ ?_
      · as_aux_lemma =>
        refine rel_run 79 [] [8] 78 false 215 (by rfl) (by kernel_rfl) (Or.inr (fun v w h => h)) (fun a W hS hi ho => ?_)
        show YieldR Try.prog _ (SpR (.val (.slice (some ⟨bg, 0, none⟩) n cg))) W _
        have g8 : a.tmps[8]? = some (.slice (some ⟨bg, 0, none⟩) n cg) := (ho 8 rfl).trans rfl
        clear hi ho
        go_simp
        exact yieldR_value hS rfl
      refine And.intro ?_ ?_
      · as_aux_lemma =>
        refine rel_run 80 [] [5] 78 false 215 (by rfl) (by kernel_rfl) (Or.inr (fun v w h => h)) (fun a W hS hi ho => ?_)
        show YieldR Try.prog _ (SpR (.val (.pointer (some ⟨w.heap.size + 1 + 1, 0, none⟩)))) W _
        have g5 : a.tmps[5]? = some (.pointer (some ⟨w.heap.size + 1 + 1, 0, none⟩)) := (ho 5 rfl).trans rfl
        clear hi ho
        go_simp
        exact yieldR_value hS rfl
      refine And.intro ?_ ?_
      · as_aux_lemma =>
        refine rel_run 81 [80] [] 78 false 215 (by rfl) (by kernel_rfl) (Or.inr (fun v w h => h)) (fun a W hS hi ho => ?_)
        show YieldR Try.prog _ (SpR (.val (.int .i64 op))) W _
        have g80 : a.tmps[80]? = some (.pointer (some ⟨w.heap.size + 1 + 1, 0, none⟩)) := by obtain ⟨v, g, e⟩ := hi 80 rfl; exact g.trans (congrArg some e)
        clear hi ho
        obtain ⟨e6, e7, e9, e14, e15, e16, E0, E1, E2, E3, F0, F1, F2, F3⟩ := PKV.out _ hS
        go_simp
        exact yieldR_value hS rfl
      refine And.intro ?_ ?_
      · as_aux_lemma =>
        refine rel_run 82 [] [5] 78 false 215 (by rfl) (by kernel_rfl) (Or.inr (fun v w h => h)) (fun a W hS hi ho => ?_)
        show YieldR Try.prog _ (SpR (.val (.pointer (some ⟨w.heap.size + 1 + 1, 8, none⟩)))) W _
        have g5 : a.tmps[5]? = some (.pointer (some ⟨w.heap.size + 1 + 1, 0, none⟩)) := (ho 5 rfl).trans rfl
        clear hi ho
        go_simp
        exact yieldR_value hS rfl
      refine And.intro ?_ ?_
      · as_aux_lemma =>
        refine rel_run 83 [82] [] 78 false 215 (by rfl) (by kernel_rfl) (Or.inr (fun v w h => h)) (fun a W hS hi ho => ?_)
        show YieldR Try.prog _ (SpR (.val (.bool hd))) W _
        have g82 : a.tmps[82]? = some (.pointer (some ⟨w.heap.size + 1 + 1, 8, none⟩)) := by obtain ⟨v, g, e⟩ := hi 82 rfl; exact g.trans (congrArg some e)
        clear hi ho
        obtain ⟨e6, e7, e9, e14, e15, e16, E0, E1, E2, E3, F0, F1, F2, F3⟩ := PKV.out _ hS
        go_simp
        exact yieldR_value hS rfl
      refine And.intro ?_ ?_
      · as_aux_lemma =>
        refine rel_run 84 [] [12] 78 false 215 (by rfl) (by kernel_rfl) (Or.inr (fun v w h => h)) (fun a W hS hi ho => ?_)
        show YieldR Try.prog _ (SpR (.val (.agg #[.int .i64 so, .int .i64 sn, .int .i64 sv, .slice os sl.length cs]))) W _
        have g12 : a.tmps[12]? = some (.pointer (some ⟨E, 0, none⟩)) := (ho 12 rfl).trans rfl
        clear hi ho
        obtain ⟨e6, e7, e9, e14, e15, e16, E0, E1, E2, E3, F0, F1, F2, F3⟩ := PKV.out _ hS
        go_simp
        exact yieldR_value hS rfl
      refine And.intro ?_ ?_
      · as_aux_lemma =>
        refine rel_run 85 [] [13] 78 false 215 (by rfl) (by kernel_rfl) (Or.inr (fun v w h => h)) (fun a W hS hi ho => ?_)
        show YieldR Try.prog _ (SpR (.val (.agg #[.int .i64 ro, .int .i64 rn, .int .i64 rv, .slice or rl.length cr]))) W _
        have g13 : a.tmps[13]? = some (.pointer (some ⟨F, 0, none⟩)) := (ho 13 rfl).trans rfl
        clear hi ho
        obtain ⟨e6, e7, e9, e14, e15, e16, E0, E1, E2, E3, F0, F1, F2, F3⟩ := PKV.out _ hS
        go_simp
        exact yieldR_value hS rfl
      refine And.intro ?_ ?_
      · as_aux_lemma =>
        refine rel_run 86 [] [5] 78 false 215 (by rfl) (by kernel_rfl) (Or.inr (fun v w h => h)) (fun a W hS hi ho => ?_)
        show YieldR Try.prog _ (SpR (.val (.pointer (some ⟨w.heap.size + 1 + 1, 9, none⟩)))) W _
        have g5 : a.tmps[5]? = some (.pointer (some ⟨w.heap.size + 1 + 1, 0, none⟩)) := (ho 5 rfl).trans rfl
        clear hi ho
        go_simp
        exact yieldR_value hS rfl
      refine And.intro ?_ ?_
      · as_aux_lemma =>
        refine rel_run 87 [86] [] 78 false 215 (by rfl) (by kernel_rfl) (Or.inr (fun v w h => h)) (fun a W hS hi ho => ?_)
        show YieldR Try.prog _ (SpR (.val (.agg #[.bool wa, .bool wb]))) W _
        have g86 : a.tmps[86]? = some (.pointer (some ⟨w.heap.size + 1 + 1, 9, none⟩)) := by obtain ⟨v, g, e⟩ := hi 86 rfl; exact g.trans (congrArg some e)
        clear hi ho
        obtain ⟨e6, e7, e9, e14, e15, e16, E0, E1, E2, E3, F0, F1, F2, F3⟩ := PKV.out _ hS
        go_simp
        exact yieldR_value hS rfl
      refine And.intro ?_ ?_
      · as_aux_lemma =>
        refine rel_run 88 [79, 81, 83, 84, 85, 87] [] 78 false 215 (by rfl) (by kernel_rfl) (Or.inr (fun v w h => h)) (fun a W hS hi ho => ?_)
        show YieldR Try.prog _ (SpR (.gr n m ZA)) W _
        have g79 : a.tmps[79]? = some (.slice (some ⟨bg, 0, none⟩) n cg) := by obtain ⟨v, g, e⟩ := hi 79 rfl; exact g.trans (congrArg some e)
        have g81 : a.tmps[81]? = some (.int .i64 op) := by obtain ⟨v, g, e⟩ := hi 81 rfl; exact g.trans (congrArg some e)
        have g83 : a.tmps[83]? = some (.bool hd) := by obtain ⟨v, g, e⟩ := hi 83 rfl; exact g.trans (congrArg some e)
        have g84 : a.tmps[84]? = some (.agg #[.int .i64 so, .int .i64 sn, .int .i64 sv, .slice os sl.length cs]) := by obtain ⟨v, g, e⟩ := hi 84 rfl; exact g.trans (congrArg some e)
        have g85 : a.tmps[85]? = some (.agg #[.int .i64 ro, .int .i64 rn, .int .i64 rv, .slice or rl.length cr]) := by obtain ⟨v, g, e⟩ := hi 85 rfl; exact g.trans (congrArg some e)
        have g87 : a.tmps[87]? = some (.agg #[.bool wa, .bool wb]) := by obtain ⟨v, g, e⟩ := hi 87 rfl; exact g.trans (congrArg some e)
        clear hi ho
        go_simp
        refine yieldR_enter ?_
        (with_reducible refine (KAo.out _ hS).mono ?_)
        rintro e w1 ⟨b, c, R, C, rfl, hg, hb⟩
        exact ⟨_, rfl, stepA hS hb, hb, b, c, R, C, _, rfl, hg⟩
      refine And.intro ?_ ?_
      · as_aux_lemma =>
        refine rel_run 89 [] [8] 78 false 215 (by rfl) (by kernel_rfl) (Or.inr (fun v w h => h)) (fun a W hS hi ho => ?_)
        show YieldR Try.prog _ (SpR (.val (.slice (some ⟨bg, 0, none⟩) n cg))) W _
        have g8 : a.tmps[8]? = some (.slice (some ⟨bg, 0, none⟩) n cg) := (ho 8 rfl).trans rfl
        clear hi ho
        go_simp
        exact yieldR_value hS rfl
      refine And.intro ?_ ?_
      · as_aux_lemma =>
        refine rel_run 90 [] [5] 78 false 215 (by rfl) (by kernel_rfl) (Or.inr (fun v w h => h)) (fun a W hS hi ho => ?_)
        show YieldR Try.prog _ (SpR (.val (.pointer (some ⟨w.heap.size + 1 + 1, 0, none⟩)))) W _
        have g5 : a.tmps[5]? = some (.pointer (some ⟨w.heap.size + 1 + 1, 0, none⟩)) := (ho 5 rfl).trans rfl
        clear hi ho
        go_simp
        exact yieldR_value hS rfl
      refine And.intro ?_ ?_
      · as_aux_lemma =>
        refine rel_run 91 [90] [] 78 false 215 (by rfl) (by kernel_rfl) (Or.inr (fun v w h => h)) (fun a W hS hi ho => ?_)
        show YieldR Try.prog _ (SpR (.val (.int .i64 op))) W _
        have g90 : a.tmps[90]? = some (.pointer (some ⟨w.heap.size + 1 + 1, 0, none⟩)) := by obtain ⟨v, g, e⟩ := hi 90 rfl; exact g.trans (congrArg some e)
        clear hi ho
        obtain ⟨e6, e7, e9, e14, e15, e16, E0, E1, E2, E3, F0, F1, F2, F3⟩ := PKV.out _ hS
        go_simp
        exact yieldR_value hS rfl
      refine And.intro ?_ ?_
      · as_aux_lemma =>
        refine rel_run 92 [] [5] 78 false 215 (by rfl) (by kernel_rfl) (Or.inr (fun v w h => h)) (fun a W hS hi ho => ?_)
        show YieldR Try.prog _ (SpR (.val (.pointer (some ⟨w.heap.size + 1 + 1, 8, none⟩)))) W _
        have g5 : a.tmps[5]? = some (.pointer (some ⟨w.heap.size + 1 + 1, 0, none⟩)) := (ho 5 rfl).trans rfl
        clear hi ho
        go_simp
        exact yieldR_value hS rfl
      refine And.intro ?_ ?_
      · as_aux_lemma =>
        refine rel_run 93 [92] [] 78 false 215 (by rfl) (by kernel_rfl) (Or.inr (fun v w h => h)) (fun a W hS hi ho => ?_)
        show YieldR Try.prog _ (SpR (.val (.bool hd))) W _
        have g92 : a.tmps[92]? = some (.pointer (some ⟨w.heap.size + 1 + 1, 8, none⟩)) := by obtain ⟨v, g, e⟩ := hi 92 rfl; exact g.trans (congrArg some e)
        clear hi ho
        obtain ⟨e6, e7, e9, e14, e15, e16, E0, E1, E2, E3, F0, F1, F2, F3⟩ := PKV.out _ hS
        go_simp
        exact yieldR_value hS rfl
      refine And.intro ?_ ?_
      · as_aux_lemma =>
        refine rel_run 94 [] [12] 78 false 215 (by rfl) (by kernel_rfl) (Or.inr (fun v w h => h)) (fun a W hS hi ho => ?_)
        show YieldR Try.prog _ (SpR (.val (.agg #[.int .i64 so, .int .i64 sn, .int .i64 sv, .slice os sl.length cs]))) W _
        have g12 : a.tmps[12]? = some (.pointer (some ⟨E, 0, none⟩)) := (ho 12 rfl).trans rfl
        clear hi ho
        obtain ⟨e6, e7, e9, e14, e15, e16, E0, E1, E2, E3, F0, F1, F2, F3⟩ := PKV.out _ hS
        go_simp
        exact yieldR_value hS rfl
      refine And.intro ?_ ?_
      · as_aux_lemma =>
        refine rel_run 95 [] [13] 78 false 215 (by rfl) (by kernel_rfl) (Or.inr (fun v w h => h)) (fun a W hS hi ho => ?_)
        show YieldR Try.prog _ (SpR (.val (.agg #[.int .i64 ro, .int .i64 rn, .int .i64 rv, .slice or rl.length cr]))) W _
        have g13 : a.tmps[13]? = some (.pointer (some ⟨F, 0, none⟩)) := (ho 13 rfl).trans rfl
        clear hi ho
        obtain ⟨e6, e7, e9, e14, e15, e16, E0, E1, E2, E3, F0, F1, F2, F3⟩ := PKV.out _ hS
        go_simp
        exact yieldR_value hS rfl
      refine And.intro ?_ ?_
      · as_aux_lemma =>
        refine rel_run 96 [] [5] 78 false 215 (by rfl) (by kernel_rfl) (Or.inr (fun v w h => h)) (fun a W hS hi ho => ?_)
        show YieldR Try.prog _ (SpR (.val (.pointer (some ⟨w.heap.size + 1 + 1, 9, none⟩)))) W _
        have g5 : a.tmps[5]? = some (.pointer (some ⟨w.heap.size + 1 + 1, 0, none⟩)) := (ho 5 rfl).trans rfl
        clear hi ho
        go_simp
        exact yieldR_value hS rfl
      refine And.intro ?_ ?_
      · as_aux_lemma =>
        refine rel_run 97 [96] [] 78 false 215 (by rfl) (by kernel_rfl) (Or.inr (fun v w h => h)) (fun a W hS hi ho => ?_)
        show YieldR Try.prog _ (SpR (.val (.agg #[.bool wa, .bool wb]))) W _
        have g96 : a.tmps[96]? = some (.pointer (some ⟨w.heap.size + 1 + 1, 9, none⟩)) := by obtain ⟨v, g, e⟩ := hi 96 rfl; exact g.trans (congrArg some e)
        clear hi ho
        obtain ⟨e6, e7, e9, e14, e15, e16, E0, E1, E2, E3, F0, F1, F2, F3⟩ := PKV.out _ hS
        go_simp
        exact yieldR_value hS rfl
      refine And.intro ?_ ?_
      · as_aux_lemma =>
        refine rel_run 98 [89, 91, 93, 94, 95, 97] [] 78 false 215 (by rfl) (by kernel_rfl) (Or.inr (fun v w h => h)) (fun a W hS hi ho => ?_)
        show YieldR Try.prog _ (SpR (.gr n m ZA)) W _
        have g89 : a.tmps[89]? = some (.slice (some ⟨bg, 0, none⟩) n cg) := by obtain ⟨v, g, e⟩ := hi 89 rfl; exact g.trans (congrArg some e)
        have g91 : a.tmps[91]? = some (.int .i64 op) := by obtain ⟨v, g, e⟩ := hi 91 rfl; exact g.trans (congrArg some e)
        have g93 : a.tmps[93]? = some (.bool hd) := by obtain ⟨v, g, e⟩ := hi 93 rfl; exact g.trans (congrArg some e)
        have g94 : a.tmps[94]? = some (.agg #[.int .i64 so, .int .i64 sn, .int .i64 sv, .slice os sl.length cs]) := by obtain ⟨v, g, e⟩ := hi 94 rfl; exact g.trans (congrArg some e)
        have g95 : a.tmps[95]? = some (.agg #[.int .i64 ro, .int .i64 rn, .int .i64 rv, .slice or rl.length cr]) := by obtain ⟨v, g, e⟩ := hi 95 rfl; exact g.trans (congrArg some e)
        have g97 : a.tmps[97]? = some (.agg #[.bool wa, .bool wb]) := by obtain ⟨v, g, e⟩ := hi 97 rfl; exact g.trans (congrArg some e)
        clear hi ho
        go_simp
        refine yieldR_enter ?_
        (with_reducible refine (KAr.out _ hS).mono ?_)
        rintro e w1 ⟨b, c, R, C, rfl, hg, hb⟩
        exact ⟨_, rfl, stepA hS hb, hb, b, c, R, C, _, rfl, hg⟩
      refine And.intro ?_ ?_
      · as_aux_lemma =>
        refine rel_run 99 [88, 98] [] 78 false 215 (by rfl) (by kernel_rfl) (Or.inr (fun v w h => h)) (fun a W hS hi ho => ?_)
        show YieldR Try.prog _ (SpR (.val (.bool true))) W _
        obtain ⟨v88, g88, h88⟩ := hi 88 rfl
        have h88' : SpR (.gr n m ZA) v88 W := h88
        obtain ⟨b88, c88, R88, C88, lo88, rfl, q88⟩ := h88'
        clear h88
        obtain ⟨v98, g98, h98⟩ := hi 98 rfl
        have h98' : SpR (.gr n m ZA) v98 W := h98
        obtain ⟨b98, c98, R98, C98, lo98, rfl, q98⟩ := h98'
        clear h98
        clear hi ho
        go_simp
        refine yieldR_enter ?_
        (with_reducible refine (same_self c88 q88 c98 q98 n5 m3).mono ?_)
        rintro e w1 ⟨rfl, hb⟩
        exact ⟨_, rfl, stepA hS hb, hb, rfl⟩
      refine And.intro ?_ ?_
      · as_aux_lemma =>
        refine rel_run 100 [99] [] 78 false 215 (by rfl) (by kernel_rfl) (Or.inr (fun v w h => h)) (fun a W hS hi ho => ?_)
        show YieldR Try.prog _ (SpR (.val (.bool false))) W _
        have g99 : a.tmps[99]? = some (.bool true) := by obtain ⟨v, g, e⟩ := hi 99 rfl; exact g.trans (congrArg some e)
        clear hi ho
        go_simp
        exact yieldR_value hS rfl
      refine And.intro ?_ ?_
      · as_aux_lemma =>
        refine rel_run 101 [78, 100] [] 0 true 215 (by rfl) (by kernel_rfl) (Or.inl rfl) (fun a W hS hi ho => ?_)
        show YieldR Try.prog _ (SpR (.val (.bool false))) W _
        have g78 : a.tmps[78]? = some (.bool false) := by obtain ⟨v, g, e⟩ := hi 78 rfl; exact g.trans (congrArg some e)
        have g100 : a.tmps[100]? = some (.bool false) := by obtain ⟨v, g, e⟩ := hi 100 rfl; exact g.trans (congrArg some e)
        clear hi ho
        go_simp
        exact yieldR_value hS rfl
      refine And.intro ?_ ?_
      · as_aux_lemma =>
        refine rel_run 102 [101] [] 0 true 215 (by rfl) (by kernel_rfl) (Or.inl rfl) (fun a W hS hi ho => ?_)
        show YieldR Try.prog _ (SpR (.val (.bool false))) W _
        have g101 : a.tmps[101]? = some (.bool false) := by obtain ⟨v, g, e⟩ := hi 101 rfl; exact g.trans (congrArg some e)
        clear hi ho
        go_simp
        exact yieldR_value hS rfl
      refine And.intro ?_ ?_
      · as_aux_lemma =>
        refine rel_run 103 [] [8] 102 false 215 (by rfl) (by kernel_rfl) (Or.inr (fun v w h => h)) (fun a W hS hi ho => ?_)
        show YieldR Try.prog _ (SpR (.val (.slice (some ⟨bg, 0, none⟩) n cg))) W _
        have g8 : a.tmps[8]? = some (.slice (some ⟨bg, 0, none⟩) n cg) := (ho 8 rfl).trans rfl
        clear hi ho
        go_simp
        exact yieldR_value hS rfl
      refine And.intro ?_ ?_
      · as_aux_lemma =>
        refine rel_run 104 [] [9] 102 false 215 (by rfl) (by kernel_rfl) (Or.inr (fun v w h => h)) (fun a W hS hi ho => ?_)
        show YieldR Try.prog _ (SpR (.val (.slice (some ⟨bh, 0, none⟩) n ch))) W _
        have g9 : a.tmps[9]? = some (.slice (some ⟨bh, 0, none⟩) n ch) := (ho 9 rfl).trans rfl
        clear hi ho
        go_simp
        exact yieldR_value hS rfl
      refine And.intro ?_ ?_
      · as_aux_lemma =>
        refine rel_run 105 [103, 104] [] 102 false 215 (by rfl) (by kernel_rfl) (Or.inr (fun v w h => h)) (fun a W hS hi ho => ?_)
        show YieldR Try.prog _ (SpR (.gr n m (fun i j => max (Zg i j) (Zh i j)))) W _
        have g103 : a.tmps[103]? = some (.slice (some ⟨bg, 0, none⟩) n cg) := by obtain ⟨v, g, e⟩ := hi 103 rfl; exact g.trans (congrArg some e)
        have g104 : a.tmps[104]? = some (.slice (some ⟨bh, 0, none⟩) n ch) := by obtain ⟨v, g, e⟩ := hi 104 rfl; exact g.trans (congrArg some e)
        clear hi ho
        go_simp
        refine yieldR_enter ?_
        (with_reducible refine (KJo.out _ hS).mono ?_)
        rintro e w1 ⟨b, c, R, C, rfl, hg, hb⟩
        exact ⟨_, rfl, stepA hS hb, hb, b, c, R, C, _, rfl, hg⟩
      refine And.intro ?_ ?_
      · as_aux_lemma =>
        refine rel_run 106 [] [8] 102 false 215 (by rfl) (by kernel_rfl) (Or.inr (fun v w h => h)) (fun a W hS hi ho => ?_)
        show YieldR Try.prog _ (SpR (.val (.slice (some ⟨bg, 0, none⟩) n cg))) W _
        have g8 : a.tmps[8]? = some (.slice (some ⟨bg, 0, none⟩) n cg) := (ho 8 rfl).trans rfl
        clear hi ho
        go_simp
        exact yieldR_value hS rfl
      refine And.intro ?_ ?_
      · as_aux_lemma =>
        refine rel_run 107 [] [9] 102 false 215 (by rfl) (by kernel_rfl) (Or.inr (fun v w h => h)) (fun a W hS hi ho => ?_)
        show YieldR Try.prog _ (SpR (.val (.slice (some ⟨bh, 0, none⟩) n ch))) W _
        have g9 : a.tmps[9]? = some (.slice (some ⟨bh, 0, none⟩) n ch) := (ho 9 rfl).trans rfl
        clear hi ho
        go_simp
        exact yieldR_value hS rfl
      refine And.intro ?_ ?_
      · as_aux_lemma =>
        refine rel_run 108 [106, 107] [] 102 false 215 (by rfl) (by kernel_rfl) (Or.inr (fun v w h => h)) (fun a W hS hi ho => ?_)
        show YieldR Try.prog _ (SpR (.gr n m (fun i j => max (Zg i j) (Zh i j)))) W _
        have g106 : a.tmps[106]? = some (.slice (some ⟨bg, 0, none⟩) n cg) := by obtain ⟨v, g, e⟩ := hi 106 rfl; exact g.trans (congrArg some e)
        have g107 : a.tmps[107]? = some (.slice (some ⟨bh, 0, none⟩) n ch) := by obtain ⟨v, g, e⟩ := hi 107 rfl; exact g.trans (congrArg some e)
        clear hi ho
        go_simp
        refine yieldR_enter ?_
        (with_reducible refine (KJr.out _ hS).mono ?_)
        rintro e w1 ⟨b, c, R, C, rfl, hg, hb⟩
        exact ⟨_, rfl, stepA hS hb, hb, b, c, R, C, _, rfl, hg⟩
      refine And.intro ?_ ?_
      · as_aux_lemma =>
        refine rel_run 109 [105, 108] [] 102 false 215 (by rfl) (by kernel_rfl) (Or.inr (fun v w h => h)) (fun a W hS hi ho => ?_)
        show YieldR Try.prog _ (SpR (.val (.bool true))) W _
        obtain ⟨v105, g105, h105⟩ := hi 105 rfl
        have h105' : SpR (.gr n m (fun i j => max (Zg i j) (Zh i j))) v105 W := h105
        obtain ⟨b105, c105, R105, C105, lo105, rfl, q105⟩ := h105'
        clear h105
        obtain ⟨v108, g108, h108⟩ := hi 108 rfl
        have h108' : SpR (.gr n m (fun i j => max (Zg i j) (Zh i j))) v108 W := h108
        obtain ⟨b108, c108, R108, C108, lo108, rfl, q108⟩ := h108'
        clear h108
        clear hi ho
        go_simp
        refine yieldR_enter ?_
        (with_reducible refine (same_self c105 q105 c108 q108 n5 m3).mono ?_)
        rintro e w1 ⟨rfl, hb⟩
        exact ⟨_, rfl, stepA hS hb, hb, rfl⟩
      refine And.intro ?_ ?_
      · as_aux_lemma =>
        refine rel_run 110 [109] [] 102 false 215 (by rfl) (by kernel_rfl) (Or.inr (fun v w h => h)) (fun a W hS hi ho => ?_)
        show YieldR Try.prog _ (SpR (.val (.bool false))) W _
        have g109 : a.tmps[109]? = some (.bool true) := by obtain ⟨v, g, e⟩ := hi 109 rfl; exact g.trans (congrArg some e)
        clear hi ho
        go_simp
        exact yieldR_value hS rfl
      refine And.intro ?_ ?_
      · as_aux_lemma =>
        refine rel_run 111 [102, 110] [] 0 true 215 (by rfl) (by kernel_rfl) (Or.inl rfl) (fun a W hS hi ho => ?_)
        show YieldR Try.prog _ (SpR (.val (.bool false))) W _
        have g102 : a.tmps[102]? = some (.bool false) := by obtain ⟨v, g, e⟩ := hi 102 rfl; exact g.trans (congrArg some e)
        have g110 : a.tmps[110]? = some (.bool false) := by obtain ⟨v, g, e⟩ := hi 110 rfl; exact g.trans (congrArg some e)
        clear hi ho
        go_simp
        exact yieldR_value hS rfl
      refine And.intro ?_ ?_
      · as_aux_lemma =>
        refine rel_run 112 [111] [] 0 true 215 (by rfl) (by kernel_rfl) (Or.inl rfl) (fun a W hS hi ho => ?_)
        show YieldR Try.prog _ (SpR (.val (.bool false))) W _
        have g111 : a.tmps[111]? = some (.bool false) := by obtain ⟨v, g, e⟩ := hi 111 rfl; exact g.trans (congrArg some e)
        clear hi ho
        go_simp
        exact yieldR_value hS rfl
      refine And.intro ?_ ?_
      · as_aux_lemma =>
        refine rel_run 113 [] [8] 112 false 215 (by rfl) (by kernel_rfl) (Or.inr (fun v w h => h)) (fun a W hS hi ho => ?_)
        show YieldR Try.prog _ (SpR (.val (.slice (some ⟨bg, 0, none⟩) n cg))) W _
        have g8 : a.tmps[8]? = some (.slice (some ⟨bg, 0, none⟩) n cg) := (ho 8 rfl).trans rfl
        clear hi ho
        go_simp
        exact yieldR_value hS rfl
      refine And.intro ?_ ?_
      · as_aux_lemma =>
        refine rel_run 114 [] [9] 112 false 215 (by rfl) (by kernel_rfl) (Or.inr (fun v w h => h)) (fun a W hS hi ho => ?_)
        show YieldR Try.prog _ (SpR (.val (.slice (some ⟨bh, 0, none⟩) n ch))) W _
        have g9 : a.tmps[9]? = some (.slice (some ⟨bh, 0, none⟩) n ch) := (ho 9 rfl).trans rfl
        clear hi ho
        go_simp
        exact yieldR_value hS rfl
      refine And.intro ?_ ?_
      · as_aux_lemma =>
        refine rel_run 115 [113, 114] [] 112 false 215 (by rfl) (by kernel_rfl) (Or.inr (fun v w h => h)) (fun a W hS hi ho => ?_)
        show YieldR Try.prog _ (SpR (.gr n m (fun i j => if Zg i j < Zh i j then 1099511627776 else Zg i j))) W _
        have g113 : a.tmps[113]? = some (.slice (some ⟨bg, 0, none⟩) n cg) := by obtain ⟨v, g, e⟩ := hi 113 rfl; exact g.trans (congrArg some e)
        have g114 : a.tmps[114]? = some (.slice (some ⟨bh, 0, none⟩) n ch) := by obtain ⟨v, g, e⟩ := hi 114 rfl; exact g.trans (congrArg some e)
        clear hi ho
        go_simp
        refine yieldR_enter ?_
        (with_reducible refine (KWo.out _ hS).mono ?_)
        rintro e w1 ⟨b, c, R, C, rfl, hg, hb⟩
        exact ⟨_, rfl, stepA hS hb, hb, b, c, R, C, _, rfl, hg⟩
      refine And.intro ?_ ?_
      · as_aux_lemma =>
        refine rel_run 116 [] [8] 112 false 215 (by rfl) (by kernel_rfl) (Or.inr (fun v w h => h)) (fun a W hS hi ho => ?_)
        show YieldR Try.prog _ (SpR (.val (.slice (some ⟨bg, 0, none⟩) n cg))) W _
        have g8 : a.tmps[8]? = some (.slice (some ⟨bg, 0, none⟩) n cg) := (ho 8 rfl).trans rfl
        clear hi ho
        go_simp
        exact yieldR_value hS rfl
      refine And.intro ?_ ?_
      · as_aux_lemma =>
        refine rel_run 117 [] [9] 112 false 215 (by rfl) (by kernel_rfl) (Or.inr (fun v w h => h)) (fun a W hS hi ho => ?_)
        show YieldR Try.prog _ (SpR (.val (.slice (some ⟨bh, 0, none⟩) n ch))) W _
        have g9 : a.tmps[9]? = some (.slice (some ⟨bh, 0, none⟩) n ch) := (ho 9 rfl).trans rfl
        clear hi ho
        go_simp
        exact yieldR_value hS rfl
      refine And.intro ?_ ?_
      · as_aux_lemma =>
        refine rel_run 118 [116, 117] [] 112 false 215 (by rfl) (by kernel_rfl) (Or.inr (fun v w h => h)) (fun a W hS hi ho => ?_)
        show YieldR Try.prog _ (SpR (.gr n m (fun i j => if Zg i j < Zh i j then 1099511627776 else Zg i j))) W _
        have g116 : a.tmps[116]? = some (.slice (some ⟨bg, 0, none⟩) n cg) := by obtain ⟨v, g, e⟩ := hi 116 rfl; exact g.trans (congrArg some e)
        have g117 : a.tmps[117]? = some (.slice (some ⟨bh, 0, none⟩) n ch) := by obtain ⟨v, g, e⟩ := hi 117 rfl; exact g.trans (congrArg some e)
        clear hi ho
        go_simp
        refine yieldR_enter ?_
        (with_reducible refine (KWr.out _ hS).mono ?_)
        rintro e w1 ⟨b, c, R, C, rfl, hg, hb⟩
        exact ⟨_, rfl, stepA hS hb, hb, b, c, R, C, _, rfl, hg⟩
      refine And.intro ?_ ?_
      · as_aux_lemma =>
        refine rel_run 119 [115, 118] [] 112 false 215 (by rfl) (by kernel_rfl) (Or.inr (fun v w h => h)) (fun a W hS hi ho => ?_)
        show YieldR Try.prog _ (SpR (.val (.bool true))) W _
        obtain ⟨v115, g115, h115⟩ := hi 115 rfl
        have h115' : SpR (.gr n m (fun i j => if Zg i j < Zh i j then 1099511627776 else Zg i j)) v115 W := h115
        obtain ⟨b115, c115, R115, C115, lo115, rfl, q115⟩ := h115'
        clear h115
        obtain ⟨v118, g118, h118⟩ := hi 118 rfl
        have h118' : SpR (.gr n m (fun i j => if Zg i j < Zh i j then 1099511627776 else Zg i j)) v118 W := h118
        obtain ⟨b118, c118, R118, C118, lo118, rfl, q118⟩ := h118'
        clear h118
        clear hi ho
        go_simp
        refine yieldR_enter ?_
        (with_reducible refine (same_self c115 q115 c118 q118 n5 m3).mono ?_)
        rintro e w1 ⟨rfl, hb⟩
        exact ⟨_, rfl, stepA hS hb, hb, rfl⟩
      refine And.intro ?_ ?_
      · as_aux_lemma =>
        refine rel_run 120 [119] [] 112 false 215 (by rfl) (by kernel_rfl) (Or.inr (fun v w h => h)) (fun a W hS hi ho => ?_)
        show YieldR Try.prog _ (SpR (.val (.bool false))) W _
        have g119 : a.tmps[119]? = some (.bool true) := by obtain ⟨v, g, e⟩ := hi 119 rfl; exact g.trans (congrArg some e)
        clear hi ho
        go_simp
        exact yieldR_value hS rfl
      refine And.intro ?_ ?_
      · as_aux_lemma =>
        refine rel_run 121 [112, 120] [] 0 true 215 (by rfl) (by kernel_rfl) (Or.inl rfl) (fun a W hS hi ho => ?_)
        show YieldR Try.prog _ (SpR (.val (.bool false))) W _
        have g112 : a.tmps[112]? = some (.bool false) := by obtain ⟨v, g, e⟩ := hi 112 rfl; exact g.trans (congrArg some e)
        have g120 : a.tmps[120]? = some (.bool false) := by obtain ⟨v, g, e⟩ := hi 120 rfl; exact g.trans (congrArg some e)
        clear hi ho
        go_simp
        exact yieldR_value hS rfl
      refine And.intro ?_ ?_
      · as_aux_lemma =>
        refine rel_run 122 [121] [] 0 true 215 (by rfl) (by kernel_rfl) (Or.inl rfl) (fun a W hS hi ho => ?_)
        show YieldR Try.prog _ (SpR (.val (.bool false))) W _
        have g121 : a.tmps[121]? = some (.bool false) := by obtain ⟨v, g, e⟩ := hi 121 rfl; exact g.trans (congrArg some e)
        clear hi ho
        go_simp
        exact yieldR_value hS rfl
      refine And.intro ?_ ?_
      · as_aux_lemma =>
        refine rel_run 123 [] [8] 122 false 215 (by rfl) (by kernel_rfl) (Or.inr (fun v w h => h)) (fun a W hS hi ho => ?_)
        show YieldR Try.prog _ (SpR (.val (.slice (some ⟨bg, 0, none⟩) n cg))) W _
        have g8 : a.tmps[8]? = some (.slice (some ⟨bg, 0, none⟩) n cg) := (ho 8 rfl).trans rfl
        clear hi ho
        go_simp
        exact yieldR_value hS rfl
      refine And.intro ?_ ?_
      · as_aux_lemma =>
        refine rel_run 124 [] [9] 122 false 215 (by rfl) (by kernel_rfl) (Or.inr (fun v w h => h)) (fun a W hS hi ho => ?_)
        show YieldR Try.prog _ (SpR (.val (.slice (some ⟨bh, 0, none⟩) n ch))) W _
        have g9 : a.tmps[9]? = some (.slice (some ⟨bh, 0, none⟩) n ch) := (ho 9 rfl).trans rfl
        clear hi ho
        go_simp
        exact yieldR_value hS rfl
      refine And.intro ?_ ?_
      · as_aux_lemma =>
        refine rel_run 125 [123, 124] [] 122 false 215 (by rfl) (by kernel_rfl) (Or.inr (fun v w h => h)) (fun a W hS hi ho => ?_)
        show YieldR Try.prog _ (SpR (.val (.bool q1))) W _
        have g123 : a.tmps[123]? = some (.slice (some ⟨bg, 0, none⟩) n cg) := by obtain ⟨v, g, e⟩ := hi 123 rfl; exact g.trans (congrArg some e)
        have g124 : a.tmps[124]? = some (.slice (some ⟨bh, 0, none⟩) n ch) := by obtain ⟨v, g, e⟩ := hi 124 rfl; exact g.trans (congrArg some e)
        clear hi ho
        go_simp
        refine yieldR_enter ?_
        (with_reducible refine (KLo.out _ hS).mono ?_)
        rintro e w1 ⟨rfl, hb⟩
        exact ⟨_, rfl, stepA hS hb, hb, rfl⟩
      refine And.intro ?_ ?_
      · as_aux_lemma =>
        refine rel_run 126 [] [8] 122 false 215 (by rfl) (by kernel_rfl) (Or.inr (fun v w h => h)) (fun a W hS hi ho => ?_)
        show YieldR Try.prog _ (SpR (.val (.slice (some ⟨bg, 0, none⟩) n cg))) W _
        have g8 : a.tmps[8]? = some (.slice (some ⟨bg, 0, none⟩) n cg) := (ho 8 rfl).trans rfl
        clear hi ho
        go_simp
        exact yieldR_value hS rfl
      refine And.intro ?_ ?_
      · as_aux_lemma =>
        refine rel_run 127 [] [9] 122 false 215 (by rfl) (by kernel_rfl) (Or.inr (fun v w h => h)) (fun a W hS hi ho => ?_)
        show YieldR Try.prog _ (SpR (.val (.slice (some ⟨bh, 0, none⟩) n ch))) W _
        have g9 : a.tmps[9]? = some (.slice (some ⟨bh, 0, none⟩) n ch) := (ho 9 rfl).trans rfl
        clear hi ho
        go_simp
        exact yieldR_value hS rfl
      refine And.intro ?_ ?_
      · as_aux_lemma =>
        refine rel_run 128 [126, 127] [] 122 false 215 (by rfl) (by kernel_rfl) (Or.inr (fun v w h => h)) (fun a W hS hi ho => ?_)
        show YieldR Try.prog _ (SpR (.val (.bool q1))) W _
        have g126 : a.tmps[126]? = some (.slice (some ⟨bg, 0, none⟩) n cg) := by obtain ⟨v, g, e⟩ := hi 126 rfl; exact g.trans (congrArg some e)
        have g127 : a.tmps[127]? = some (.slice (some ⟨bh, 0, none⟩) n ch) := by obtain ⟨v, g, e⟩ := hi 127 rfl; exact g.trans (congrArg some e)
        clear hi ho
        go_simp
        refine yieldR_enter ?_
        (with_reducible refine (KLr.out _ hS).mono ?_)
        rintro e w1 ⟨rfl, hb⟩
        exact ⟨_, rfl, stepA hS hb, hb, rfl⟩
      refine And.intro ?_ ?_
      · as_aux_lemma =>
        refine rel_run 129 [125, 128] [] 122 false 215 (by rfl) (by kernel_rfl) (Or.inr (fun v w h => h)) (fun a W hS hi ho => ?_)
        show YieldR Try.prog _ (SpR (.val (.bool false))) W _
        have g125 : a.tmps[125]? = some (.bool q1) := by obtain ⟨v, g, e⟩ := hi 125 rfl; exact g.trans (congrArg some e)
        have g128 : a.tmps[128]? = some (.bool q1) := by obtain ⟨v, g, e⟩ := hi 128 rfl; exact g.trans (congrArg some e)
        clear hi ho
        go_simp
        exact yieldR_value hS rfl
      refine And.intro ?_ ?_
      · as_aux_lemma =>
        refine rel_run 130 [122, 129] [] 0 true 215 (by rfl) (by kernel_rfl) (Or.inl rfl) (fun a W hS hi ho => ?_)
        show YieldR Try.prog _ (SpR (.val (.bool false))) W _
        have g122 : a.tmps[122]? = some (.bool false) := by obtain ⟨v, g, e⟩ := hi 122 rfl; exact g.trans (congrArg some e)
        have g129 : a.tmps[129]? = some (.bool false) := by obtain ⟨v, g, e⟩ := hi 129 rfl; exact g.trans (congrArg some e)
        clear hi ho
        go_simp
        exact yieldR_value hS rfl
      refine And.intro ?_ ?_
      · as_aux_lemma =>
        refine rel_run 131 [130] [] 0 true 215 (by rfl) (by kernel_rfl) (Or.inl rfl) (fun a W hS hi ho => ?_)
        show YieldR Try.prog _ (SpR (.val (.bool false))) W _
        have g130 : a.tmps[130]? = some (.bool false) := by obtain ⟨v, g, e⟩ := hi 130 rfl; exact g.trans (congrArg some e)
        clear hi ho
        go_simp
        exact yieldR_value hS rfl
      refine And.intro ?_ ?_
      · as_aux_lemma =>
        refine rel_run 132 [] [8] 131 false 215 (by rfl) (by kernel_rfl) (Or.inr (fun v w h => h)) (fun a W hS hi ho => ?_)
        show YieldR Try.prog _ (SpR (.val (.slice (some ⟨bg, 0, none⟩) n cg))) W _
        have g8 : a.tmps[8]? = some (.slice (some ⟨bg, 0, none⟩) n cg) := (ho 8 rfl).trans rfl
        clear hi ho
        go_simp
        exact yieldR_value hS rfl
      refine And.intro ?_ ?_
      · as_aux_lemma =>
        refine rel_run 133 [] [5] 131 false 215 (by rfl) (by kernel_rfl) (Or.inr (fun v w h => h)) (fun a W hS hi ho => ?_)
        show YieldR Try.prog _ (SpR (.val (.pointer (some ⟨w.heap.size + 1 + 1, 1, none⟩)))) W _
        have g5 : a.tmps[5]? = some (.pointer (some ⟨w.heap.size + 1 + 1, 0, none⟩)) := (ho 5 rfl).trans rfl
        clear hi ho
        go_simp
        exact yieldR_value hS rfl
      refine And.intro ?_ ?_
      · as_aux_lemma =>
        refine rel_run 134 [133] [] 131 false 215 (by rfl) (by kernel_rfl) (Or.inr (fun v w h => h)) (fun a W hS hi ho => ?_)
        show YieldR Try.prog _ (SpR (.val (.int .i64 v))) W _
        have g133 : a.tmps[133]? = some (.pointer (some ⟨w.heap.size + 1 + 1, 1, none⟩)) := by obtain ⟨v, g, e⟩ := hi 133 rfl; exact g.trans (congrArg some e)
        clear hi ho
        obtain ⟨e6, e7, e9, e14, e15, e16, E0, E1, E2, E3, F0, F1, F2, F3⟩ := PKV.out _ hS
        go_simp
        exact yieldR_value hS rfl
      refine And.intro ?_ ?_
      · as_aux_lemma =>
        refine rel_run 135 [] [5] 131 false 215 (by rfl) (by kernel_rfl) (Or.inr (fun v w h => h)) (fun a W hS hi ho => ?_)
        show YieldR Try.prog _ (SpR (.val (.pointer (some ⟨w.heap.size + 1 + 1, 3, none⟩)))) W _
        have g5 : a.tmps[5]? = some (.pointer (some ⟨w.heap.size + 1 + 1, 0, none⟩)) := (ho 5 rfl).trans rfl
        clear hi ho
        go_simp
        exact yieldR_value hS rfl
      refine And.intro ?_ ?_
      · as_aux_lemma =>
        refine rel_run 136 [135] [] 131 false 215 (by rfl) (by kernel_rfl) (Or.inr (fun v w h => h)) (fun a W hS hi ho => ?_)
        show YieldR Try.prog _ (SpR (.val (.int .i64 u))) W _
        have g135 : a.tmps[135]? = some (.pointer (some ⟨w.heap.size + 1 + 1, 3, none⟩)) := by obtain ⟨v, g, e⟩ := hi 135 rfl; exact g.trans (congrArg some e)
        clear hi ho
        obtain ⟨e6, e7, e9, e14, e15, e16, E0, E1, E2, E3, F0, F1, F2, F3⟩ := PKV.out _ hS
        go_simp
        exact yieldR_value hS rfl
      refine And.intro ?_ ?_
      · as_aux_lemma =>
        refine rel_run 137 [132, 134, 136] [] 131 false 215 (by rfl) (by kernel_rfl) (Or.inr (fun v w h => h)) (fun a W hS hi ho => ?_)
        show YieldR Try.prog _ (SpR (.val (.int .i64 bb))) W _
        have g132 : a.tmps[132]? = some (.slice (some ⟨bg, 0, none⟩) n cg) := by obtain ⟨v, g, e⟩ := hi 132 rfl; exact g.trans (congrArg some e)
        have g134 : a.tmps[134]? = some (.int .i64 v) := by obtain ⟨v, g, e⟩ := hi 134 rfl; exact g.trans (congrArg some e)
        have g136 : a.tmps[136]? = some (.int .i64 u) := by obtain ⟨v, g, e⟩ := hi 136 rfl; exact g.trans (congrArg some e)
        clear hi ho
        go_simp
        refine yieldR_enter ?_
        (with_reducible refine (KBo.out _ hS).mono ?_)
        rintro e w1 ⟨rfl, hb⟩
        exact ⟨_, rfl, stepA hS hb, hb, rfl⟩
      refine And.intro ?_ ?_
      · as_aux_lemma =>
        refine rel_run 138 [] [8] 131 false 215 (by rfl) (by kernel_rfl) (Or.inr (fun v w h => h)) (fun a W hS hi ho => ?_)
        show YieldR Try.prog _ (SpR (.val (.slice (some ⟨bg, 0, none⟩) n cg))) W _
        have g8 : a.tmps[8]? = some (.slice (some ⟨bg, 0, none⟩) n cg) := (ho 8 rfl).trans rfl
        clear hi ho
        go_simp
        exact yieldR_value hS rfl
      refine And.intro ?_ ?_
      · as_aux_lemma =>
        refine rel_run 139 [] [5] 131 false 215 (by rfl) (by kernel_rfl) (Or.inr (fun v w h => h)) (fun a W hS hi ho => ?_)
        show YieldR Try.prog _ (SpR (.val (.pointer (some ⟨w.heap.size + 1 + 1, 1, none⟩)))) W _
        have g5 : a.tmps[5]? = some (.pointer (some ⟨w.heap.size + 1 + 1, 0, none⟩)) := (ho 5 rfl).trans rfl
        clear hi ho
        go_simp
        exact yieldR_value hS rfl
      refine And.intro ?_ ?_
      · as_aux_lemma =>
        refine rel_run 140 [139] [] 131 false 215 (by rfl) (by kernel_rfl) (Or.inr (fun v w h => h)) (fun a W hS hi ho => ?_)
        show YieldR Try.prog _ (SpR (.val (.int .i64 v))) W _
        have g139 : a.tmps[139]? = some (.pointer (some ⟨w.heap.size + 1 + 1, 1, none⟩)) := by obtain ⟨v, g, e⟩ := hi 139 rfl; exact g.trans (congrArg some e)
        clear hi ho
        obtain ⟨e6, e7, e9, e14, e15, e16, E0, E1, E2, E3, F0, F1, F2, F3⟩ := PKV.out _ hS
        go_simp
        exact yieldR_value hS rfl
      refine And.intro ?_ ?_
      · as_aux_lemma =>
        refine rel_run 141 [] [5] 131 false 215 (by rfl) (by kernel_rfl) (Or.inr (fun v w h => h)) (fun a W hS hi ho => ?_)
        show YieldR Try.prog _ (SpR (.val (.pointer (some ⟨w.heap.size + 1 + 1, 3, none⟩)))) W _
        have g5 : a.tmps[5]? = some (.pointer (some ⟨w.heap.size + 1 + 1, 0, none⟩)) := (ho 5 rfl).trans rfl
        clear hi ho
        go_simp
        exact yieldR_value hS rfl
      refine And.intro ?_ ?_
      · as_aux_lemma =>
        refine rel_run 142 [141] [] 131 false 215 (by rfl) (by kernel_rfl) (Or.inr (fun v w h => h)) (fun a W hS hi ho => ?_)
        show YieldR Try.prog _ (SpR (.val (.int .i64 u))) W _
        have g141 : a.tmps[141]? = some (.pointer (some ⟨w.heap.size + 1 + 1, 3, none⟩)) := by obtain ⟨v, g, e⟩ := hi 141 rfl; exact g.trans (congrArg some e)
        clear hi ho
        obtain ⟨e6, e7, e9, e14, e15, e16, E0, E1, E2, E3, F0, F1, F2, F3⟩ := PKV.out _ hS
        go_simp
        exact yieldR_value hS rfl
      refine And.intro ?_ ?_
      · as_aux_lemma =>
        refine rel_run 143 [138, 140, 142] [] 131 false 215 (by rfl) (by kernel_rfl) (Or.inr (fun v w h => h)) (fun a W hS hi ho => ?_)
        show YieldR Try.prog _ (SpR (.val (.int .i64 bb))) W _
        have g138 : a.tmps[138]? = some (.slice (some ⟨bg, 0, none⟩) n cg) := by obtain ⟨v, g, e⟩ := hi 138 rfl; exact g.trans (congrArg some e)
        have g140 : a.tmps[140]? = some (.int .i64 v) := by obtain ⟨v, g, e⟩ := hi 140 rfl; exact g.trans (congrArg some e)
        have g142 : a.tmps[142]? = some (.int .i64 u) := by obtain ⟨v, g, e⟩ := hi 142 rfl; exact g.trans (congrArg some e)
        clear hi ho
        go_simp
        refine yieldR_enter ?_
        (with_reducible refine (KBn.out _ hS).mono ?_)
        rintro e w1 ⟨rfl, hb⟩
        exact ⟨_, rfl, stepA hS hb, hb, rfl⟩
      refine And.intro ?_ ?_
      · as_aux_lemma =>
        refine rel_run 144 [137, 143] [] 131 false 215 (by rfl) (by kernel_rfl) (Or.inr (fun v w h => h)) (fun a W hS hi ho => ?_)
        show YieldR Try.prog _ (SpR (.val (.bool false))) W _
        have g137 : a.tmps[137]? = some (.int .i64 bb) := by obtain ⟨v, g, e⟩ := hi 137 rfl; exact g.trans (congrArg some e)
        have g143 : a.tmps[143]? = some (.int .i64 bb) := by obtain ⟨v, g, e⟩ := hi 143 rfl; exact g.trans (congrArg some e)
        clear hi ho
        go_simp
        exact yieldR_value hS rfl
      refine And.intro ?_ ?_
      · as_aux_lemma =>
        refine rel_run 145 [131, 144] [] 0 true 215 (by rfl) (by kernel_rfl) (Or.inl rfl) (fun a W hS hi ho => ?_)
        show YieldR Try.prog _ (SpR (.val (.bool false))) W _
        have g131 : a.tmps[131]? = some (.bool false) := by obtain ⟨v, g, e⟩ := hi 131 rfl; exact g.trans (congrArg some e)
        have g144 : a.tmps[144]? = some (.bool false) := by obtain ⟨v, g, e⟩ := hi 144 rfl; exact g.trans (congrArg some e)
        clear hi ho
        go_simp
        exact yieldR_value hS rfl
      exact True.intro
    case relrest =>
      intro V wz hz hV
      have eV : V 145 = .bool false := hV 145 (by decide)
      clear hV
      simp only [putV, Act.put, List.setIfInBounds_toArray, List.set_cons_zero, List.set_cons_succ]
      rw [eV]
      go_wp2_with fail
      go_meet
      exact ⟨rfl, hz⟩
  case rest =>
    obtain ⟨rfl, hb⟩ := hcut
    obtain ⟨wq, ew⟩ : ∃ q, q = wc := ⟨_, rfl⟩
    subst ew
    clear KNo KNr KSo KSr KAo KAr KJo KJr KWo KWr KLo KLr KBo KBn
    have HB' := hidA (stepA HB.out hb); clear HB; have HB := HB'; clear HB'; have e6' := cellA hb e6; clear e6; have e6 := e6'; clear e6'; have e7' := cellA hb e7; clear e7; have e7 := e7'; clear e7'; have e8' := cellA hb e8; clear e8; have e8 := e8'; clear e8'; have e9' := cellA hb e9; clear e9; have e9 := e9'; clear e9'; have e10' := cellA hb e10; clear e10; have e10 := e10'; clear e10'; have e14' := cellA hb e14; clear e14; have e14 := e14'; clear e14'; have e15' := cellA hb e15; clear e15; have e15 := e15'; clear e15'; have e16' := cellA hb e16; clear e16; have e16 := e16'; clear e16'; have E0' := cellA hb E0; clear E0; have E0 := E0'; clear E0'; have E1' := cellA hb E1; clear E1; have E1 := E1'; clear E1'; have E2' := cellA hb E2; clear E2; have E2 := E2'; clear E2'; have E3' := cellA hb E3; clear E3; have E3 := E3'; clear E3'; have F0' := cellA hb F0; clear F0; have F0 := F0'; clear F0'; have F1' := cellA hb F1; clear F1; have F1 := F1'; clear F1'; have F2' := cellA hb F2; clear F2; have F2 := F2'; clear F2'; have F3' := cellA hb F3; clear F3; have F3 := F3'; clear F3'; clear hb
    have HBqq := HB
    have e6q := e6
    have e7q := e7
    have e8q := e8
    have e9q := e9
    have e14q := e14
    have E0q := E0
    have E1q := E1
    have E2q := E2
    have E3q := E3
    have F0q := F0
    have F1q := F1
    have F2q := F2
    have F3q := F3
    go_upto_region 15 with ((go_at_call 27; (with_reducible refine (KCp.out _ HB.out).mono ?_); rintro e w21 ⟨bo, co, Ro, Co, rfl, hg, hb⟩; have hbq := hb; have HB' := hidA (stepA HB.out hb); clear HB; have HB := HB'; clear HB'; have e6' := cellA hb e6; clear e6; have e6 := e6'; clear e6'; have e7' := cellA hb e7; clear e7; have e7 := e7'; clear e7'; have e8' := cellA hb e8; clear e8; have e8 := e8'; clear e8'; have e9' := cellA hb e9; clear e9; have e9 := e9'; clear e9'; have e10' := cellA hb e10; clear e10; have e10 := e10'; clear e10'; have e14' := cellA hb e14; clear e14; have e14 := e14'; clear e14'; have e15' := cellA hb e15; clear e15; have e15 := e15'; clear e15'; have e16' := cellA hb e16; clear e16; have e16 := e16'; clear e16'; have E0' := cellA hb E0; clear E0; have E0 := E0'; clear E0'; have E1' := cellA hb E1; clear E1; have E1 := E1'; clear E1'; have E2' := cellA hb E2; clear E2; have E2 := E2'; clear E2'; have E3' := cellA hb E3; clear E3; have E3 := E3'; clear E3'; have F0' := cellA hb F0; clear F0; have F0 := F0'; clear F0'; have F1' := cellA hb F1; clear F1; have F1 := F1'; clear F1'; have F2' := cellA hb F2; clear F2; have F2 := F2'; clear F2'; have F3' := cellA hb F3; clear F3; have F3 := F3'; clear F3'; clear hb; have Ho := hidA hg; clear hg))
    have hnp : (0 : Int) < (n : Int) := by omega
    have o0 := Ho.out.cellh (i := 0) (by omega)
    have HBq : Hid (Below wq.heap.size wq w21) := hidA hbq
    clear hbq
    go_upto_if 157 with (fail)
    go_cut [] (fun W => (∃ Zo, Gr W wq.heap.size bo n m Ro Co Zo) ∧ Below wq.heap.size wq W)
    case first =>
      clear KVo KVr KTr KBr OT OB
      by_cases hmz : (0 : Int) < (m : Int)
      · have r0 := Ho.out.cellv (i := 0) (j := 0) (by omega) (by omega)
        have fr0 := Ho.out.frv (i := 0) (by omega) 0
        go_upto_region 16 with (fail)
        go_still_tail 6, (by kernel_rfl)
        change wpList _ _ _ _ _ w21.drew
        have Ho1 := hidA Ho.out.drew
        have HB1 := hidA (stepA HBq.out (Below.refl _ _).drew)
        clear o0 r0 fr0 Ho HBq HB
        generalize w21.drew = w22 at Ho1 HB1 ⊢
        have r1 := Ho1.out.cellv (i := 0) (j := 0) (by omega) (by omega)
        have fr1 := Ho1.out.frv (i := 0) (by omega) 0
        go_wp2_with fail
        go_meet
        exact ⟨⟨_, Ho1.out.set (by omega) 0 c⟩, HB1.out.setCell (Ho1.out.row 0 (by omega)).1 _⟩
      · go_wp2_with fail
        go_meet
        exact ⟨⟨_, Ho.out⟩, HBq.out⟩
    case rest =>
      obtain ⟨⟨Zo, hgo⟩, hb⟩ := hcut
      clear Ho HBq o0 g0
      clear e10 e15 e16
      have e6 := cellA hb e6q; clear e6q
      have e7 := cellA hb e7q; clear e7q
      have e8 := cellA hb e8q; clear e8q
      have e9 := cellA hb e9q; clear e9q
      have e14 := cellA hb e14q; clear e14q
      have E0 := cellA hb E0q; clear E0q
      have E1 := cellA hb E1q; clear E1q
      have E2 := cellA hb E2q; clear E2q
      have E3 := cellA hb E3q; clear E3q
      have F0 := cellA hb F0q; clear F0q
      have F1 := cellA hb F1q; clear F1q
      have F2 := cellA hb F2q; clear F2q
      have F3 := cellA hb F3q; clear F3q
      have B9 := hidA (stepA B8.out (stepA HBqq.out hb))
      have KVo9 : Hid (∀ W, Below wc.heap.size wc W → _) := hidA (fun W hW => KVo.out W (stepA (stepA HBqq.out hb) hW)); clear KVo
      have KVr9 : Hid (∀ W, Below wc.heap.size wc W → _) := hidA (fun W hW => KVr.out W (stepA (stepA HBqq.out hb) hW)); clear KVr
      have KTr9 : Hid (∀ W, Below wc.heap.size wc W → _) := hidA (fun W hW => KTr.out W (stepA (stepA HBqq.out hb) hW)); clear KTr
      have KBr9 : Hid (∀ W, Below wc.heap.size wc W → _) := hidA (fun W hW => KBr.out W (stepA (stepA HBqq.out hb) hW)); clear KBr
      obtain ⟨q3, hq3⟩ : ∃ z, validB n m Zo (n : Int) (m : Int) = z := ⟨_, rfl⟩
      have KZo : Hid (∀ W, Below wc.heap.size wc W → Calls Try.prog 28 #[.slice (some ⟨bo, 0, none⟩) n co, .int .i64 (n : Int), .int .i64 (m : Int)] W fun e w' => e = .returned (.bool q3) ∧ Below W.heap.size W w') := hidA (pureB <| fun W hW => by have h := valid_any W co (hgo.belowA hW) (n : Int) (m : Int) (by omega) (by omega); rw [hq3] at h; exact h)
      have KZr : Hid (∀ W, Below wc.heap.size wc W → Calls Try.prog 29 #[.slice (some ⟨bo, 0, none⟩) n co, .int .i64 (n : Int), .int .i64 (m : Int)] W fun e w' => e = .returned (.bool q3) ∧ Below W.heap.size W w') := hidA (pureB <| fun W hW => by have h := rvalid_any W co (hgo.belowA hW) (n : Int) (m : Int) (by omega) (by omega); rw [hq3] at h; exact h)
      clear hgo hb HB HBqq hq3 B8
      go_upto_region 17 with (fail)
      have PKV : Hid (∀ w', Below wc.heap.size wc w' → w'.cell? ⟨w.heap.size + 1 + 1, 0, none⟩ = some (.int .i64 op) ∧ w'.cell? ⟨w.heap.size + 1 + 1, 1, none⟩ = some (.int .i64 v) ∧ w'.cell? ⟨w.heap.size + 1 + 1, 2, none⟩ = some (.int .i64 x) ∧ w'.cell? ⟨w.heap.size + 1 + 1, 3, none⟩ = some (.int .i64 u) ∧ w'.cell? ⟨w.heap.size + 1 + 1, 8, none⟩ = some (.bool hd) ∧ w'.cell? ⟨E, 0, none⟩ = some (.int .i64 so) ∧ w'.cell? ⟨E, 1, none⟩ = some (.int .i64 sn) ∧ w'.cell? ⟨E, 2, none⟩ = some (.int .i64 sv) ∧ w'.cell? ⟨E, 3, none⟩ = some (.slice os sl.length cs) ∧ w'.cell? ⟨F, 0, none⟩ = some (.int .i64 ro) ∧ w'.cell? ⟨F, 1, none⟩ = some (.int .i64 rn) ∧ w'.cell? ⟨F, 2, none⟩ = some (.int .i64 rv) ∧ w'.cell? ⟨F, 3, none⟩ = some (.slice or rl.length cr)) := hidA (fun W hW => ⟨cellA hW e6, cellA hW e7, cellA hW e8, cellA hW e9, cellA hW e14, cellA hW E0, cellA hW E1, cellA hW E2, cellA hW E3, cellA hW F0, cellA hW F1, cellA hW F2, cellA hW F3⟩)
      have hsD := (Below.refl wc.heap.size wc).drew
      go_region_held3 (fun w' => w'.cell? ⟨w.heap.size + 1 + 1, 0, none⟩ = some (.int .i64 op) ∧ w'.cell? ⟨w.heap.size + 1 + 1, 1, none⟩ = some (.int .i64 v) ∧ w'.cell? ⟨w.heap.size + 1 + 1, 2, none⟩ = some (.int .i64 x) ∧ w'.cell? ⟨w.heap.size + 1 + 1, 3, none⟩ = some (.int .i64 u) ∧ w'.cell? ⟨w.heap.size + 1 + 1, 8, none⟩ = some (.bool hd) ∧ w'.cell? ⟨E, 0, none⟩ = some (.int .i64 so) ∧ w'.cell? ⟨E, 1, none⟩ = some (.int .i64 sn) ∧ w'.cell? ⟨E, 2, none⟩ = some (.int .i64 sv) ∧ w'.cell? ⟨E, 3, none⟩ = some (.slice os sl.length cs) ∧ w'.cell? ⟨F, 0, none⟩ = some (.int .i64 ro) ∧ w'.cell? ⟨F, 1, none⟩ = some (.int .i64 rn) ∧ w'.cell? ⟨F, 2, none⟩ = some (.int .i64 rv) ∧ w'.cell? ⟨F, 3, none⟩ = some (.slice or rl.length cr) ∧ Below wc.heap.size wc w')
        (first | with_reducible exact ⟨cellD e6, cellD e7, cellD e8, cellD e9, cellD e14, cellD E0, cellD E1, cellD E2, cellD E3, cellD F0, cellD F1, cellD F2, cellD F3, hsD⟩ | with_reducible exact ⟨(PKV.out _ (by assumption)).1, (PKV.out _ (by assumption)).2.1, (PKV.out _ (by assumption)).2.2.1, (PKV.out _ (by assumption)).2.2.2.1, (PKV.out _ (by assumption)).2.2.2.2.1, (PKV.out _ (by assumption)).2.2.2.2.2.1, (PKV.out _ (by assumption)).2.2.2.2.2.2.1, (PKV.out _ (by assumption)).2.2.2.2.2.2.2.1, (PKV.out _ (by assumption)).2.2.2.2.2.2.2.2.1, (PKV.out _ (by assumption)).2.2.2.2.2.2.2.2.2.1, (PKV.out _ (by assumption)).2.2.2.2.2.2.2.2.2.2.1, (PKV.out _ (by assumption)).2.2.2.2.2.2.2.2.2.2.2.1, (PKV.out _ (by assumption)).2.2.2.2.2.2.2.2.2.2.2.2, by assumption⟩)
        (first
          | ((go_at_call 28; (with_reducible refine (KZo.out _ (by assumption)).mono ?_); rintro e v20 ⟨rfl, hb20⟩; have hs20 : Below wc.heap.size wc v20 := stepA (by assumption) hb20))
          | ((go_at_call 29; (with_reducible refine (KZr.out _ (by assumption)).mono ?_); rintro e v21 ⟨rfl, hb21⟩; have hs21 : Below wc.heap.size wc v21 := stepA (by assumption) hb21))
          | ((go_at_call 28; (with_reducible refine (KVo9.out _ (by assumption)).mono ?_); rintro e v22 ⟨rfl, hb22⟩; have hs22 : Below wc.heap.size wc v22 := stepA (by assumption) hb22))
          | ((go_at_call 29; (with_reducible refine (KVr9.out _ (by assumption)).mono ?_); rintro e v23 ⟨rfl, hb23⟩; have hs23 : Below wc.heap.size wc v23 := stepA (by assumption) hb23))
          | ((go_at_call 16; (with_reducible refine (KTr9.out _ (by assumption)).mono ?_); rintro e v24 ⟨g24, l24, R24, C24, rfl, hg24, hb24⟩; have hs24 : Below wc.heap.size wc v24 := stepA (by assumption) hb24))
          | ((go_at_call 28; (with_reducible refine (valid_yes l24 hg24 OT.out n5 m3).mono ?_); rintro e v25 ⟨rfl, hb25⟩; have hs25 : Below wc.heap.size wc v25 := stepA (by assumption) hb25))
          | ((go_at_call 30; (with_reducible refine (both_any _).mono ?_); rintro e v26 ⟨rfl, hb26⟩; have hs26 : Below wc.heap.size wc v26 := stepA (by assumption) hb26))
          | ((go_at_call 18; (with_reducible refine (KBr9.out _ (by assumption)).mono ?_); rintro e v27 ⟨g27, l27, R27, C27, rfl, hg27, hb27⟩; have hs27 : Below wc.heap.size wc v27 := stepA (by assumption) hb27))
          | ((go_at_call 28; (with_reducible refine (valid_yes l27 hg27 OB.out n5 m3).mono ?_); rintro e v28 ⟨rfl, hb28⟩; have hs28 : Below wc.heap.size wc v28 := stepA (by assumption) hb28)))
      go_wp2_with fail
      go_ret
      exact ⟨rfl, stepA B9.out (by assumption)⟩
end Go.Proofs.Ytdcaecpcofencaa

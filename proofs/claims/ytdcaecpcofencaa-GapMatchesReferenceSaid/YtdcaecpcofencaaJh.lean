import Derived.Test.YtdcaecpcofencaaJg
namespace Go.Proofs.Ytdcaecpcofencaa
open Go.RowKit Go.Instr Go.Deep
set_option maxRecDepth 100000
set_option linter.unusedVariables false
set_option linter.unusedSimpArgs false

/-! gap.Set, Join, Widen, copied. -/
theorem GrRet.lift {n m : Nat} {Z : Nat → Nat → Int} {w w2 : World} (hb : Below w.heap.size w w2) {e : Ending} {w' : World} (h : GrRet w2.heap.size n m Z w2 e w') : GrRet w.heap.size n m Z w e w' := by
  obtain ⟨b, c, R, C, h1, h2, h3⟩ := h
  exact ⟨b, c, R, C, h1, h2.lo_le hb.size, stepA hb h3⟩
theorem quietB {P : Program} {K : FuncId} {args : Array Value} {W : World} {v : Value} (h : Calls P K args W fun e w' => e = .returned v ∧ W = w') : Calls P K args W fun e w' => e = .returned v ∧ Below W.heap.size W w' := h.mono fun e w' h => ⟨h.1, by rw [← h.2]; exact Below.refl _ _⟩
theorem GrRet.mk' {n m : Nat} {Z : Nat → Nat → Int} {w w' : World} {b c : Nat} {R C : Nat → Nat} (h : Gr w' w.heap.size b n m R C Z) (hb : Below w.heap.size w w') : GrRet w.heap.size n m Z w (.returned (.slice (some ⟨b, 0, none⟩) n c)) w' := ⟨b, c, R, C, rfl, h, hb⟩
theorem GrRet.congr {lo n m : Nat} {Z Z' : Nat → Nat → Int} {w w' : World} {e : Ending} (h : GrRet lo n m Z w e w') (hz : ∀ i j, i < n → j < m → Z i j = Z' i j) : GrRet lo n m Z' w e w' := by
  obtain ⟨b, c, R, C, h1, h2, h3⟩ := h
  exact ⟨b, c, R, C, h1, h2.congr hz, h3⟩
set_option maxRecDepth 100000 in
set_option maxHeartbeats 1000000 in
theorem set_any (w : World) {lo b n m : Nat} {R C : Nat → Nat} {Z : Nat → Nat → Int} (c : Nat) (h : Gr w lo b n m R C Z) (vv : Int) (op nn v : Int) (oa : Option Addr) (len cap : Nat) (wh sh : Bool) (sw sc : Int) (CS : Hid (∀ W, Below w.heap.size w W → Calls Try.prog 45 #[.agg #[.int .i64 op, .int .i64 nn, .int .i64 v, .slice oa len cap], .int .i64 (n : Int)] W fun e w' => e = .returned (.tuple #[.agg #[.int .i64 sw, .int .i64 sc], .bool sh]) ∧ Below W.heap.size W w')) (hn : n ≤ 65536) (hm : m ≤ 65536) (hZ : Zok n m Z) (hsc : -2147483648 ≤ sc ∧ sc ≤ 2147483648) :
    Calls Try.prog 15 #[.slice (some ⟨b, 0, none⟩) n c, .int .i64 vv, .agg #[.int .i64 op, .int .i64 nn, .int .i64 v, .slice oa len cap], .bool wh] w fun e w' => GrRet w.heap.size n m (setN n m Z vv wh sh sw sc) w e w' := by
  obtain ⟨w0, hw0⟩ : ∃ w0, ((((w.alloc (.cells #[.slice (some ⟨b, 0, none⟩) n c] 30)).alloc (.cells #[.int .i64 vv] 3)).alloc (.cells #[.int .i64 op, .int .i64 nn, .int .i64 v, .slice oa len cap] 34)).alloc (.cells #[.bool wh] 4)) = w0 := ⟨_, rfl⟩
  have B0 : Hid (Below w.heap.size w w0) := hidA (by rw [← hw0]; exact (((((Below.refl _ _).alloc (by first | exact Nat.le_refl _ | (simp; done) | (simp; omega) | omega) _).alloc (by first | exact Nat.le_refl _ | (simp; done) | (simp; omega) | omega) _).alloc (by first | exact Nat.le_refl _ | (simp; done) | (simp; omega) | omega) _).alloc (by first | exact Nat.le_refl _ | (simp; done) | (simp; omega) | omega) _))
  have hsz : w.heap.size + 1 + 1 + 1 < w0.heap.size := by rw [← hw0]; simp
  have PK : Hid (∀ W, Below w0.heap.size w0 W → W.cell? ⟨w.heap.size, 0, none⟩ = some (.slice (some ⟨b, 0, none⟩) n c) ∧ W.cell? ⟨w.heap.size + 1, 0, none⟩ = some (.int .i64 vv) ∧ W.cell? ⟨w.heap.size + 1 + 1, 0, none⟩ = some (.int .i64 op) ∧ W.cell? ⟨w.heap.size + 1 + 1, 1, none⟩ = some (.int .i64 nn) ∧ W.cell? ⟨w.heap.size + 1 + 1, 2, none⟩ = some (.int .i64 v) ∧ W.cell? ⟨w.heap.size + 1 + 1, 3, none⟩ = some (.slice oa len cap) ∧ W.cell? ⟨w.heap.size + 1 + 1 + 1, 0, none⟩ = some (.bool wh) ∧ w.heap.size < W.heap.size ∧ w.heap.size + 1 < W.heap.size ∧ w.heap.size + 1 + 1 < W.heap.size ∧ w.heap.size + 1 + 1 + 1 < W.heap.size) := hidA (fun W hW => ⟨cellA hW (by rw [← hw0]; simp [go_sem]), cellA hW (by rw [← hw0]; simp [go_sem]), cellA hW (by rw [← hw0]; simp [go_sem]), cellA hW (by rw [← hw0]; simp [go_sem]), cellA hW (by rw [← hw0]; simp [go_sem]), cellA hW (by rw [← hw0]; simp [go_sem]), cellA hW (by rw [← hw0]; simp [go_sem]), (by have h0 := hW.size; have h1 := hsz; omega), (by have h0 := hW.size; have h1 := hsz; omega), (by have h0 := hW.size; have h1 := hsz; omega), (by have h0 := hW.size; have h1 := hsz; omega)⟩)
  have Hw := hidA hw0; clear hw0
  have hG := hidA (h.belowA B0.out)
  have C1 := hidA (CS.out w0 B0.out)
  clear h
  go_enter Try.func15, Try.ntmps15
  go_wp2_with fail
  rw [Hw.out]
  clear Hw
  have HS : Hid (Below w0.heap.size w0 w0) := hidA (Below.refl _ _)
  obtain ⟨c0, c1, c2, c3, c4, c5, c6, z0, z1, z2, z3⟩ := PK.out _ HS.out
  go_upto_region 2 with ((go_at_call 45; refine (C1.out).mono ?_; rintro e w1 ⟨rfl, hb⟩; have hs1 := stepA HS.out hb; clear hb; have HS' := hidA hs1; clear HS hs1; clear c0 c1 c2 c3 c4 c5 c6 z0 z1 z2 z3; have HS := HS'; clear HS'; obtain ⟨c0, c1, c2, c3, c4, c5, c6, z0, z1, z2, z3⟩ := PK.out _ HS.out))
  obtain ⟨d, hd⟩ : ∃ d, w1.heap.size = d := ⟨_, rfl⟩
  obtain ⟨w2, hw2⟩ : ∃ w2, (w1.alloc (.cells #[.int .i64 sw, .int .i64 sc] 70)).alloc (.cells #[.bool sh] 4) = w2 := ⟨_, rfl⟩
  have B2 : Below w1.heap.size w1 w2 := by rw [← hw2]; exact ((Below.refl _ _).alloc (Nat.le_refl _) _).alloc (by simp) _
  have x0 : Hid (w2.cell? ⟨d, 0, none⟩ = some (.int .i64 sw)) := hidA (by rw [← hw2, ← hd]; simp [go_sem])
  have x1 : Hid (w2.cell? ⟨d, 1, none⟩ = some (.int .i64 sc)) := hidA (by rw [← hw2, ← hd]; simp [go_sem])
  have x2 : Hid (w2.cell? ⟨d + 1, 0, none⟩ = some (.bool sh)) := hidA (by rw [← hw2, ← hd]; simp [go_sem])
  rw [hw2, hd]
  have hs1 := stepA HS.out B2
  clear hw2 hd B2
  have HS' := hidA hs1; clear HS hs1; clear c0 c1 c2 c3 c4 c5 c6 z0 z1 z2 z3; have HS := HS'; clear HS'; obtain ⟨c0, c1, c2, c3, c4, c5, c6, z0, z1, z2, z3⟩ := PK.out _ HS.out
  have HG := hidA (hG.out.belowA HS.out)
  have BW : Hid (Below w.heap.size w w2) := hidA (stepA B0.out HS.out)
  have HF := hidA (fun (W : World) (i j : Nat) (hW : Below w2.heap.size w2 W) (hi : i < n) (hj : j < m) => set1 W c (HG.out.belowA hW) (w.heap.size + 1) (w.heap.size + 1 + 1 + 1) (d + 1) w.heap.size d vv sw sc wh sh (cellA hW c1) (cellA hW c6) (cellA hW x2.out) (cellA hW c0) (cellA hW x0.out) (cellA hW x1.out) i j hi hj hn hm hZ hsc)
  go_wp2_with (go_at_call 46; refine (each_set w2 c HG.out _ _ _ _ _ (setN n m Z vv wh sh sw sc) hn hm HF).mono ?_; rintro e w3 ⟨b3, n3, R3, C3, rfl, h3, hb3⟩)
  go_ret
  exact (GrRet.mk' h3 hb3).lift BW.out
set_option maxRecDepth 100000 in
set_option maxHeartbeats 1000000 in
theorem join_any (w : World) {lo b n m : Nat} {R C : Nat → Nat} {Z : Nat → Nat → Int} (c : Nat) (h : Gr w lo b n m R C Z) {lo2 b2 : Nat} {R2 C2 : Nat → Nat} {Y : Nat → Nat → Int} (c2 : Nat) (h2 : Gr w lo2 b2 n m R2 C2 Y) (hn : n ≤ 65536) (hm : m ≤ 65536) :
    Calls Try.prog 19 #[.slice (some ⟨b, 0, none⟩) n c, .slice (some ⟨b2, 0, none⟩) n c2] w fun e w' => GrRet w.heap.size n m (fun i j => max (Z i j) (Y i j)) w e w' := by
  obtain ⟨w0, hw0⟩ : ∃ w0, (w.alloc (.cells #[.slice (some ⟨b2, 0, none⟩) n c2] 30)) = w0 := ⟨_, rfl⟩
  have B0 : Hid (Below w.heap.size w w0) := hidA (by rw [← hw0]; exact ((Below.refl _ _).alloc (by first | exact Nat.le_refl _ | (simp; done) | (simp; omega) | omega) _))
  have hsz : w.heap.size < w0.heap.size := by rw [← hw0]; simp
  have PK : Hid (∀ W, Below w0.heap.size w0 W → W.cell? ⟨w.heap.size, 0, none⟩ = some (.slice (some ⟨b2, 0, none⟩) n c2) ∧ w.heap.size < W.heap.size) := hidA (fun W hW => ⟨cellA hW (by rw [← hw0]; simp [go_sem]), (by have h0 := hW.size; have h1 := hsz; omega)⟩)
  have Hw := hidA hw0; clear hw0
  have hG := hidA (h.belowA B0.out)
  have hY := hidA (h2.belowA B0.out)
  clear h h2
  go_enter Try.func19, Try.ntmps19
  go_wp2_with fail
  rw [Hw.out]
  clear Hw
  obtain ⟨c0, z0⟩ := PK.out _ (Below.refl _ _)
  have HF := hidA (fun (W : World) (i j : Nat) (hW : Below w0.heap.size w0 W) (hi : i < n) (hj : j < m) => quietB (join1 W c2 (hY.out.belowA hW) w.heap.size i j (Z i j) (PK.out W hW).1 hi hj hn hm))
  go_wp2_with (go_at_call 46; refine (each_join w0 c hG.out _ (fun i j => max (Z i j) (Y i j)) hn hm HF).mono ?_; rintro e w3 ⟨b3, n3, R3, C3, rfl, h3, hb3⟩)
  go_ret
  exact (GrRet.mk' h3 hb3).lift B0.out
set_option maxRecDepth 100000 in
set_option maxHeartbeats 1000000 in
theorem widen_any (w : World) {lo b n m : Nat} {R C : Nat → Nat} {Z : Nat → Nat → Int} (c : Nat) (h : Gr w lo b n m R C Z) {lo2 b2 : Nat} {R2 C2 : Nat → Nat} {Y : Nat → Nat → Int} (c2 : Nat) (h2 : Gr w lo2 b2 n m R2 C2 Y) (hn : n ≤ 65536) (hm : m ≤ 65536) :
    Calls Try.prog 21 #[.slice (some ⟨b, 0, none⟩) n c, .slice (some ⟨b2, 0, none⟩) n c2] w fun e w' => GrRet w.heap.size n m (fun i j => if Z i j < Y i j then 1099511627776 else Z i j) w e w' := by
  obtain ⟨w0, hw0⟩ : ∃ w0, (w.alloc (.cells #[.slice (some ⟨b2, 0, none⟩) n c2] 30)) = w0 := ⟨_, rfl⟩
  have B0 : Hid (Below w.heap.size w w0) := hidA (by rw [← hw0]; exact ((Below.refl _ _).alloc (by first | exact Nat.le_refl _ | (simp; done) | (simp; omega) | omega) _))
  have hsz : w.heap.size < w0.heap.size := by rw [← hw0]; simp
  have PK : Hid (∀ W, Below w0.heap.size w0 W → W.cell? ⟨w.heap.size, 0, none⟩ = some (.slice (some ⟨b2, 0, none⟩) n c2) ∧ w.heap.size < W.heap.size) := hidA (fun W hW => ⟨cellA hW (by rw [← hw0]; simp [go_sem]), (by have h0 := hW.size; have h1 := hsz; omega)⟩)
  have Hw := hidA hw0; clear hw0
  have hG := hidA (h.belowA B0.out)
  have hY := hidA (h2.belowA B0.out)
  clear h h2
  go_enter Try.func21, Try.ntmps21
  go_wp2_with fail
  rw [Hw.out]
  clear Hw
  obtain ⟨c0, z0⟩ := PK.out _ (Below.refl _ _)
  have HF := hidA (fun (W : World) (i j : Nat) (hW : Below w0.heap.size w0 W) (hi : i < n) (hj : j < m) => quietB (widen1 W c2 (hY.out.belowA hW) w.heap.size i j (Z i j) (PK.out W hW).1 hi hj hn hm))
  go_wp2_with (go_at_call 46; refine (each_widen w0 c hG.out _ (fun i j => if Z i j < Y i j then 1099511627776 else Z i j) hn hm HF).mono ?_; rintro e w3 ⟨b3, n3, R3, C3, rfl, h3, hb3⟩)
  go_ret
  exact (GrRet.mk' h3 hb3).lift B0.out
set_option maxRecDepth 100000 in
set_option maxHeartbeats 1000000 in
theorem copied_any (w : World) {lo b n m : Nat} {R C : Nat → Nat} {Z : Nat → Nat → Int} (c : Nat) (h : Gr w lo b n m R C Z) (hn : n ≤ 65536) (hm : m ≤ 65536) :
    Calls Try.prog 51 #[.slice (some ⟨b, 0, none⟩) n c] w fun e w' => GrRet w.heap.size n m Z w e w' := by
  have hG := hidA h
  clear h
  have HF := hidA (fun (W : World) (i j : Nat) (hW : Below w.heap.size w W) (hi : i < n) (hj : j < m) => quietB (copied1 (i : Int) (j : Int) (Z i j) W))
  go_enter Try.func51, Try.ntmps51
  go_wp2_with (go_at_call 46; refine (each_copied w c hG.out Z hn hm HF).mono ?_; rintro e w3 ⟨b3, n3, R3, C3, rfl, h3, hb3⟩)
  go_ret
  exact GrRet.mk' h3 hb3
end Go.Proofs.Ytdcaecpcofencaa

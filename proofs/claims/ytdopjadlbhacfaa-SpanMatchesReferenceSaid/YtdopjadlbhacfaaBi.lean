import Derived.Test.YtdopjadlbhacfaaBh
import Derived.Deep.Cut
import Derived.Deep.DeepCutAuto
namespace Go.Proofs.Ytdopjadlbhacfaa
open Go.RowKit Go.Instr Sp
set_option linter.unusedVariables false
set_option linter.unusedSimpArgs false

/-! span's operators: products, quotients, remainders. -/
set_option maxRecDepth 100000 in
set_option maxHeartbeats 4000000 in
theorem product_walk (a b J : Ab) (s t d x y gd p q u v lo hi : Int) (e1 : IntKind.i64.wrap (a.lo * b.lo) = p) (e2 : IntKind.i64.wrap (a.lo * b.hi) = q) (e3 : IntKind.i64.wrap (a.hi * b.lo) = u) (e4 : IntKind.i64.wrap (a.hi * b.hi) = v) (e5 : IntKind.i64.wrap (t * d) = x) (e6 : IntKind.i64.wrap (b.lo * s) = y) (MN : Hid (∀ ts t w, (Builtin.min_ ts t #[.int .i64 p, .int .i64 q, .int .i64 u, .int .i64 v]).run Try.prog w = .ok (.int .i64 lo) w)) (MX : Hid (∀ ts t w, (Builtin.max_ ts t #[.int .i64 p, .int .i64 q, .int .i64 u, .int .i64 v]).run Try.prog w = .ok (.int .i64 hi) w)) (CD1 : Hid (∀ w b, w.cell? ⟨b, 0, none⟩ = some (.int .i64 a.lo) → w.cell? ⟨b, 1, none⟩ = some (.int .i64 s) → Calls Try.prog 47 #[.slice (some ⟨b, 0, none⟩) 2 2] w fun e w' => e = .returned (.int .i64 d) ∧ Below w.heap.size w w')) (CD2 : Hid (∀ w b, w.cell? ⟨b, 0, none⟩ = some (.int .i64 x) → w.cell? ⟨b, 1, none⟩ = some (.int .i64 y) → Calls Try.prog 47 #[.slice (some ⟨b, 0, none⟩) 2 2] w fun e w' => e = .returned (.int .i64 gd) ∧ Below w.heap.size w w')) (CW : Hid (∀ w, Calls Try.prog 95 #[.int .i64 lo, .int .i64 hi, .int .i64 gd] w fun e w' => e = .returned (.agg #[.int .i64 J.lo, .int .i64 J.hi, .int .i64 J.m, .int .i64 J.r, .int .i64 0]) ∧ Below w.heap.size w w')) (w : World) :
    Calls Try.prog 81 #[.agg #[.int .i64 a.lo, .int .i64 a.hi, .int .i64 a.m, .int .i64 a.r, .int .i64 a.k, .int .i64 b.lo, .int .i64 b.hi, .int .i64 b.m, .int .i64 b.r, .int .i64 b.k, .int .i64 s, .int .i64 t]] w fun e w' => e = .returned (.agg #[.int .i64 J.lo, .int .i64 J.hi, .int .i64 J.m, .int .i64 J.r, .int .i64 0]) ∧ Below w.heap.size w w' := by
  obtain ⟨w0, hw0⟩ : ∃ w0, ((w.alloc (.cells #[.int .i64 a.lo, .int .i64 a.hi, .int .i64 a.m, .int .i64 a.r, .int .i64 a.k, .int .i64 b.lo, .int .i64 b.hi, .int .i64 b.m, .int .i64 b.r, .int .i64 b.k, .int .i64 s, .int .i64 t] 82)).alloc (.cells #[.int .i64 0, .int .i64 0, .int .i64 0, .int .i64 0, .int .i64 0] 27)) = w0 := ⟨_, rfl⟩
  have B0 : Hid (Below w.heap.size w w0) := hidA (by rw [← hw0]; exact (alA (alA (Below.refl _ _) _) _))
  have hsz : w.heap.size + 1 < w0.heap.size := by rw [← hw0]; simp
  have PK : Hid (∀ W, Below w0.heap.size w0 W → abF W (w.heap.size) a (W.cell? ⟨w.heap.size, 5, none⟩ = some (.int .i64 b.lo) ∧ W.cell? ⟨w.heap.size, 6, none⟩ = some (.int .i64 b.hi) ∧ W.cell? ⟨w.heap.size, 7, none⟩ = some (.int .i64 b.m) ∧ W.cell? ⟨w.heap.size, 8, none⟩ = some (.int .i64 b.r) ∧ W.cell? ⟨w.heap.size, 9, none⟩ = some (.int .i64 b.k) ∧ W.cell? ⟨w.heap.size, 10, none⟩ = some (.int .i64 s) ∧ W.cell? ⟨w.heap.size, 11, none⟩ = some (.int .i64 t) ∧ W.cell? ⟨w.heap.size + 1, 0, none⟩ = some (.int .i64 0) ∧ W.cell? ⟨w.heap.size + 1, 1, none⟩ = some (.int .i64 0) ∧ W.cell? ⟨w.heap.size + 1, 2, none⟩ = some (.int .i64 0) ∧ W.cell? ⟨w.heap.size + 1, 3, none⟩ = some (.int .i64 0) ∧ W.cell? ⟨w.heap.size + 1, 4, none⟩ = some (.int .i64 0) ∧ w.heap.size < W.heap.size ∧ w.heap.size + 1 < W.heap.size ∧ (∀ i, W.frozen? ⟨w.heap.size + 1, i, none⟩ = false))) := hidA (fun W hW => by and_intros <;> first | exact cellA hW (by rw [← hw0]; simp [go_sem]) | exact (by have h0 := hW.size; have h1 := hsz; omega) | exact (fun i => (hW.frozen (p := ⟨w.heap.size + 1, i, none⟩) (show w.heap.size + 1 < w0.heap.size by have h1 := hsz; omega)).trans (by rw [← hw0]; simp [go_sem])))
  have Hw := hidA hw0; clear hw0
  go_enter Try.func81, Try.ntmps81
  go_wp2_with fail
  rw [Hw.out]
  clear Hw
  have HS : Hid (Below w0.heap.size w0 w0) := hidA (Below.refl _ _)
  obtain ⟨c0, c1, c2, c3, c4, c5, c6, c7, c8, c9, c10, c11, c12, c13, c14, c15, c16, z0, z1, fr1⟩ := PK.out _ HS.out
  go_cut [3, 4] (fun x y W => ∃ g h : Nat, x = .pointer (some ⟨g, 0, none⟩) ∧ y = .pointer (some ⟨h, 0, none⟩) ∧ Below w0.heap.size w0 W ∧ w0.heap.size ≤ g ∧ w0.heap.size ≤ h ∧ W.cell? ⟨g, 0, none⟩ = some (.int .i64 a.lo) ∧ W.cell? ⟨g, 1, none⟩ = some (.int .i64 a.hi) ∧ W.cell? ⟨g, 2, none⟩ = some (.int .i64 a.m) ∧ W.cell? ⟨g, 3, none⟩ = some (.int .i64 a.r) ∧ W.cell? ⟨g, 4, none⟩ = some (.int .i64 a.k) ∧ W.cell? ⟨h, 0, none⟩ = some (.int .i64 b.lo) ∧ W.cell? ⟨h, 1, none⟩ = some (.int .i64 b.hi) ∧ W.cell? ⟨h, 2, none⟩ = some (.int .i64 b.m) ∧ W.cell? ⟨h, 3, none⟩ = some (.int .i64 b.r) ∧ W.cell? ⟨h, 4, none⟩ = some (.int .i64 b.k))
  case first =>
    have hsD := HS.out.drew
    have leD : w0.heap.size ≤ w0.heap.size := Nat.le_refl _
    go_region_held3 (fun w' => w'.cell? ⟨w.heap.size, 0, none⟩ = some (.int .i64 a.lo) ∧ w'.cell? ⟨w.heap.size, 1, none⟩ = some (.int .i64 a.hi) ∧ w'.cell? ⟨w.heap.size, 2, none⟩ = some (.int .i64 a.m) ∧ w'.cell? ⟨w.heap.size, 3, none⟩ = some (.int .i64 a.r) ∧ w'.cell? ⟨w.heap.size, 4, none⟩ = some (.int .i64 a.k) ∧ w'.cell? ⟨w.heap.size, 5, none⟩ = some (.int .i64 b.lo) ∧ w'.cell? ⟨w.heap.size, 6, none⟩ = some (.int .i64 b.hi) ∧ w'.cell? ⟨w.heap.size, 7, none⟩ = some (.int .i64 b.m) ∧ w'.cell? ⟨w.heap.size, 8, none⟩ = some (.int .i64 b.r) ∧ w'.cell? ⟨w.heap.size, 9, none⟩ = some (.int .i64 b.k) ∧ w'.cell? ⟨w.heap.size, 10, none⟩ = some (.int .i64 s) ∧ w'.cell? ⟨w.heap.size, 11, none⟩ = some (.int .i64 t) ∧ Below w0.heap.size w0 w')
      ((refine (fun hB => ⟨(PK.out _ hB).1, (PK.out _ hB).2.1, (PK.out _ hB).2.2.1, (PK.out _ hB).2.2.2.1, (PK.out _ hB).2.2.2.2.1, (PK.out _ hB).2.2.2.2.2.1, (PK.out _ hB).2.2.2.2.2.2.1, (PK.out _ hB).2.2.2.2.2.2.2.1, (PK.out _ hB).2.2.2.2.2.2.2.2.1, (PK.out _ hB).2.2.2.2.2.2.2.2.2.1, (PK.out _ hB).2.2.2.2.2.2.2.2.2.2.1, (PK.out _ hB).2.2.2.2.2.2.2.2.2.2.2.1, hB⟩) (?_ : Below w0.heap.size w0 _); exact (by repeat (first | with_reducible assumption | with_reducible exact Below.refl _ _ | with_reducible refine Below.setCell ?_ (by first | omega | (dsimp only; omega) | (simp; done) | (simp; omega)) _ | with_reducible refine Below.alloc ?_ (by first | omega | (dsimp only; omega) | (simp; done) | (simp; omega)) _ | with_reducible refine Below.drew ?_))))
      (first
        | fail)
    all_goals
      go_wp2_with fail
      go_meet
      exact ⟨_, _, rfl, rfl, (by repeat (first | with_reducible assumption | with_reducible exact Below.refl _ _ | with_reducible refine Below.setCell ?_ (by first | omega | (dsimp only; omega) | (simp; done) | (simp; omega)) _ | with_reducible refine Below.alloc ?_ (by first | omega | (dsimp only; omega) | (simp; done) | (simp; omega)) _ | with_reducible refine Below.drew ?_)), (by first | omega | (dsimp only; omega) | (simp; done) | (simp; omega)), (by first | omega | (dsimp only; omega) | (simp; done) | (simp; omega)), (by first | (simp [go_sem, *]; done) | ((try simp [go_sem, *]); exact World.cell?_setCell_same _ _ _ (show _ = some (.int .i64 0) by first | (simp [go_sem, *]; done) | exact (hc2 _ _ (by simp)).trans (by simp [go_sem]) | exact (hc2 _ _ (by simp; omega)).trans ((hc1 _ _ (by simp)).trans (by simp [go_sem]))))), (by first | (simp [go_sem, *]; done) | ((try simp [go_sem, *]); exact World.cell?_setCell_same _ _ _ (show _ = some (.int .i64 0) by first | (simp [go_sem, *]; done) | exact (hc2 _ _ (by simp)).trans (by simp [go_sem]) | exact (hc2 _ _ (by simp; omega)).trans ((hc1 _ _ (by simp)).trans (by simp [go_sem]))))), (by first | (simp [go_sem, *]; done) | ((try simp [go_sem, *]); exact World.cell?_setCell_same _ _ _ (show _ = some (.int .i64 0) by first | (simp [go_sem, *]; done) | exact (hc2 _ _ (by simp)).trans (by simp [go_sem]) | exact (hc2 _ _ (by simp; omega)).trans ((hc1 _ _ (by simp)).trans (by simp [go_sem]))))), (by first | (simp [go_sem, *]; done) | ((try simp [go_sem, *]); exact World.cell?_setCell_same _ _ _ (show _ = some (.int .i64 0) by first | (simp [go_sem, *]; done) | exact (hc2 _ _ (by simp)).trans (by simp [go_sem]) | exact (hc2 _ _ (by simp; omega)).trans ((hc1 _ _ (by simp)).trans (by simp [go_sem]))))), (by first | (simp [go_sem, *]; done) | ((try simp [go_sem, *]); exact World.cell?_setCell_same _ _ _ (show _ = some (.int .i64 0) by first | (simp [go_sem, *]; done) | exact (hc2 _ _ (by simp)).trans (by simp [go_sem]) | exact (hc2 _ _ (by simp; omega)).trans ((hc1 _ _ (by simp)).trans (by simp [go_sem]))))), (by first | (simp [go_sem, *]; done) | ((try simp [go_sem, *]); exact World.cell?_setCell_same _ _ _ (show _ = some (.int .i64 0) by first | (simp [go_sem, *]; done) | exact (hc2 _ _ (by simp)).trans (by simp [go_sem]) | exact (hc2 _ _ (by simp; omega)).trans ((hc1 _ _ (by simp)).trans (by simp [go_sem]))))), (by first | (simp [go_sem, *]; done) | ((try simp [go_sem, *]); exact World.cell?_setCell_same _ _ _ (show _ = some (.int .i64 0) by first | (simp [go_sem, *]; done) | exact (hc2 _ _ (by simp)).trans (by simp [go_sem]) | exact (hc2 _ _ (by simp; omega)).trans ((hc1 _ _ (by simp)).trans (by simp [go_sem]))))), (by first | (simp [go_sem, *]; done) | ((try simp [go_sem, *]); exact World.cell?_setCell_same _ _ _ (show _ = some (.int .i64 0) by first | (simp [go_sem, *]; done) | exact (hc2 _ _ (by simp)).trans (by simp [go_sem]) | exact (hc2 _ _ (by simp; omega)).trans ((hc1 _ _ (by simp)).trans (by simp [go_sem]))))), (by first | (simp [go_sem, *]; done) | ((try simp [go_sem, *]); exact World.cell?_setCell_same _ _ _ (show _ = some (.int .i64 0) by first | (simp [go_sem, *]; done) | exact (hc2 _ _ (by simp)).trans (by simp [go_sem]) | exact (hc2 _ _ (by simp; omega)).trans ((hc1 _ _ (by simp)).trans (by simp [go_sem]))))), (by first | (simp [go_sem, *]; done) | ((try simp [go_sem, *]); exact World.cell?_setCell_same _ _ _ (show _ = some (.int .i64 0) by first | (simp [go_sem, *]; done) | exact (hc2 _ _ (by simp)).trans (by simp [go_sem]) | exact (hc2 _ _ (by simp; omega)).trans ((hc1 _ _ (by simp)).trans (by simp [go_sem])))))⟩
  case rest =>
    obtain ⟨g, h, rfl, rfl, hs1, lg, lh, y0, y1, y2, y3, y4, x0, x1, x2, x3, x4⟩ := hcut
    have ng : ¬ w.heap.size + 1 = g := by omega
    have nh : ¬ w.heap.size + 1 = h := by omega
    clear lg lh
    have Y0 := hidA y0
    have Y1 := hidA y1
    have Y2 := hidA y2
    have Y3 := hidA y3
    have Y4 := hidA y4
    have X0 := hidA x0
    have X1 := hidA x1
    have X2 := hidA x2
    have X3 := hidA x3
    have X4 := hidA x4
    clear y0 y1 y2 y3 y4 x0 x1 x2 x3 x4
    clear HS; have HS := hidA hs1; clear hs1 c0 c1 c2 c3 c4 c5 c6 c7 c8 c9 c10 c11 c12 c13 c14 c15 c16 z0 z1 fr1; obtain ⟨c0, c1, c2, c3, c4, c5, c6, c7, c8, c9, c10, c11, c12, c13, c14, c15, c16, z0, z1, fr1⟩ := PK.out _ HS.out
    have N0 := hidA c0
    have N1 := hidA c1
    have N2 := hidA c2
    have N3 := hidA c3
    have N4 := hidA c4
    have N5 := hidA c5
    have N6 := hidA c6
    have N7 := hidA c7
    have N8 := hidA c8
    have N9 := hidA c9
    have N10 := hidA c10
    have N11 := hidA c11
    have Z0 := hidA c12
    have Z1 := hidA c13
    have Z2 := hidA c14
    have Z3 := hidA c15
    have Z4 := hidA c16
    have FZ := hidA fr1
    clear c0 c1 c2 c3 c4 c5 c6 c7 c8 c9 c10 c11 c12 c13 c14 c15 c16 z0 z1 fr1
    have BW := hidA (B0.out.trans (HS.out.mono B0.out.size))
    have BN : Hid (Below w.heap.size w wc) := hidA BW.out
    have leW : w.heap.size ≤ wc.heap.size := BN.out.size
    have hszb1 : w.heap.size + 1 < wc.heap.size := World.block_lt_of_cell? _ _ Z0.out
    clear B0 PK HS
    have PK : Hid (∀ V, Below wc.heap.size wc V → abF V (w.heap.size) a (V.cell? ⟨w.heap.size, 5, none⟩ = some (.int .i64 b.lo) ∧ V.cell? ⟨w.heap.size, 6, none⟩ = some (.int .i64 b.hi) ∧ V.cell? ⟨w.heap.size, 7, none⟩ = some (.int .i64 b.m) ∧ V.cell? ⟨w.heap.size, 8, none⟩ = some (.int .i64 b.r) ∧ V.cell? ⟨w.heap.size, 9, none⟩ = some (.int .i64 b.k) ∧ V.cell? ⟨w.heap.size, 10, none⟩ = some (.int .i64 s) ∧ V.cell? ⟨w.heap.size, 11, none⟩ = some (.int .i64 t) ∧ V.cell? ⟨w.heap.size + 1, 0, none⟩ = some (.int .i64 0) ∧ V.cell? ⟨w.heap.size + 1, 1, none⟩ = some (.int .i64 0) ∧ V.cell? ⟨w.heap.size + 1, 2, none⟩ = some (.int .i64 0) ∧ V.cell? ⟨w.heap.size + 1, 3, none⟩ = some (.int .i64 0) ∧ V.cell? ⟨w.heap.size + 1, 4, none⟩ = some (.int .i64 0) ∧ abF V g a (abF V h b (w.heap.size < V.heap.size ∧ w.heap.size + 1 < V.heap.size ∧ g < V.heap.size ∧ h < V.heap.size ∧ (∀ i, V.frozen? ⟨w.heap.size + 1, i, none⟩ = false))))) := hidA (fun V hW => ⟨cellA hW N0.out, cellA hW N1.out, cellA hW N2.out, cellA hW N3.out, cellA hW N4.out, cellA hW N5.out, cellA hW N6.out, cellA hW N7.out, cellA hW N8.out, cellA hW N9.out, cellA hW N10.out, cellA hW N11.out, cellA hW Z0.out, cellA hW Z1.out, cellA hW Z2.out, cellA hW Z3.out, cellA hW Z4.out, cellA hW Y0.out, cellA hW Y1.out, cellA hW Y2.out, cellA hW Y3.out, cellA hW Y4.out, cellA hW X0.out, cellA hW X1.out, cellA hW X2.out, cellA hW X3.out, cellA hW X4.out, Nat.lt_of_lt_of_le (World.block_lt_of_cell? _ _ N0.out) hW.size, Nat.lt_of_lt_of_le (World.block_lt_of_cell? _ _ Z0.out) hW.size, Nat.lt_of_lt_of_le (World.block_lt_of_cell? _ _ Y0.out) hW.size, Nat.lt_of_lt_of_le (World.block_lt_of_cell? _ _ X0.out) hW.size, (fun i => (hW.frozen (p := ⟨w.heap.size + 1, i, none⟩) (show w.heap.size + 1 < wc.heap.size from World.block_lt_of_cell? _ _ Z0.out)).trans (FZ.out i))⟩)
    clear N0 N1 N2 N3 N4 N5 N6 N7 N8 N9 N10 N11 Z0 Z1 Z2 Z3 Z4 Y0 Y1 Y2 Y3 Y4 X0 X1 X2 X3 X4 FZ
    have B0 := BN
    clear BN
    have HS : Hid (Below wc.heap.size wc wc) := hidA (Below.refl _ _)
    generalize wc = w0 at *
    obtain ⟨c0, c1, c2, c3, c4, c5, c6, c7, c8, c9, c10, c11, c12, c13, c14, c15, c16, c17, c18, c19, c20, c21, c22, c23, c24, c25, c26, z0, z1, z2, z3, fr1⟩ := PK.out _ HS.out
    clear BW
    go_wp2_with fail
    go_quiet (fail)
    have hs1 := drewnA HS.out nq
    generalize w0.drewN nq = wd at *
    clear e1 e2 e3 e4
    clear HS; have HS := hidA hs1; clear hs1 c0 c1 c2 c3 c4 c5 c6 c7 c8 c9 c10 c11 c12 c13 c14 c15 c16 c17 c18 c19 c20 c21 c22 c23 c24 c25 c26 z0 z1 z2 z3 fr1; obtain ⟨c0, c1, c2, c3, c4, c5, c6, c7, c8, c9, c10, c11, c12, c13, c14, c15, c16, c17, c18, c19, c20, c21, c22, c23, c24, c25, c26, z0, z1, z2, z3, fr1⟩ := PK.out _ HS.out
    have MN' := MN.out
    have MX' := MX.out
    go_wp2_with fail
    have hsE := HS.out
    have hsD := HS.out.drew
    have leD : w0.heap.size ≤ _ := HS.out.size
    go_region_held3 (fun w' => w'.cell? ⟨w.heap.size, 10, none⟩ = some (.int .i64 s) ∧ w'.cell? ⟨w.heap.size, 11, none⟩ = some (.int .i64 t) ∧ w'.cell? ⟨g, 0, none⟩ = some (.int .i64 a.lo) ∧ w'.cell? ⟨h, 0, none⟩ = some (.int .i64 b.lo) ∧ Below (w.heap.size + 1) w0 w')
      (first | with_reducible exact ⟨cellD c10, cellD c11, cellD c17, cellD c22, Below.mono hsD (by omega)⟩ | (refine (fun hB => ⟨(PK.out _ hB).2.2.2.2.2.2.2.2.2.2.1, (PK.out _ hB).2.2.2.2.2.2.2.2.2.2.2.1, (PK.out _ hB).2.2.2.2.2.2.2.2.2.2.2.2.2.2.2.2.2.1, (PK.out _ hB).2.2.2.2.2.2.2.2.2.2.2.2.2.2.2.2.2.2.2.2.2.2.1, Below.mono hB (by omega)⟩) (?_ : Below w0.heap.size w0 _); (repeat (first | with_reducible assumption | with_reducible exact Below.refl _ _ | with_reducible refine Below.setCell ?_ (by first | omega | (dsimp only; omega) | (simp; done) | (simp; omega)) _ | with_reducible refine Below.alloc ?_ (by first | omega | (dsimp only; omega) | (simp; done) | (simp; omega)) _ | with_reducible refine Below.drew ?_)); done) | exact ⟨by simpa [go_sem, ng, nh] using (PK.out _ hs1).2.2.2.2.2.2.2.2.2.2.1, by simpa [go_sem, ng, nh] using (PK.out _ hs1).2.2.2.2.2.2.2.2.2.2.2.1, by simpa [go_sem, ng, nh] using (PK.out _ hs1).2.2.2.2.2.2.2.2.2.2.2.2.2.2.2.2.2.1, by simpa [go_sem, ng, nh] using (PK.out _ hs1).2.2.2.2.2.2.2.2.2.2.2.2.2.2.2.2.2.2.2.2.2.2.1, ((((((Below.mono hs1 (by omega)).setCell (by first | exact Nat.le_refl _ | (simp; done) | (simp; omega) | omega) _).setCell (by first | exact Nat.le_refl _ | (simp; done) | (simp; omega) | omega) _).setCell (by first | exact Nat.le_refl _ | (simp; done) | (simp; omega) | omega) _).setCell (by first | exact Nat.le_refl _ | (simp; done) | (simp; omega) | omega) _).setCell (by first | exact Nat.le_refl _ | (simp; done) | (simp; omega) | omega) _)⟩)
      (first
        | ((go_at_call 47; (with_reducible refine (CD1.out _ _ ?_ ?_ ).mono ?_); (focus (simp [go_sem]; done)); (focus (simp [go_sem]; done)); rintro e w8 ⟨rfl, hb8⟩; have hs8 : Below w0.heap.size w0 w8 := stepA (by repeat (first | with_reducible assumption | with_reducible exact Below.refl _ _ | with_reducible refine Below.setCell ?_ (by first | omega | (dsimp only; omega) | (simp; done) | (simp; omega)) _ | with_reducible refine Below.alloc ?_ (by first | omega | (dsimp only; omega) | (simp; done) | (simp; omega)) _ | with_reducible refine Below.drew ?_)) hb8; have le8 : w0.heap.size ≤ w8.heap.size := hs8.size))
        | ((go_at_call 47; (with_reducible refine (CD2.out _ _ ?_ ?_ ).mono ?_); (focus (simp [go_sem]; done)); (focus (simp [go_sem]; done)); rintro e w9 ⟨rfl, hb9⟩; have hs9 : Below w0.heap.size w0 w9 := stepA (by repeat (first | with_reducible assumption | with_reducible exact Below.refl _ _ | with_reducible refine Below.setCell ?_ (by first | omega | (dsimp only; omega) | (simp; done) | (simp; omega)) _ | with_reducible refine Below.alloc ?_ (by first | omega | (dsimp only; omega) | (simp; done) | (simp; omega)) _ | with_reducible refine Below.drew ?_)) hb9; have le9 : w0.heap.size ≤ w9.heap.size := hs9.size))
        | ((go_at_call 95; (with_reducible refine (CW.out _).mono ?_); rintro e w1 ⟨rfl, hb1⟩; have hs1 : Below w0.heap.size w0 w1 := stepA (by repeat (first | with_reducible assumption | with_reducible exact Below.refl _ _ | with_reducible refine Below.setCell ?_ (by first | omega | (dsimp only; omega) | (simp; done) | (simp; omega)) _ | with_reducible refine Below.alloc ?_ (by first | omega | (dsimp only; omega) | (simp; done) | (simp; omega)) _ | with_reducible refine Below.drew ?_)) hb1; obtain ⟨dc0, dc1, dc2, dc3, dc4, dc5, dc6, dc7, dc8, dc9, dc10, dc11, dc12, dc13, dc14, dc15, dc16, dc17, dc18, dc19, dc20, dc21, dc22, dc23, dc24, dc25, dc26, dz0, dz1, dz2, dz3, dfr1⟩ := PK.out _ hs1)))
    all_goals
      go_wp2
      exact bodyPost_ret (v := .agg #[.int .i64 J.lo, .int .i64 J.hi, .int .i64 J.m, .int .i64 J.r, .int .i64 0]) (by simp [results, Try.results81, go_sem, dc12, dc13, dc14, dc15, dc16, dz1]) rfl ⟨by rfl, (by repeat (first | with_reducible exact Below.refl _ _ | with_reducible exact hs1 | with_reducible exact B0.out | with_reducible refine Below.setCell ?_ (by first | omega | (dsimp only; omega) | (simp; done) | (simp; omega)) _ | with_reducible refine Below.alloc ?_ (by first | omega | (dsimp only; omega) | (simp; done) | (simp; omega)) _ | with_reducible refine Below.drew ?_ | with_reducible refine drewnA ?_ _ | with_reducible refine Below.trans ?_ (hs1.mono (by first | omega | (dsimp only; omega) | (simp; done) | (simp; omega))) | with_reducible refine Below.trans ?_ (B0.out.mono (by first | omega | (dsimp only; omega) | (simp; done) | (simp; omega)))))⟩
end Go.Proofs.Ytdopjadlbhacfaa

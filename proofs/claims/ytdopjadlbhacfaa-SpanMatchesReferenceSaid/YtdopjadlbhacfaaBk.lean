import Derived.Test.YtdopjadlbhacfaaBh
import Derived.Deep.Cut
import Derived.Deep.DeepCutAuto
namespace Go.Proofs.Ytdopjadlbhacfaa
open Go.RowKit Go.Instr Sp
set_option linter.unusedVariables false
set_option linter.unusedSimpArgs false

/-! span's operators: remainders. -/
set_option maxRecDepth 100000 in
set_option maxHeartbeats 4000000 in
theorem rem_1 (a b J : Ab) (s t n : Int) (C1 : Hid (∀ w, Calls Try.prog 77 #[.int .i64 b.lo] w fun e w' => e = .returned (.int .i64 n) ∧ w = w')) (lo hi : Int) (h1 : (t == 0) = false) (h2 : (t != 0) = true) (e1 : (if 0 < a.lo then 0 else a.lo) = lo) (e2 : (if a.hi < 0 then 0 else a.hi) = hi) (CW : Hid (∀ w, Calls Try.prog 95 #[.int .i64 lo, .int .i64 hi, .int .i64 1] w fun e w' => e = .returned (.agg #[.int .i64 J.lo, .int .i64 J.hi, .int .i64 J.m, .int .i64 J.r, .int .i64 0]) ∧ Below w.heap.size w w')) (w : World) :
    Calls Try.prog 83 #[.agg #[.int .i64 a.lo, .int .i64 a.hi, .int .i64 a.m, .int .i64 a.r, .int .i64 a.k, .int .i64 b.lo, .int .i64 b.hi, .int .i64 b.m, .int .i64 b.r, .int .i64 b.k, .int .i64 s, .int .i64 t]] w fun e w' => e = .returned (.agg #[.int .i64 J.lo, .int .i64 J.hi, .int .i64 J.m, .int .i64 J.r, .int .i64 0]) ∧ Below w.heap.size w w' := by
  obtain ⟨w0, hw0⟩ : ∃ w0, ((w.alloc (.cells #[.int .i64 a.lo, .int .i64 a.hi, .int .i64 a.m, .int .i64 a.r, .int .i64 a.k, .int .i64 b.lo, .int .i64 b.hi, .int .i64 b.m, .int .i64 b.r, .int .i64 b.k, .int .i64 s, .int .i64 t] 82)).alloc (.cells #[.int .i64 0, .int .i64 0, .int .i64 0, .int .i64 0, .int .i64 0] 27)) = w0 := ⟨_, rfl⟩
  have B0 : Hid (Below w.heap.size w w0) := hidA (by rw [← hw0]; exact (alA (alA (Below.refl _ _) _) _))
  have hsz : w.heap.size + 1 < w0.heap.size := by rw [← hw0]; simp
  have PK : Hid (∀ W, Below w0.heap.size w0 W → abF W (w.heap.size) a (W.cell? ⟨w.heap.size, 5, none⟩ = some (.int .i64 b.lo) ∧ W.cell? ⟨w.heap.size, 6, none⟩ = some (.int .i64 b.hi) ∧ W.cell? ⟨w.heap.size, 7, none⟩ = some (.int .i64 b.m) ∧ W.cell? ⟨w.heap.size, 8, none⟩ = some (.int .i64 b.r) ∧ W.cell? ⟨w.heap.size, 9, none⟩ = some (.int .i64 b.k) ∧ W.cell? ⟨w.heap.size, 10, none⟩ = some (.int .i64 s) ∧ W.cell? ⟨w.heap.size, 11, none⟩ = some (.int .i64 t) ∧ W.cell? ⟨w.heap.size + 1, 0, none⟩ = some (.int .i64 0) ∧ W.cell? ⟨w.heap.size + 1, 1, none⟩ = some (.int .i64 0) ∧ W.cell? ⟨w.heap.size + 1, 2, none⟩ = some (.int .i64 0) ∧ W.cell? ⟨w.heap.size + 1, 3, none⟩ = some (.int .i64 0) ∧ W.cell? ⟨w.heap.size + 1, 4, none⟩ = some (.int .i64 0) ∧ w.heap.size < W.heap.size ∧ w.heap.size + 1 < W.heap.size ∧ (∀ i, W.frozen? ⟨w.heap.size + 1, i, none⟩ = false))) := hidA (fun W hW => by and_intros <;> first | exact cellA hW (by rw [← hw0]; simp [go_sem]) | exact (by have h0 := hW.size; have h1 := hsz; omega) | exact (fun i => (hW.frozen (p := ⟨w.heap.size + 1, i, none⟩) (show w.heap.size + 1 < w0.heap.size by have h1 := hsz; omega)).trans (by rw [← hw0]; simp [go_sem])))
  have Hw := hidA hw0; clear hw0
  go_enter Try.func83, Try.ntmps83
  go_wp2_with fail
  rw [Hw.out]
  clear Hw
  have HS : Hid (Below w0.heap.size w0 w0) := hidA (Below.refl _ _)
  obtain ⟨c0, c1, c2, c3, c4, c5, c6, c7, c8, c9, c10, c11, c12, c13, c14, c15, c16, z0, z1, fr1⟩ := PK.out _ HS.out
  go_cut [3, 4] (fun x y W => ∃ g : Nat, x = .pointer (some ⟨g, 0, none⟩) ∧ y = .int .i64 n ∧ Below w0.heap.size w0 W ∧ w0.heap.size ≤ g ∧ W.cell? ⟨g, 0, none⟩ = some (.int .i64 a.lo) ∧ W.cell? ⟨g, 1, none⟩ = some (.int .i64 a.hi) ∧ W.cell? ⟨g, 2, none⟩ = some (.int .i64 a.m) ∧ W.cell? ⟨g, 3, none⟩ = some (.int .i64 a.r) ∧ W.cell? ⟨g, 4, none⟩ = some (.int .i64 a.k))
  case first =>
    have hsD := HS.out.drew
    have leD : w0.heap.size ≤ w0.heap.size := Nat.le_refl _
    go_region_held3 (fun w' => w'.cell? ⟨w.heap.size, 0, none⟩ = some (.int .i64 a.lo) ∧ w'.cell? ⟨w.heap.size, 1, none⟩ = some (.int .i64 a.hi) ∧ w'.cell? ⟨w.heap.size, 2, none⟩ = some (.int .i64 a.m) ∧ w'.cell? ⟨w.heap.size, 3, none⟩ = some (.int .i64 a.r) ∧ w'.cell? ⟨w.heap.size, 4, none⟩ = some (.int .i64 a.k) ∧ w'.cell? ⟨w.heap.size, 5, none⟩ = some (.int .i64 b.lo) ∧ w'.cell? ⟨w.heap.size, 6, none⟩ = some (.int .i64 b.hi) ∧ w'.cell? ⟨w.heap.size, 7, none⟩ = some (.int .i64 b.m) ∧ w'.cell? ⟨w.heap.size, 8, none⟩ = some (.int .i64 b.r) ∧ w'.cell? ⟨w.heap.size, 9, none⟩ = some (.int .i64 b.k) ∧ w'.cell? ⟨w.heap.size, 10, none⟩ = some (.int .i64 s) ∧ w'.cell? ⟨w.heap.size, 11, none⟩ = some (.int .i64 t) ∧ Below w0.heap.size w0 w')
      ((refine (fun hB => ⟨(PK.out _ hB).1, (PK.out _ hB).2.1, (PK.out _ hB).2.2.1, (PK.out _ hB).2.2.2.1, (PK.out _ hB).2.2.2.2.1, (PK.out _ hB).2.2.2.2.2.1, (PK.out _ hB).2.2.2.2.2.2.1, (PK.out _ hB).2.2.2.2.2.2.2.1, (PK.out _ hB).2.2.2.2.2.2.2.2.1, (PK.out _ hB).2.2.2.2.2.2.2.2.2.1, (PK.out _ hB).2.2.2.2.2.2.2.2.2.2.1, (PK.out _ hB).2.2.2.2.2.2.2.2.2.2.2.1, hB⟩) (?_ : Below w0.heap.size w0 _); exact (by repeat (first | with_reducible assumption | with_reducible exact Below.refl _ _ | with_reducible refine Below.setCell ?_ (by first | omega | (dsimp only; omega) | (simp; done) | (simp; omega)) _ | with_reducible refine Below.alloc ?_ (by first | omega | (dsimp only; omega) | (simp; done) | (simp; omega)) _ | with_reducible refine Below.drew ?_))))
      (first
        | ((go_at_call 77; (with_reducible refine (C1.out _).mono ?_); rintro e w1 ⟨rfl, rfl⟩)))
    all_goals
      go_wp2_with fail
      go_meet
      exact ⟨_, rfl, rfl, (by repeat (first | with_reducible assumption | with_reducible exact Below.refl _ _ | with_reducible refine Below.setCell ?_ (by first | omega | (dsimp only; omega) | (simp; done) | (simp; omega)) _ | with_reducible refine Below.alloc ?_ (by first | omega | (dsimp only; omega) | (simp; done) | (simp; omega)) _ | with_reducible refine Below.drew ?_)), (by first | omega | (dsimp only; omega) | (simp; done) | (simp; omega)), (by first | (simp [go_sem, *]; done) | ((try simp [go_sem, *]); exact World.cell?_setCell_same _ _ _ (show _ = some (.int .i64 0) by first | (simp [go_sem, *]; done) | exact (hc2 _ _ (by simp)).trans (by simp [go_sem]) | exact (hc2 _ _ (by simp; omega)).trans ((hc1 _ _ (by simp)).trans (by simp [go_sem]))))), (by first | (simp [go_sem, *]; done) | ((try simp [go_sem, *]); exact World.cell?_setCell_same _ _ _ (show _ = some (.int .i64 0) by first | (simp [go_sem, *]; done) | exact (hc2 _ _ (by simp)).trans (by simp [go_sem]) | exact (hc2 _ _ (by simp; omega)).trans ((hc1 _ _ (by simp)).trans (by simp [go_sem]))))), (by first | (simp [go_sem, *]; done) | ((try simp [go_sem, *]); exact World.cell?_setCell_same _ _ _ (show _ = some (.int .i64 0) by first | (simp [go_sem, *]; done) | exact (hc2 _ _ (by simp)).trans (by simp [go_sem]) | exact (hc2 _ _ (by simp; omega)).trans ((hc1 _ _ (by simp)).trans (by simp [go_sem]))))), (by first | (simp [go_sem, *]; done) | ((try simp [go_sem, *]); exact World.cell?_setCell_same _ _ _ (show _ = some (.int .i64 0) by first | (simp [go_sem, *]; done) | exact (hc2 _ _ (by simp)).trans (by simp [go_sem]) | exact (hc2 _ _ (by simp; omega)).trans ((hc1 _ _ (by simp)).trans (by simp [go_sem]))))), (by first | (simp [go_sem, *]; done) | ((try simp [go_sem, *]); exact World.cell?_setCell_same _ _ _ (show _ = some (.int .i64 0) by first | (simp [go_sem, *]; done) | exact (hc2 _ _ (by simp)).trans (by simp [go_sem]) | exact (hc2 _ _ (by simp; omega)).trans ((hc1 _ _ (by simp)).trans (by simp [go_sem])))))⟩
  case rest =>
    obtain ⟨g, rfl, rfl, hs1, lg, y0, y1, y2, y3, y4⟩ := hcut
    have ng : ¬ w.heap.size + 1 = g := by omega
    clear lg
    have Y0 := hidA y0
    have Y1 := hidA y1
    have Y2 := hidA y2
    have Y3 := hidA y3
    have Y4 := hidA y4
    clear y0 y1 y2 y3 y4
    clear HS; have HS := hidA hs1; clear hs1 c0 c1 c2 c3 c4 c5 c6 c7 c8 c9 c10 c11 c12 c13 c14 c15 c16 z0 z1 fr1; obtain ⟨c0, c1, c2, c3, c4, c5, c6, c7, c8, c9, c10, c11, c12, c13, c14, c15, c16, z0, z1, fr1⟩ := PK.out _ HS.out
    have N0 := hidA c0
    have N1 := hidA c1
    have N2 := hidA c2
    have N3 := hidA c3
    have N4 := hidA c4
    have N5 := hidA c5
    have N6 := hidA c6
    have N7 := hidA c7
    have N8 := hidA c8
    have N9 := hidA c9
    have N10 := hidA c10
    have N11 := hidA c11
    have Z0 := hidA c12
    have Z1 := hidA c13
    have Z2 := hidA c14
    have Z3 := hidA c15
    have Z4 := hidA c16
    have FZ := hidA fr1
    clear c0 c1 c2 c3 c4 c5 c6 c7 c8 c9 c10 c11 c12 c13 c14 c15 c16 z0 z1 fr1
    have BW := hidA (B0.out.trans (HS.out.mono B0.out.size))
    have BN : Hid (Below w.heap.size w wc) := hidA BW.out
    have leW : w.heap.size ≤ wc.heap.size := BN.out.size
    have hszb1 : w.heap.size + 1 < wc.heap.size := World.block_lt_of_cell? _ _ Z0.out
    clear B0 PK HS
    have PK : Hid (∀ V, Below wc.heap.size wc V → abF V (w.heap.size) a (V.cell? ⟨w.heap.size, 5, none⟩ = some (.int .i64 b.lo) ∧ V.cell? ⟨w.heap.size, 6, none⟩ = some (.int .i64 b.hi) ∧ V.cell? ⟨w.heap.size, 7, none⟩ = some (.int .i64 b.m) ∧ V.cell? ⟨w.heap.size, 8, none⟩ = some (.int .i64 b.r) ∧ V.cell? ⟨w.heap.size, 9, none⟩ = some (.int .i64 b.k) ∧ V.cell? ⟨w.heap.size, 10, none⟩ = some (.int .i64 s) ∧ V.cell? ⟨w.heap.size, 11, none⟩ = some (.int .i64 t) ∧ V.cell? ⟨w.heap.size + 1, 0, none⟩ = some (.int .i64 0) ∧ V.cell? ⟨w.heap.size + 1, 1, none⟩ = some (.int .i64 0) ∧ V.cell? ⟨w.heap.size + 1, 2, none⟩ = some (.int .i64 0) ∧ V.cell? ⟨w.heap.size + 1, 3, none⟩ = some (.int .i64 0) ∧ V.cell? ⟨w.heap.size + 1, 4, none⟩ = some (.int .i64 0) ∧ abF V g a (w.heap.size < V.heap.size ∧ w.heap.size + 1 < V.heap.size ∧ g < V.heap.size ∧ (∀ i, V.frozen? ⟨w.heap.size + 1, i, none⟩ = false)))) := hidA (fun V hW => ⟨cellA hW N0.out, cellA hW N1.out, cellA hW N2.out, cellA hW N3.out, cellA hW N4.out, cellA hW N5.out, cellA hW N6.out, cellA hW N7.out, cellA hW N8.out, cellA hW N9.out, cellA hW N10.out, cellA hW N11.out, cellA hW Z0.out, cellA hW Z1.out, cellA hW Z2.out, cellA hW Z3.out, cellA hW Z4.out, cellA hW Y0.out, cellA hW Y1.out, cellA hW Y2.out, cellA hW Y3.out, cellA hW Y4.out, Nat.lt_of_lt_of_le (World.block_lt_of_cell? _ _ N0.out) hW.size, Nat.lt_of_lt_of_le (World.block_lt_of_cell? _ _ Z0.out) hW.size, Nat.lt_of_lt_of_le (World.block_lt_of_cell? _ _ Y0.out) hW.size, (fun i => (hW.frozen (p := ⟨w.heap.size + 1, i, none⟩) (show w.heap.size + 1 < wc.heap.size from World.block_lt_of_cell? _ _ Z0.out)).trans (FZ.out i))⟩)
    clear N0 N1 N2 N3 N4 N5 N6 N7 N8 N9 N10 N11 Z0 Z1 Z2 Z3 Z4 Y0 Y1 Y2 Y3 Y4 FZ
    have B0 := BN
    clear BN
    have HS : Hid (Below wc.heap.size wc wc) := hidA (Below.refl _ _)
    generalize wc = w0 at *
    obtain ⟨c0, c1, c2, c3, c4, c5, c6, c7, c8, c9, c10, c11, c12, c13, c14, c15, c16, c17, c18, c19, c20, c21, z0, z1, z2, fr1⟩ := PK.out _ HS.out
    clear BW
    go_wp2_with (go_at_call 95; (with_reducible refine (CW.out _).mono ?_); rintro e w1 ⟨rfl, hb⟩; have hs1 := stepA HS.out hb; clear hb; clear HS; have HS := hidA hs1; clear hs1 c0 c1 c2 c3 c4 c5 c6 c7 c8 c9 c10 c11 c12 c13 c14 c15 c16 c17 c18 c19 c20 c21 z0 z1 z2 fr1; obtain ⟨c0, c1, c2, c3, c4, c5, c6, c7, c8, c9, c10, c11, c12, c13, c14, c15, c16, c17, c18, c19, c20, c21, z0, z1, z2, fr1⟩ := PK.out _ HS.out)
    exact bodyPost_ret (v := .agg #[.int .i64 J.lo, .int .i64 J.hi, .int .i64 J.m, .int .i64 J.r, .int .i64 0]) (by simp [results, Try.results83, go_sem, c12, c13, c14, c15, c16, z1]) rfl ⟨by rfl, (by repeat (first | with_reducible exact Below.refl _ _ | with_reducible exact HS.out | with_reducible exact B0.out | with_reducible refine Below.setCell ?_ (by first | omega | (dsimp only; omega) | (simp; done) | (simp; omega)) _ | with_reducible refine Below.alloc ?_ (by first | omega | (dsimp only; omega) | (simp; done) | (simp; omega)) _ | with_reducible refine Below.drew ?_ | with_reducible refine drewnA ?_ _ | with_reducible refine Below.trans ?_ (HS.out.mono (by first | omega | (dsimp only; omega) | (simp; done) | (simp; omega))) | with_reducible refine Below.trans ?_ (B0.out.mono (by first | omega | (dsimp only; omega) | (simp; done) | (simp; omega)))))⟩
set_option maxRecDepth 100000 in
set_option maxHeartbeats 4000000 in
theorem core_rem_2 (a b J : Ab) (s t n : Int) (C1 : Hid (∀ w, Calls Try.prog 77 #[.int .i64 b.lo] w fun e w' => e = .returned (.int .i64 n) ∧ w = w')) (h1 : (t == 0) = true) (h2 : (t != 0) = false) (HH : (((n == 0) = true)) ∨ (((n == 0) = false) ∧ (0 ≤ a.lo) ∧ (a.hi < n))) (w : World) :
    Calls Try.prog 83 #[.agg #[.int .i64 a.lo, .int .i64 a.hi, .int .i64 a.m, .int .i64 a.r, .int .i64 a.k, .int .i64 b.lo, .int .i64 b.hi, .int .i64 b.m, .int .i64 b.r, .int .i64 b.k, .int .i64 s, .int .i64 t]] w fun e w' => e = .returned (.agg #[.int .i64 a.lo, .int .i64 a.hi, .int .i64 a.m, .int .i64 a.r, .int .i64 a.k]) ∧ Below w.heap.size w w' := by
  rcases HH with h3 | ⟨h3, h4, h5⟩
  all_goals
    obtain ⟨w0, hw0⟩ : ∃ w0, ((w.alloc (.cells #[.int .i64 a.lo, .int .i64 a.hi, .int .i64 a.m, .int .i64 a.r, .int .i64 a.k, .int .i64 b.lo, .int .i64 b.hi, .int .i64 b.m, .int .i64 b.r, .int .i64 b.k, .int .i64 s, .int .i64 t] 82)).alloc (.cells #[.int .i64 0, .int .i64 0, .int .i64 0, .int .i64 0, .int .i64 0] 27)) = w0 := ⟨_, rfl⟩
    have B0 : Hid (Below w.heap.size w w0) := hidA (by rw [← hw0]; exact (alA (alA (Below.refl _ _) _) _))
    have hsz : w.heap.size + 1 < w0.heap.size := by rw [← hw0]; simp
    have PK : Hid (∀ W, Below w0.heap.size w0 W → abF W (w.heap.size) a (W.cell? ⟨w.heap.size, 5, none⟩ = some (.int .i64 b.lo) ∧ W.cell? ⟨w.heap.size, 6, none⟩ = some (.int .i64 b.hi) ∧ W.cell? ⟨w.heap.size, 7, none⟩ = some (.int .i64 b.m) ∧ W.cell? ⟨w.heap.size, 8, none⟩ = some (.int .i64 b.r) ∧ W.cell? ⟨w.heap.size, 9, none⟩ = some (.int .i64 b.k) ∧ W.cell? ⟨w.heap.size, 10, none⟩ = some (.int .i64 s) ∧ W.cell? ⟨w.heap.size, 11, none⟩ = some (.int .i64 t) ∧ W.cell? ⟨w.heap.size + 1, 0, none⟩ = some (.int .i64 0) ∧ W.cell? ⟨w.heap.size + 1, 1, none⟩ = some (.int .i64 0) ∧ W.cell? ⟨w.heap.size + 1, 2, none⟩ = some (.int .i64 0) ∧ W.cell? ⟨w.heap.size + 1, 3, none⟩ = some (.int .i64 0) ∧ W.cell? ⟨w.heap.size + 1, 4, none⟩ = some (.int .i64 0) ∧ w.heap.size < W.heap.size ∧ w.heap.size + 1 < W.heap.size ∧ (∀ i, W.frozen? ⟨w.heap.size + 1, i, none⟩ = false))) := hidA (fun W hW => by and_intros <;> first | exact cellA hW (by rw [← hw0]; simp [go_sem]) | exact (by have h0 := hW.size; have h1 := hsz; omega) | exact (fun i => (hW.frozen (p := ⟨w.heap.size + 1, i, none⟩) (show w.heap.size + 1 < w0.heap.size by have h1 := hsz; omega)).trans (by rw [← hw0]; simp [go_sem])))
    have Hw := hidA hw0; clear hw0
    go_enter Try.func83, Try.ntmps83
    go_wp2_with fail
    rw [Hw.out]
    clear Hw
    have HS : Hid (Below w0.heap.size w0 w0) := hidA (Below.refl _ _)
    obtain ⟨c0, c1, c2, c3, c4, c5, c6, c7, c8, c9, c10, c11, c12, c13, c14, c15, c16, z0, z1, fr1⟩ := PK.out _ HS.out
    go_cut [3, 4] (fun x y W => ∃ g : Nat, x = .pointer (some ⟨g, 0, none⟩) ∧ y = .int .i64 n ∧ Below w0.heap.size w0 W ∧ w0.heap.size ≤ g ∧ W.cell? ⟨g, 0, none⟩ = some (.int .i64 a.lo) ∧ W.cell? ⟨g, 1, none⟩ = some (.int .i64 a.hi) ∧ W.cell? ⟨g, 2, none⟩ = some (.int .i64 a.m) ∧ W.cell? ⟨g, 3, none⟩ = some (.int .i64 a.r) ∧ W.cell? ⟨g, 4, none⟩ = some (.int .i64 a.k))
    case first =>
      have hsD := HS.out.drew
      have leD : w0.heap.size ≤ w0.heap.size := Nat.le_refl _
      go_region_held3 (fun w' => w'.cell? ⟨w.heap.size, 0, none⟩ = some (.int .i64 a.lo) ∧ w'.cell? ⟨w.heap.size, 1, none⟩ = some (.int .i64 a.hi) ∧ w'.cell? ⟨w.heap.size, 2, none⟩ = some (.int .i64 a.m) ∧ w'.cell? ⟨w.heap.size, 3, none⟩ = some (.int .i64 a.r) ∧ w'.cell? ⟨w.heap.size, 4, none⟩ = some (.int .i64 a.k) ∧ w'.cell? ⟨w.heap.size, 5, none⟩ = some (.int .i64 b.lo) ∧ w'.cell? ⟨w.heap.size, 6, none⟩ = some (.int .i64 b.hi) ∧ w'.cell? ⟨w.heap.size, 7, none⟩ = some (.int .i64 b.m) ∧ w'.cell? ⟨w.heap.size, 8, none⟩ = some (.int .i64 b.r) ∧ w'.cell? ⟨w.heap.size, 9, none⟩ = some (.int .i64 b.k) ∧ w'.cell? ⟨w.heap.size, 10, none⟩ = some (.int .i64 s) ∧ w'.cell? ⟨w.heap.size, 11, none⟩ = some (.int .i64 t) ∧ Below w0.heap.size w0 w')
        ((refine (fun hB => ⟨(PK.out _ hB).1, (PK.out _ hB).2.1, (PK.out _ hB).2.2.1, (PK.out _ hB).2.2.2.1, (PK.out _ hB).2.2.2.2.1, (PK.out _ hB).2.2.2.2.2.1, (PK.out _ hB).2.2.2.2.2.2.1, (PK.out _ hB).2.2.2.2.2.2.2.1, (PK.out _ hB).2.2.2.2.2.2.2.2.1, (PK.out _ hB).2.2.2.2.2.2.2.2.2.1, (PK.out _ hB).2.2.2.2.2.2.2.2.2.2.1, (PK.out _ hB).2.2.2.2.2.2.2.2.2.2.2.1, hB⟩) (?_ : Below w0.heap.size w0 _); exact (by repeat (first | with_reducible assumption | with_reducible exact Below.refl _ _ | with_reducible refine Below.setCell ?_ (by first | omega | (dsimp only; omega) | (simp; done) | (simp; omega)) _ | with_reducible refine Below.alloc ?_ (by first | omega | (dsimp only; omega) | (simp; done) | (simp; omega)) _ | with_reducible refine Below.drew ?_))))
        (first
          | ((go_at_call 77; (with_reducible refine (C1.out _).mono ?_); rintro e w1 ⟨rfl, rfl⟩)))
      all_goals
        go_wp2_with fail
        go_meet
        exact ⟨_, rfl, rfl, (by repeat (first | with_reducible assumption | with_reducible exact Below.refl _ _ | with_reducible refine Below.setCell ?_ (by first | omega | (dsimp only; omega) | (simp; done) | (simp; omega)) _ | with_reducible refine Below.alloc ?_ (by first | omega | (dsimp only; omega) | (simp; done) | (simp; omega)) _ | with_reducible refine Below.drew ?_)), (by first | omega | (dsimp only; omega) | (simp; done) | (simp; omega)), (by first | (simp [go_sem, *]; done) | ((try simp [go_sem, *]); exact World.cell?_setCell_same _ _ _ (show _ = some (.int .i64 0) by first | (simp [go_sem, *]; done) | exact (hc2 _ _ (by simp)).trans (by simp [go_sem]) | exact (hc2 _ _ (by simp; omega)).trans ((hc1 _ _ (by simp)).trans (by simp [go_sem]))))), (by first | (simp [go_sem, *]; done) | ((try simp [go_sem, *]); exact World.cell?_setCell_same _ _ _ (show _ = some (.int .i64 0) by first | (simp [go_sem, *]; done) | exact (hc2 _ _ (by simp)).trans (by simp [go_sem]) | exact (hc2 _ _ (by simp; omega)).trans ((hc1 _ _ (by simp)).trans (by simp [go_sem]))))), (by first | (simp [go_sem, *]; done) | ((try simp [go_sem, *]); exact World.cell?_setCell_same _ _ _ (show _ = some (.int .i64 0) by first | (simp [go_sem, *]; done) | exact (hc2 _ _ (by simp)).trans (by simp [go_sem]) | exact (hc2 _ _ (by simp; omega)).trans ((hc1 _ _ (by simp)).trans (by simp [go_sem]))))), (by first | (simp [go_sem, *]; done) | ((try simp [go_sem, *]); exact World.cell?_setCell_same _ _ _ (show _ = some (.int .i64 0) by first | (simp [go_sem, *]; done) | exact (hc2 _ _ (by simp)).trans (by simp [go_sem]) | exact (hc2 _ _ (by simp; omega)).trans ((hc1 _ _ (by simp)).trans (by simp [go_sem]))))), (by first | (simp [go_sem, *]; done) | ((try simp [go_sem, *]); exact World.cell?_setCell_same _ _ _ (show _ = some (.int .i64 0) by first | (simp [go_sem, *]; done) | exact (hc2 _ _ (by simp)).trans (by simp [go_sem]) | exact (hc2 _ _ (by simp; omega)).trans ((hc1 _ _ (by simp)).trans (by simp [go_sem])))))⟩
    case rest =>
      obtain ⟨g, rfl, rfl, hs1, lg, y0, y1, y2, y3, y4⟩ := hcut
      have ng : ¬ w.heap.size + 1 = g := by omega
      clear lg
      have Y0 := hidA y0
      have Y1 := hidA y1
      have Y2 := hidA y2
      have Y3 := hidA y3
      have Y4 := hidA y4
      clear y0 y1 y2 y3 y4
      clear HS; have HS := hidA hs1; clear hs1 c0 c1 c2 c3 c4 c5 c6 c7 c8 c9 c10 c11 c12 c13 c14 c15 c16 z0 z1 fr1; obtain ⟨c0, c1, c2, c3, c4, c5, c6, c7, c8, c9, c10, c11, c12, c13, c14, c15, c16, z0, z1, fr1⟩ := PK.out _ HS.out
      have N0 := hidA c0
      have N1 := hidA c1
      have N2 := hidA c2
      have N3 := hidA c3
      have N4 := hidA c4
      have N5 := hidA c5
      have N6 := hidA c6
      have N7 := hidA c7
      have N8 := hidA c8
      have N9 := hidA c9
      have N10 := hidA c10
      have N11 := hidA c11
      have Z0 := hidA c12
      have Z1 := hidA c13
      have Z2 := hidA c14
      have Z3 := hidA c15
      have Z4 := hidA c16
      have FZ := hidA fr1
      clear c0 c1 c2 c3 c4 c5 c6 c7 c8 c9 c10 c11 c12 c13 c14 c15 c16 z0 z1 fr1
      have BW := hidA (B0.out.trans (HS.out.mono B0.out.size))
      have BN : Hid (Below w.heap.size w wc) := hidA BW.out
      have leW : w.heap.size ≤ wc.heap.size := BN.out.size
      have hszb1 : w.heap.size + 1 < wc.heap.size := World.block_lt_of_cell? _ _ Z0.out
      clear B0 PK HS
      have PK : Hid (∀ V, Below wc.heap.size wc V → abF V (w.heap.size) a (V.cell? ⟨w.heap.size, 5, none⟩ = some (.int .i64 b.lo) ∧ V.cell? ⟨w.heap.size, 6, none⟩ = some (.int .i64 b.hi) ∧ V.cell? ⟨w.heap.size, 7, none⟩ = some (.int .i64 b.m) ∧ V.cell? ⟨w.heap.size, 8, none⟩ = some (.int .i64 b.r) ∧ V.cell? ⟨w.heap.size, 9, none⟩ = some (.int .i64 b.k) ∧ V.cell? ⟨w.heap.size, 10, none⟩ = some (.int .i64 s) ∧ V.cell? ⟨w.heap.size, 11, none⟩ = some (.int .i64 t) ∧ V.cell? ⟨w.heap.size + 1, 0, none⟩ = some (.int .i64 0) ∧ V.cell? ⟨w.heap.size + 1, 1, none⟩ = some (.int .i64 0) ∧ V.cell? ⟨w.heap.size + 1, 2, none⟩ = some (.int .i64 0) ∧ V.cell? ⟨w.heap.size + 1, 3, none⟩ = some (.int .i64 0) ∧ V.cell? ⟨w.heap.size + 1, 4, none⟩ = some (.int .i64 0) ∧ abF V g a (w.heap.size < V.heap.size ∧ w.heap.size + 1 < V.heap.size ∧ g < V.heap.size ∧ (∀ i, V.frozen? ⟨w.heap.size + 1, i, none⟩ = false)))) := hidA (fun V hW => ⟨cellA hW N0.out, cellA hW N1.out, cellA hW N2.out, cellA hW N3.out, cellA hW N4.out, cellA hW N5.out, cellA hW N6.out, cellA hW N7.out, cellA hW N8.out, cellA hW N9.out, cellA hW N10.out, cellA hW N11.out, cellA hW Z0.out, cellA hW Z1.out, cellA hW Z2.out, cellA hW Z3.out, cellA hW Z4.out, cellA hW Y0.out, cellA hW Y1.out, cellA hW Y2.out, cellA hW Y3.out, cellA hW Y4.out, Nat.lt_of_lt_of_le (World.block_lt_of_cell? _ _ N0.out) hW.size, Nat.lt_of_lt_of_le (World.block_lt_of_cell? _ _ Z0.out) hW.size, Nat.lt_of_lt_of_le (World.block_lt_of_cell? _ _ Y0.out) hW.size, (fun i => (hW.frozen (p := ⟨w.heap.size + 1, i, none⟩) (show w.heap.size + 1 < wc.heap.size from World.block_lt_of_cell? _ _ Z0.out)).trans (FZ.out i))⟩)
      clear N0 N1 N2 N3 N4 N5 N6 N7 N8 N9 N10 N11 Z0 Z1 Z2 Z3 Z4 Y0 Y1 Y2 Y3 Y4 FZ
      have B0 := BN
      clear BN
      have HS : Hid (Below wc.heap.size wc wc) := hidA (Below.refl _ _)
      generalize wc = w0 at *
      obtain ⟨c0, c1, c2, c3, c4, c5, c6, c7, c8, c9, c10, c11, c12, c13, c14, c15, c16, c17, c18, c19, c20, c21, z0, z1, z2, fr1⟩ := PK.out _ HS.out
      clear BW
      go_wp2_with fail
      exact bodyPost_ret (v := .agg #[.int .i64 a.lo, .int .i64 a.hi, .int .i64 a.m, .int .i64 a.r, .int .i64 a.k]) (by simp [results, Try.results83, go_sem, c12, c13, c14, c15, c16, z1]) rfl ⟨by rfl, (by repeat (first | with_reducible exact Below.refl _ _ | with_reducible exact HS.out | with_reducible exact B0.out | with_reducible refine Below.setCell ?_ (by first | omega | (dsimp only; omega) | (simp; done) | (simp; omega)) _ | with_reducible refine Below.alloc ?_ (by first | omega | (dsimp only; omega) | (simp; done) | (simp; omega)) _ | with_reducible refine Below.drew ?_ | with_reducible refine drewnA ?_ _ | with_reducible refine Below.trans ?_ (HS.out.mono (by first | omega | (dsimp only; omega) | (simp; done) | (simp; omega))) | with_reducible refine Below.trans ?_ (B0.out.mono (by first | omega | (dsimp only; omega) | (simp; done) | (simp; omega)))))⟩
theorem rem_2 (a b J : Ab) (s t n : Int) (C1 : Hid (∀ w, Calls Try.prog 77 #[.int .i64 b.lo] w fun e w' => e = .returned (.int .i64 n) ∧ w = w')) (h1 : (t == 0) = true) (h2 : (t != 0) = false) (h3 : (n == 0) = true) (w : World) :
    Calls Try.prog 83 #[.agg #[.int .i64 a.lo, .int .i64 a.hi, .int .i64 a.m, .int .i64 a.r, .int .i64 a.k, .int .i64 b.lo, .int .i64 b.hi, .int .i64 b.m, .int .i64 b.r, .int .i64 b.k, .int .i64 s, .int .i64 t]] w fun e w' => e = .returned (.agg #[.int .i64 a.lo, .int .i64 a.hi, .int .i64 a.m, .int .i64 a.r, .int .i64 a.k]) ∧ Below w.heap.size w w' :=
  core_rem_2 a b J s t n C1 h1 h2 (Or.inl h3) w
set_option maxRecDepth 100000 in
set_option maxHeartbeats 4000000 in
theorem rem_3 (a b J : Ab) (s t n : Int) (C1 : Hid (∀ w, Calls Try.prog 77 #[.int .i64 b.lo] w fun e w' => e = .returned (.int .i64 n) ∧ w = w')) (h1 : (t == 0) = true) (h2 : (t != 0) = false) (h3 : (n == 0) = false) (h4 : 0 ≤ a.lo) (h5 : a.hi < n) (w : World) :
    Calls Try.prog 83 #[.agg #[.int .i64 a.lo, .int .i64 a.hi, .int .i64 a.m, .int .i64 a.r, .int .i64 a.k, .int .i64 b.lo, .int .i64 b.hi, .int .i64 b.m, .int .i64 b.r, .int .i64 b.k, .int .i64 s, .int .i64 t]] w fun e w' => e = .returned (.agg #[.int .i64 a.lo, .int .i64 a.hi, .int .i64 a.m, .int .i64 a.r, .int .i64 a.k]) ∧ Below w.heap.size w w' :=
  core_rem_2 a b J s t n C1 h1 h2 (Or.inr ⟨h3, h4, h5⟩) w
set_option maxRecDepth 100000 in
set_option maxHeartbeats 4000000 in
theorem core_rem_4 (a b J : Ab) (s t n : Int) (C1 : Hid (∀ w, Calls Try.prog 77 #[.int .i64 b.lo] w fun e w' => e = .returned (.int .i64 n) ∧ w = w')) (h1 : (t == 0) = true) (h2 : (t != 0) = false) (h3 : (n == 0) = false) (x y u v lo hi d : Int) (e1 : IntKind.i64.wrap (1 - n) = x) (e2 : (if a.lo < x then x else a.lo) = y) (e3 : IntKind.i64.wrap (n - 1) = u) (e4 : (if u < a.hi then u else a.hi) = v) (e5 : (if 0 < y then 0 else y) = lo) (e6 : (if v < 0 then 0 else v) = hi) (CD : Hid (∀ w b, w.cell? ⟨b, 0, none⟩ = some (.int .i64 s) → w.cell? ⟨b, 1, none⟩ = some (.int .i64 n) → Calls Try.prog 47 #[.slice (some ⟨b, 0, none⟩) 2 2] w fun e w' => e = .returned (.int .i64 d) ∧ Below w.heap.size w w')) (CI : Hid (∀ w, Calls Try.prog 41 #[.agg #[.int .i64 a.lo, .int .i64 d], .int .i64 lo, .int .i64 hi] w fun e w' => e = .returned (.tuple #[.agg #[.int .i64 J.lo, .int .i64 J.hi, .int .i64 J.m, .int .i64 J.r, .int .i64 0], .bool true]) ∧ Below w.heap.size w w')) (HH : ((¬ 0 ≤ a.lo)) ∨ ((0 ≤ a.lo) ∧ (¬ a.hi < n))) (w : World) :
    Calls Try.prog 83 #[.agg #[.int .i64 a.lo, .int .i64 a.hi, .int .i64 a.m, .int .i64 a.r, .int .i64 a.k, .int .i64 b.lo, .int .i64 b.hi, .int .i64 b.m, .int .i64 b.r, .int .i64 b.k, .int .i64 s, .int .i64 t]] w fun e w' => e = .returned (.agg #[.int .i64 J.lo, .int .i64 J.hi, .int .i64 J.m, .int .i64 J.r, .int .i64 0]) ∧ Below w.heap.size w w' := by
  rcases HH with h4 | ⟨h4, h5⟩
  all_goals
    obtain ⟨w0, hw0⟩ : ∃ w0, ((w.alloc (.cells #[.int .i64 a.lo, .int .i64 a.hi, .int .i64 a.m, .int .i64 a.r, .int .i64 a.k, .int .i64 b.lo, .int .i64 b.hi, .int .i64 b.m, .int .i64 b.r, .int .i64 b.k, .int .i64 s, .int .i64 t] 82)).alloc (.cells #[.int .i64 0, .int .i64 0, .int .i64 0, .int .i64 0, .int .i64 0] 27)) = w0 := ⟨_, rfl⟩
    have B0 : Hid (Below w.heap.size w w0) := hidA (by rw [← hw0]; exact (alA (alA (Below.refl _ _) _) _))
    have hsz : w.heap.size + 1 < w0.heap.size := by rw [← hw0]; simp
    have PK : Hid (∀ W, Below w0.heap.size w0 W → abF W (w.heap.size) a (W.cell? ⟨w.heap.size, 5, none⟩ = some (.int .i64 b.lo) ∧ W.cell? ⟨w.heap.size, 6, none⟩ = some (.int .i64 b.hi) ∧ W.cell? ⟨w.heap.size, 7, none⟩ = some (.int .i64 b.m) ∧ W.cell? ⟨w.heap.size, 8, none⟩ = some (.int .i64 b.r) ∧ W.cell? ⟨w.heap.size, 9, none⟩ = some (.int .i64 b.k) ∧ W.cell? ⟨w.heap.size, 10, none⟩ = some (.int .i64 s) ∧ W.cell? ⟨w.heap.size, 11, none⟩ = some (.int .i64 t) ∧ W.cell? ⟨w.heap.size + 1, 0, none⟩ = some (.int .i64 0) ∧ W.cell? ⟨w.heap.size + 1, 1, none⟩ = some (.int .i64 0) ∧ W.cell? ⟨w.heap.size + 1, 2, none⟩ = some (.int .i64 0) ∧ W.cell? ⟨w.heap.size + 1, 3, none⟩ = some (.int .i64 0) ∧ W.cell? ⟨w.heap.size + 1, 4, none⟩ = some (.int .i64 0) ∧ w.heap.size < W.heap.size ∧ w.heap.size + 1 < W.heap.size ∧ (∀ i, W.frozen? ⟨w.heap.size + 1, i, none⟩ = false))) := hidA (fun W hW => by and_intros <;> first | exact cellA hW (by rw [← hw0]; simp [go_sem]) | exact (by have h0 := hW.size; have h1 := hsz; omega) | exact (fun i => (hW.frozen (p := ⟨w.heap.size + 1, i, none⟩) (show w.heap.size + 1 < w0.heap.size by have h1 := hsz; omega)).trans (by rw [← hw0]; simp [go_sem])))
    have Hw := hidA hw0; clear hw0
    go_enter Try.func83, Try.ntmps83
    go_wp2_with fail
    rw [Hw.out]
    clear Hw
    have HS : Hid (Below w0.heap.size w0 w0) := hidA (Below.refl _ _)
    obtain ⟨c0, c1, c2, c3, c4, c5, c6, c7, c8, c9, c10, c11, c12, c13, c14, c15, c16, z0, z1, fr1⟩ := PK.out _ HS.out
    go_cut [3, 4] (fun x y W => ∃ g : Nat, x = .pointer (some ⟨g, 0, none⟩) ∧ y = .int .i64 n ∧ Below w0.heap.size w0 W ∧ w0.heap.size ≤ g ∧ W.cell? ⟨g, 0, none⟩ = some (.int .i64 a.lo) ∧ W.cell? ⟨g, 1, none⟩ = some (.int .i64 a.hi) ∧ W.cell? ⟨g, 2, none⟩ = some (.int .i64 a.m) ∧ W.cell? ⟨g, 3, none⟩ = some (.int .i64 a.r) ∧ W.cell? ⟨g, 4, none⟩ = some (.int .i64 a.k))
    case first =>
      have hsD := HS.out.drew
      have leD : w0.heap.size ≤ w0.heap.size := Nat.le_refl _
      go_region_held3 (fun w' => w'.cell? ⟨w.heap.size, 0, none⟩ = some (.int .i64 a.lo) ∧ w'.cell? ⟨w.heap.size, 1, none⟩ = some (.int .i64 a.hi) ∧ w'.cell? ⟨w.heap.size, 2, none⟩ = some (.int .i64 a.m) ∧ w'.cell? ⟨w.heap.size, 3, none⟩ = some (.int .i64 a.r) ∧ w'.cell? ⟨w.heap.size, 4, none⟩ = some (.int .i64 a.k) ∧ w'.cell? ⟨w.heap.size, 5, none⟩ = some (.int .i64 b.lo) ∧ w'.cell? ⟨w.heap.size, 6, none⟩ = some (.int .i64 b.hi) ∧ w'.cell? ⟨w.heap.size, 7, none⟩ = some (.int .i64 b.m) ∧ w'.cell? ⟨w.heap.size, 8, none⟩ = some (.int .i64 b.r) ∧ w'.cell? ⟨w.heap.size, 9, none⟩ = some (.int .i64 b.k) ∧ w'.cell? ⟨w.heap.size, 10, none⟩ = some (.int .i64 s) ∧ w'.cell? ⟨w.heap.size, 11, none⟩ = some (.int .i64 t) ∧ Below w0.heap.size w0 w')
        ((refine (fun hB => ⟨(PK.out _ hB).1, (PK.out _ hB).2.1, (PK.out _ hB).2.2.1, (PK.out _ hB).2.2.2.1, (PK.out _ hB).2.2.2.2.1, (PK.out _ hB).2.2.2.2.2.1, (PK.out _ hB).2.2.2.2.2.2.1, (PK.out _ hB).2.2.2.2.2.2.2.1, (PK.out _ hB).2.2.2.2.2.2.2.2.1, (PK.out _ hB).2.2.2.2.2.2.2.2.2.1, (PK.out _ hB).2.2.2.2.2.2.2.2.2.2.1, (PK.out _ hB).2.2.2.2.2.2.2.2.2.2.2.1, hB⟩) (?_ : Below w0.heap.size w0 _); exact (by repeat (first | with_reducible assumption | with_reducible exact Below.refl _ _ | with_reducible refine Below.setCell ?_ (by first | omega | (dsimp only; omega) | (simp; done) | (simp; omega)) _ | with_reducible refine Below.alloc ?_ (by first | omega | (dsimp only; omega) | (simp; done) | (simp; omega)) _ | with_reducible refine Below.drew ?_))))
        (first
          | ((go_at_call 77; (with_reducible refine (C1.out _).mono ?_); rintro e w1 ⟨rfl, rfl⟩)))
      all_goals
        go_wp2_with fail
        go_meet
        exact ⟨_, rfl, rfl, (by repeat (first | with_reducible assumption | with_reducible exact Below.refl _ _ | with_reducible refine Below.setCell ?_ (by first | omega | (dsimp only; omega) | (simp; done) | (simp; omega)) _ | with_reducible refine Below.alloc ?_ (by first | omega | (dsimp only; omega) | (simp; done) | (simp; omega)) _ | with_reducible refine Below.drew ?_)), (by first | omega | (dsimp only; omega) | (simp; done) | (simp; omega)), (by first | (simp [go_sem, *]; done) | ((try simp [go_sem, *]); exact World.cell?_setCell_same _ _ _ (show _ = some (.int .i64 0) by first | (simp [go_sem, *]; done) | exact (hc2 _ _ (by simp)).trans (by simp [go_sem]) | exact (hc2 _ _ (by simp; omega)).trans ((hc1 _ _ (by simp)).trans (by simp [go_sem]))))), (by first | (simp [go_sem, *]; done) | ((try simp [go_sem, *]); exact World.cell?_setCell_same _ _ _ (show _ = some (.int .i64 0) by first | (simp [go_sem, *]; done) | exact (hc2 _ _ (by simp)).trans (by simp [go_sem]) | exact (hc2 _ _ (by simp; omega)).trans ((hc1 _ _ (by simp)).trans (by simp [go_sem]))))), (by first | (simp [go_sem, *]; done) | ((try simp [go_sem, *]); exact World.cell?_setCell_same _ _ _ (show _ = some (.int .i64 0) by first | (simp [go_sem, *]; done) | exact (hc2 _ _ (by simp)).trans (by simp [go_sem]) | exact (hc2 _ _ (by simp; omega)).trans ((hc1 _ _ (by simp)).trans (by simp [go_sem]))))), (by first | (simp [go_sem, *]; done) | ((try simp [go_sem, *]); exact World.cell?_setCell_same _ _ _ (show _ = some (.int .i64 0) by first | (simp [go_sem, *]; done) | exact (hc2 _ _ (by simp)).trans (by simp [go_sem]) | exact (hc2 _ _ (by simp; omega)).trans ((hc1 _ _ (by simp)).trans (by simp [go_sem]))))), (by first | (simp [go_sem, *]; done) | ((try simp [go_sem, *]); exact World.cell?_setCell_same _ _ _ (show _ = some (.int .i64 0) by first | (simp [go_sem, *]; done) | exact (hc2 _ _ (by simp)).trans (by simp [go_sem]) | exact (hc2 _ _ (by simp; omega)).trans ((hc1 _ _ (by simp)).trans (by simp [go_sem])))))⟩
    case rest =>
      obtain ⟨g, rfl, rfl, hs1, lg, y0, y1, y2, y3, y4⟩ := hcut
      have ng : ¬ w.heap.size + 1 = g := by omega
      clear lg
      have Y0 := hidA y0
      have Y1 := hidA y1
      have Y2 := hidA y2
      have Y3 := hidA y3
      have Y4 := hidA y4
      clear y0 y1 y2 y3 y4
      clear HS; have HS := hidA hs1; clear hs1 c0 c1 c2 c3 c4 c5 c6 c7 c8 c9 c10 c11 c12 c13 c14 c15 c16 z0 z1 fr1; obtain ⟨c0, c1, c2, c3, c4, c5, c6, c7, c8, c9, c10, c11, c12, c13, c14, c15, c16, z0, z1, fr1⟩ := PK.out _ HS.out
      have N0 := hidA c0
      have N1 := hidA c1
      have N2 := hidA c2
      have N3 := hidA c3
      have N4 := hidA c4
      have N5 := hidA c5
      have N6 := hidA c6
      have N7 := hidA c7
      have N8 := hidA c8
      have N9 := hidA c9
      have N10 := hidA c10
      have N11 := hidA c11
      have Z0 := hidA c12
      have Z1 := hidA c13
      have Z2 := hidA c14
      have Z3 := hidA c15
      have Z4 := hidA c16
      have FZ := hidA fr1
      clear c0 c1 c2 c3 c4 c5 c6 c7 c8 c9 c10 c11 c12 c13 c14 c15 c16 z0 z1 fr1
      have BW := hidA (B0.out.trans (HS.out.mono B0.out.size))
      have BN : Hid (Below w.heap.size w wc) := hidA BW.out
      have leW : w.heap.size ≤ wc.heap.size := BN.out.size
      have hszb1 : w.heap.size + 1 < wc.heap.size := World.block_lt_of_cell? _ _ Z0.out
      clear B0 PK HS
      have PK : Hid (∀ V, Below wc.heap.size wc V → abF V (w.heap.size) a (V.cell? ⟨w.heap.size, 5, none⟩ = some (.int .i64 b.lo) ∧ V.cell? ⟨w.heap.size, 6, none⟩ = some (.int .i64 b.hi) ∧ V.cell? ⟨w.heap.size, 7, none⟩ = some (.int .i64 b.m) ∧ V.cell? ⟨w.heap.size, 8, none⟩ = some (.int .i64 b.r) ∧ V.cell? ⟨w.heap.size, 9, none⟩ = some (.int .i64 b.k) ∧ V.cell? ⟨w.heap.size, 10, none⟩ = some (.int .i64 s) ∧ V.cell? ⟨w.heap.size, 11, none⟩ = some (.int .i64 t) ∧ V.cell? ⟨w.heap.size + 1, 0, none⟩ = some (.int .i64 0) ∧ V.cell? ⟨w.heap.size + 1, 1, none⟩ = some (.int .i64 0) ∧ V.cell? ⟨w.heap.size + 1, 2, none⟩ = some (.int .i64 0) ∧ V.cell? ⟨w.heap.size + 1, 3, none⟩ = some (.int .i64 0) ∧ V.cell? ⟨w.heap.size + 1, 4, none⟩ = some (.int .i64 0) ∧ abF V g a (w.heap.size < V.heap.size ∧ w.heap.size + 1 < V.heap.size ∧ g < V.heap.size ∧ (∀ i, V.frozen? ⟨w.heap.size + 1, i, none⟩ = false)))) := hidA (fun V hW => ⟨cellA hW N0.out, cellA hW N1.out, cellA hW N2.out, cellA hW N3.out, cellA hW N4.out, cellA hW N5.out, cellA hW N6.out, cellA hW N7.out, cellA hW N8.out, cellA hW N9.out, cellA hW N10.out, cellA hW N11.out, cellA hW Z0.out, cellA hW Z1.out, cellA hW Z2.out, cellA hW Z3.out, cellA hW Z4.out, cellA hW Y0.out, cellA hW Y1.out, cellA hW Y2.out, cellA hW Y3.out, cellA hW Y4.out, Nat.lt_of_lt_of_le (World.block_lt_of_cell? _ _ N0.out) hW.size, Nat.lt_of_lt_of_le (World.block_lt_of_cell? _ _ Z0.out) hW.size, Nat.lt_of_lt_of_le (World.block_lt_of_cell? _ _ Y0.out) hW.size, (fun i => (hW.frozen (p := ⟨w.heap.size + 1, i, none⟩) (show w.heap.size + 1 < wc.heap.size from World.block_lt_of_cell? _ _ Z0.out)).trans (FZ.out i))⟩)
      clear N0 N1 N2 N3 N4 N5 N6 N7 N8 N9 N10 N11 Z0 Z1 Z2 Z3 Z4 Y0 Y1 Y2 Y3 Y4 FZ
      have B0 := BN
      clear BN
      have HS : Hid (Below wc.heap.size wc wc) := hidA (Below.refl _ _)
      generalize wc = w0 at *
      obtain ⟨c0, c1, c2, c3, c4, c5, c6, c7, c8, c9, c10, c11, c12, c13, c14, c15, c16, c17, c18, c19, c20, c21, z0, z1, z2, fr1⟩ := PK.out _ HS.out
      clear BW
      go_wp2_with fail
      go_quiet (fail)
      have hs1 := drewnA HS.out nq
      generalize w0.drewN nq = wd at *
      clear HS; have HS := hidA hs1; clear hs1 c0 c1 c2 c3 c4 c5 c6 c7 c8 c9 c10 c11 c12 c13 c14 c15 c16 c17 c18 c19 c20 c21 z0 z1 z2 fr1; obtain ⟨c0, c1, c2, c3, c4, c5, c6, c7, c8, c9, c10, c11, c12, c13, c14, c15, c16, c17, c18, c19, c20, c21, z0, z1, z2, fr1⟩ := PK.out _ HS.out
      go_wp2_with fail
      have PN : Hid (∀ V, Below wd.heap.size wd V → _) := hidA (fun V hV => PK.out V (stepA HS.out hV))
      have BN : Hid (Below w.heap.size w wd) := hidA (B0.out.trans (HS.out.mono B0.out.size))
      have hszN : g < wd.heap.size := by first | assumption | omega
      clear B0 PK HS hsz
      clear c0 c1 c2 c3 c4 c5 c6 c7 c8 c9 c10 c11 c12 c13 c14 c15 c16 c17 c18 c19 c20 c21 z0 z1 z2 fr1
      have PK := PN
      have B0 := BN
      have hsz := hszN
      clear PN BN hszN
      have HS : Hid (Below wd.heap.size wd wd) := hidA (Below.refl _ _)
      generalize wd = w0 at *
      obtain ⟨c0, c1, c2, c3, c4, c5, c6, c7, c8, c9, c10, c11, c12, c13, c14, c15, c16, c17, c18, c19, c20, c21, z0, z1, z2, fr1⟩ := PK.out _ HS.out
      have leW2 := B0.out.size
      try rw [e5, e6]
      clear e1 e2 e3 e4 e5 e6
      go_cut [7] (fun x W => ∃ h : Nat, x = .pointer (some ⟨h, 0, none⟩) ∧ Below w0.heap.size w0 W ∧ W.cell? ⟨h, 0, none⟩ = some (.int .i64 J.lo) ∧ W.cell? ⟨h, 1, none⟩ = some (.int .i64 J.hi) ∧ W.cell? ⟨h, 2, none⟩ = some (.int .i64 J.m) ∧ W.cell? ⟨h, 3, none⟩ = some (.int .i64 J.r) ∧ W.cell? ⟨h, 4, none⟩ = some (.int .i64 0))
      case first =>
        have hsD := HS.out.drew
        have leD : w0.heap.size ≤ w0.heap.size := Nat.le_refl _
        go_region_held3 (fun w' => w'.cell? ⟨w.heap.size, 0, none⟩ = some (.int .i64 a.lo) ∧ w'.cell? ⟨w.heap.size, 1, none⟩ = some (.int .i64 a.hi) ∧ w'.cell? ⟨w.heap.size, 2, none⟩ = some (.int .i64 a.m) ∧ w'.cell? ⟨w.heap.size, 3, none⟩ = some (.int .i64 a.r) ∧ w'.cell? ⟨w.heap.size, 4, none⟩ = some (.int .i64 a.k) ∧ w'.cell? ⟨w.heap.size, 5, none⟩ = some (.int .i64 b.lo) ∧ w'.cell? ⟨w.heap.size, 6, none⟩ = some (.int .i64 b.hi) ∧ w'.cell? ⟨w.heap.size, 7, none⟩ = some (.int .i64 b.m) ∧ w'.cell? ⟨w.heap.size, 8, none⟩ = some (.int .i64 b.r) ∧ w'.cell? ⟨w.heap.size, 9, none⟩ = some (.int .i64 b.k) ∧ w'.cell? ⟨w.heap.size, 10, none⟩ = some (.int .i64 s) ∧ w'.cell? ⟨w.heap.size, 11, none⟩ = some (.int .i64 t) ∧ w'.cell? ⟨g, 0, none⟩ = some (.int .i64 a.lo) ∧ w'.cell? ⟨g, 1, none⟩ = some (.int .i64 a.hi) ∧ w'.cell? ⟨g, 2, none⟩ = some (.int .i64 a.m) ∧ w'.cell? ⟨g, 3, none⟩ = some (.int .i64 a.r) ∧ w'.cell? ⟨g, 4, none⟩ = some (.int .i64 a.k) ∧ Below w0.heap.size w0 w')
          ((refine (fun hB => ⟨(PK.out _ hB).1, (PK.out _ hB).2.1, (PK.out _ hB).2.2.1, (PK.out _ hB).2.2.2.1, (PK.out _ hB).2.2.2.2.1, (PK.out _ hB).2.2.2.2.2.1, (PK.out _ hB).2.2.2.2.2.2.1, (PK.out _ hB).2.2.2.2.2.2.2.1, (PK.out _ hB).2.2.2.2.2.2.2.2.1, (PK.out _ hB).2.2.2.2.2.2.2.2.2.1, (PK.out _ hB).2.2.2.2.2.2.2.2.2.2.1, (PK.out _ hB).2.2.2.2.2.2.2.2.2.2.2.1, (PK.out _ hB).2.2.2.2.2.2.2.2.2.2.2.2.2.2.2.2.2.1, (PK.out _ hB).2.2.2.2.2.2.2.2.2.2.2.2.2.2.2.2.2.2.1, (PK.out _ hB).2.2.2.2.2.2.2.2.2.2.2.2.2.2.2.2.2.2.2.1, (PK.out _ hB).2.2.2.2.2.2.2.2.2.2.2.2.2.2.2.2.2.2.2.2.1, (PK.out _ hB).2.2.2.2.2.2.2.2.2.2.2.2.2.2.2.2.2.2.2.2.2.1, hB⟩) (?_ : Below w0.heap.size w0 _); exact (by repeat (first | with_reducible assumption | with_reducible exact Below.refl _ _ | with_reducible refine Below.setCell ?_ (by first | omega | (dsimp only; omega) | (simp; done) | (simp; omega)) _ | with_reducible refine Below.alloc ?_ (by first | omega | (dsimp only; omega) | (simp; done) | (simp; omega)) _ | with_reducible refine Below.drew ?_))))
          (first
            | ((go_at_call 47; (with_reducible refine (CD.out _ _ (by simp [go_sem]) (by simp [go_sem])).mono ?_); rintro e w1 ⟨rfl, hb1⟩; have hs1 : Below w0.heap.size w0 w1 := stepA (by repeat (first | with_reducible assumption | with_reducible exact Below.refl _ _ | with_reducible refine Below.setCell ?_ (by first | omega | (dsimp only; omega) | (simp; done) | (simp; omega)) _ | with_reducible refine Below.alloc ?_ (by first | omega | (dsimp only; omega) | (simp; done) | (simp; omega)) _ | with_reducible refine Below.drew ?_)) hb1; have le1 : w0.heap.size ≤ w1.heap.size := hs1.size; obtain ⟨hc1, hf1⟩ := bcell hb1; have sz1 := hb1.size; (try simp at sz1); (try have sa10 : w0.heap.size < w1.heap.size := by omega); (try have sb10 : w0.heap.size + 1 < w1.heap.size := by omega); (try have sc10 : w0.heap.size + 1 + 1 < w1.heap.size := by omega); (have sd10 : w0.heap.size < w1.heap.size + 1 := by omega); (have se10 : w0.heap.size < w1.heap.size + 1 + 1 := by omega); (have sf10 : w0.heap.size < w1.heap.size + 1 + 1 + 1 := by omega)))
            | ((go_at_call 41; (with_reducible refine (CI.out _).mono ?_); rintro e w2 ⟨rfl, hb2⟩; have hs2 : Below w0.heap.size w0 w2 := stepA (by repeat (first | with_reducible assumption | with_reducible exact Below.refl _ _ | with_reducible refine Below.setCell ?_ (by first | omega | (dsimp only; omega) | (simp; done) | (simp; omega)) _ | with_reducible refine Below.alloc ?_ (by first | omega | (dsimp only; omega) | (simp; done) | (simp; omega)) _ | with_reducible refine Below.drew ?_)) hb2; have le2 : w0.heap.size ≤ w2.heap.size := hs2.size; obtain ⟨hc2, hf2⟩ := bcell hb2; have sz2 := hb2.size; (try simp at sz2); (try have sa20 : w0.heap.size < w2.heap.size := by omega); (try have sb20 : w0.heap.size + 1 < w2.heap.size := by omega); (try have sc20 : w0.heap.size + 1 + 1 < w2.heap.size := by omega); (have sd20 : w0.heap.size < w2.heap.size + 1 := by omega); (have se20 : w0.heap.size < w2.heap.size + 1 + 1 := by omega); (have sf20 : w0.heap.size < w2.heap.size + 1 + 1 + 1 := by omega); (try have sa21 : w1.heap.size < w2.heap.size := by omega); (try have sb21 : w1.heap.size + 1 < w2.heap.size := by omega); (try have sc21 : w1.heap.size + 1 + 1 < w2.heap.size := by omega); (have sd21 : w1.heap.size < w2.heap.size + 1 := by omega); (have se21 : w1.heap.size < w2.heap.size + 1 + 1 := by omega); (have sf21 : w1.heap.size < w2.heap.size + 1 + 1 + 1 := by omega))))
        all_goals
          go_wp2_with fail
          go_meet
          exact ⟨_, rfl, (by repeat (first | with_reducible assumption | with_reducible exact Below.refl _ _ | with_reducible refine Below.setCell ?_ (by first | omega | (dsimp only; omega) | (simp; done) | (simp; omega)) _ | with_reducible refine Below.alloc ?_ (by first | omega | (dsimp only; omega) | (simp; done) | (simp; omega)) _ | with_reducible refine Below.drew ?_)), (by first | (simp [go_sem, *]; done) | ((try simp [go_sem, *]); exact World.cell?_setCell_same _ _ _ (show _ = some (.int .i64 0) by first | (simp [go_sem, *]; done) | exact (hc2 _ _ (by simp)).trans (by simp [go_sem]) | exact (hc2 _ _ (by simp; omega)).trans ((hc1 _ _ (by simp)).trans (by simp [go_sem]))))), (by first | (simp [go_sem, *]; done) | ((try simp [go_sem, *]); exact World.cell?_setCell_same _ _ _ (show _ = some (.int .i64 0) by first | (simp [go_sem, *]; done) | exact (hc2 _ _ (by simp)).trans (by simp [go_sem]) | exact (hc2 _ _ (by simp; omega)).trans ((hc1 _ _ (by simp)).trans (by simp [go_sem]))))), (by first | (simp [go_sem, *]; done) | ((try simp [go_sem, *]); exact World.cell?_setCell_same _ _ _ (show _ = some (.int .i64 0) by first | (simp [go_sem, *]; done) | exact (hc2 _ _ (by simp)).trans (by simp [go_sem]) | exact (hc2 _ _ (by simp; omega)).trans ((hc1 _ _ (by simp)).trans (by simp [go_sem]))))), (by first | (simp [go_sem, *]; done) | ((try simp [go_sem, *]); exact World.cell?_setCell_same _ _ _ (show _ = some (.int .i64 0) by first | (simp [go_sem, *]; done) | exact (hc2 _ _ (by simp)).trans (by simp [go_sem]) | exact (hc2 _ _ (by simp; omega)).trans ((hc1 _ _ (by simp)).trans (by simp [go_sem]))))), (by first | (simp [go_sem, *]; done) | ((try simp [go_sem, *]); exact World.cell?_setCell_same _ _ _ (show _ = some (.int .i64 0) by first | (simp [go_sem, *]; done) | exact (hc2 _ _ (by simp)).trans (by simp [go_sem]) | exact (hc2 _ _ (by simp; omega)).trans ((hc1 _ _ (by simp)).trans (by simp [go_sem])))))⟩
      case rest =>
        obtain ⟨h, rfl, hs1, x0, x1, x2, x3, x4⟩ := hcut
        clear HS; have HS := hidA hs1; clear hs1 c0 c1 c2 c3 c4 c5 c6 c7 c8 c9 c10 c11 c12 c13 c14 c15 c16 c17 c18 c19 c20 c21 z0 z1 z2 fr1; obtain ⟨c0, c1, c2, c3, c4, c5, c6, c7, c8, c9, c10, c11, c12, c13, c14, c15, c16, c17, c18, c19, c20, c21, z0, z1, z2, fr1⟩ := PK.out _ HS.out
        go_wp2_with fail
        exact bodyPost_ret (v := .agg #[.int .i64 J.lo, .int .i64 J.hi, .int .i64 J.m, .int .i64 J.r, .int .i64 0]) (by simp [results, Try.results83, go_sem, c12, c13, c14, c15, c16, z1]) rfl ⟨by rfl, (by repeat (first | with_reducible exact Below.refl _ _ | with_reducible exact HS.out | with_reducible exact B0.out | with_reducible refine Below.setCell ?_ (by first | omega | (dsimp only; omega) | (simp; done) | (simp; omega)) _ | with_reducible refine Below.alloc ?_ (by first | omega | (dsimp only; omega) | (simp; done) | (simp; omega)) _ | with_reducible refine Below.drew ?_ | with_reducible refine drewnA ?_ _ | with_reducible refine Below.trans ?_ (HS.out.mono (by first | omega | (dsimp only; omega) | (simp; done) | (simp; omega))) | with_reducible refine Below.trans ?_ (B0.out.mono (by first | omega | (dsimp only; omega) | (simp; done) | (simp; omega)))))⟩
theorem rem_4 (a b J : Ab) (s t n : Int) (C1 : Hid (∀ w, Calls Try.prog 77 #[.int .i64 b.lo] w fun e w' => e = .returned (.int .i64 n) ∧ w = w')) (h1 : (t == 0) = true) (h2 : (t != 0) = false) (h3 : (n == 0) = false) (h4 : ¬ 0 ≤ a.lo) (x y u v lo hi d : Int) (e1 : IntKind.i64.wrap (1 - n) = x) (e2 : (if a.lo < x then x else a.lo) = y) (e3 : IntKind.i64.wrap (n - 1) = u) (e4 : (if u < a.hi then u else a.hi) = v) (e5 : (if 0 < y then 0 else y) = lo) (e6 : (if v < 0 then 0 else v) = hi) (CD : Hid (∀ w b, w.cell? ⟨b, 0, none⟩ = some (.int .i64 s) → w.cell? ⟨b, 1, none⟩ = some (.int .i64 n) → Calls Try.prog 47 #[.slice (some ⟨b, 0, none⟩) 2 2] w fun e w' => e = .returned (.int .i64 d) ∧ Below w.heap.size w w')) (CI : Hid (∀ w, Calls Try.prog 41 #[.agg #[.int .i64 a.lo, .int .i64 d], .int .i64 lo, .int .i64 hi] w fun e w' => e = .returned (.tuple #[.agg #[.int .i64 J.lo, .int .i64 J.hi, .int .i64 J.m, .int .i64 J.r, .int .i64 0], .bool true]) ∧ Below w.heap.size w w')) (w : World) :
    Calls Try.prog 83 #[.agg #[.int .i64 a.lo, .int .i64 a.hi, .int .i64 a.m, .int .i64 a.r, .int .i64 a.k, .int .i64 b.lo, .int .i64 b.hi, .int .i64 b.m, .int .i64 b.r, .int .i64 b.k, .int .i64 s, .int .i64 t]] w fun e w' => e = .returned (.agg #[.int .i64 J.lo, .int .i64 J.hi, .int .i64 J.m, .int .i64 J.r, .int .i64 0]) ∧ Below w.heap.size w w' :=
  core_rem_4 a b J s t n C1 h1 h2 h3 x y u v lo hi d e1 e2 e3 e4 e5 e6 CD CI (Or.inl h4) w
set_option maxRecDepth 100000 in
set_option maxHeartbeats 4000000 in
theorem rem_5 (a b J : Ab) (s t n : Int) (C1 : Hid (∀ w, Calls Try.prog 77 #[.int .i64 b.lo] w fun e w' => e = .returned (.int .i64 n) ∧ w = w')) (h1 : (t == 0) = true) (h2 : (t != 0) = false) (h3 : (n == 0) = false) (h4 : 0 ≤ a.lo) (h5 : ¬ a.hi < n) (x y u v lo hi d : Int) (e1 : IntKind.i64.wrap (1 - n) = x) (e2 : (if a.lo < x then x else a.lo) = y) (e3 : IntKind.i64.wrap (n - 1) = u) (e4 : (if u < a.hi then u else a.hi) = v) (e5 : (if 0 < y then 0 else y) = lo) (e6 : (if v < 0 then 0 else v) = hi) (CD : Hid (∀ w b, w.cell? ⟨b, 0, none⟩ = some (.int .i64 s) → w.cell? ⟨b, 1, none⟩ = some (.int .i64 n) → Calls Try.prog 47 #[.slice (some ⟨b, 0, none⟩) 2 2] w fun e w' => e = .returned (.int .i64 d) ∧ Below w.heap.size w w')) (CI : Hid (∀ w, Calls Try.prog 41 #[.agg #[.int .i64 a.lo, .int .i64 d], .int .i64 lo, .int .i64 hi] w fun e w' => e = .returned (.tuple #[.agg #[.int .i64 J.lo, .int .i64 J.hi, .int .i64 J.m, .int .i64 J.r, .int .i64 0], .bool true]) ∧ Below w.heap.size w w')) (w : World) :
    Calls Try.prog 83 #[.agg #[.int .i64 a.lo, .int .i64 a.hi, .int .i64 a.m, .int .i64 a.r, .int .i64 a.k, .int .i64 b.lo, .int .i64 b.hi, .int .i64 b.m, .int .i64 b.r, .int .i64 b.k, .int .i64 s, .int .i64 t]] w fun e w' => e = .returned (.agg #[.int .i64 J.lo, .int .i64 J.hi, .int .i64 J.m, .int .i64 J.r, .int .i64 0]) ∧ Below w.heap.size w w' :=
  core_rem_4 a b J s t n C1 h1 h2 h3 x y u v lo hi d e1 e2 e3 e4 e5 e6 CD CI (Or.inr ⟨h4, h5⟩) w
end Go.Proofs.Ytdopjadlbhacfaa

import Derived.Test.YtdopjadlbhacfaaBn
namespace Go.Proofs.Ytdopjadlbhacfaa
open Go.RowKit Go.Instr Sp
set_option linter.unusedVariables false
set_option linter.unusedSimpArgs false

/-! span's operators: the walk, operator by operator. -/
set_option maxRecDepth 100000 in
set_option maxHeartbeats 4000000 in
theorem opw_C (a b : Ab) (s t n x K : Int) (mk : bits .or .i64 (a.k : Int) (b.k : Int) = K) (C1 : Hid (∀ w, Calls Try.prog 48 #[.agg #[.int .i64 a.lo, .int .i64 a.hi, .int .i64 a.m, .int .i64 a.r, .int .i64 a.k]] w fun e w' => e = .returned (.int .i64 s) ∧ Below w.heap.size w w')) (C2 : Hid (∀ w, Calls Try.prog 48 #[.agg #[.int .i64 b.lo, .int .i64 b.hi, .int .i64 b.m, .int .i64 b.r, .int .i64 b.k]] w fun e w' => e = .returned (.int .i64 t) ∧ Below w.heap.size w w')) (CN : Hid (∀ w, Calls Try.prog 35 #[.int .i64 n, .int .i64 a.lo, .int .i64 b.lo] w fun e w' => e = .returned (.int .i64 x) ∧ Below w.heap.size w w')) (CX : Hid (∀ w, Calls Try.prog 16 #[.agg #[.int .i64 x, .int .i64 0]] w fun e w' => e = .returned (.agg #[.int .i64 x, .int .i64 x, .int .i64 1, .int .i64 0, .int .i64 0]) ∧ Below w.heap.size w w')) (k : Nat) (CO : Hid (∀ w, Calls Try.prog 56 #[.int .i64 n] w fun e w' => e = .returned (.tuple #[.func (.func k) #[] #[], .bool true]) ∧ Below w.heap.size w w')) (CS : Hid (∀ w, Calls Try.prog 57 #[.agg #[.int .i64 a.lo, .int .i64 a.hi, .int .i64 a.m, .int .i64 a.r, .int .i64 a.k, .int .i64 b.lo, .int .i64 b.hi, .int .i64 b.m, .int .i64 b.r, .int .i64 b.k, .int .i64 s, .int .i64 t]] w fun e w' => e = .returned (.bool false) ∧ Below w.heap.size w w')) (J : Ab) (z : Int) (CF : Hid (∀ w, Calls Try.prog k #[.agg #[.int .i64 a.lo, .int .i64 a.hi, .int .i64 a.m, .int .i64 a.r, .int .i64 a.k, .int .i64 b.lo, .int .i64 b.hi, .int .i64 b.m, .int .i64 b.r, .int .i64 b.k, .int .i64 s, .int .i64 t]] w fun e w' => e = .returned (.agg #[.int .i64 J.lo, .int .i64 J.hi, .int .i64 J.m, .int .i64 J.r, .int .i64 z]) ∧ Below w.heap.size w w')) (hk : k = 79 ∨ k = 80 ∨ k = 81 ∨ k = 82 ∨ k = 83 ∨ k = 84 ∨ k = 85) (w : World) :
    Calls Try.prog 30 #[.int .i64 n, .agg #[.int .i64 a.lo, .int .i64 a.hi, .int .i64 a.m, .int .i64 a.r, .int .i64 a.k], .agg #[.int .i64 b.lo, .int .i64 b.hi, .int .i64 b.m, .int .i64 b.r, .int .i64 b.k]] w fun e w' => e = .returned (.agg #[.int .i64 J.lo, .int .i64 J.hi, .int .i64 J.m, .int .i64 J.r, .int .i64 K]) ∧ Below w.heap.size w w' := by
  obtain ⟨w0, hw0⟩ : ∃ w0, (((w.alloc (.cells #[.int .i64 a.lo, .int .i64 a.hi, .int .i64 a.m, .int .i64 a.r, .int .i64 a.k] 27)).alloc (.cells #[.int .i64 b.lo, .int .i64 b.hi, .int .i64 b.m, .int .i64 b.r, .int .i64 b.k] 27)).alloc (.cells #[.int .i64 0, .int .i64 0, .int .i64 0, .int .i64 0, .int .i64 0] 27)) = w0 := ⟨_, rfl⟩
  have B0 : Hid (Below w.heap.size w w0) := hidA (by rw [← hw0]; exact (alA (alA (alA (Below.refl _ _) _) _) _))
  have hsz : w.heap.size + 1 + 1 < w0.heap.size := by rw [← hw0]; simp
  have PK : Hid (∀ W, Below w0.heap.size w0 W → abF W (w.heap.size) a (abF W (w.heap.size + 1) b (W.cell? ⟨w.heap.size + 1 + 1, 0, none⟩ = some (.int .i64 0) ∧ W.cell? ⟨w.heap.size + 1 + 1, 1, none⟩ = some (.int .i64 0) ∧ W.cell? ⟨w.heap.size + 1 + 1, 2, none⟩ = some (.int .i64 0) ∧ W.cell? ⟨w.heap.size + 1 + 1, 3, none⟩ = some (.int .i64 0) ∧ W.cell? ⟨w.heap.size + 1 + 1, 4, none⟩ = some (.int .i64 0) ∧ w.heap.size < W.heap.size ∧ w.heap.size + 1 < W.heap.size ∧ w.heap.size + 1 + 1 < W.heap.size ∧ (∀ i, W.frozen? ⟨w.heap.size + 1 + 1, i, none⟩ = false)))) := hidA (fun W hW => by and_intros <;> first | exact cellA hW (by rw [← hw0]; simp [go_sem]) | exact (by have h0 := hW.size; have h1 := hsz; omega) | exact (fun i => (hW.frozen (p := ⟨w.heap.size + 1 + 1, i, none⟩) (show w.heap.size + 1 + 1 < w0.heap.size by have h1 := hsz; omega)).trans (by rw [← hw0]; simp [go_sem])))
  have Hw := hidA hw0; clear hw0
  go_enter Try.func30, Try.ntmps30
  go_wp2_with fail
  rw [Hw.out]
  clear Hw
  have HS : Hid (Below w0.heap.size w0 w0) := hidA (Below.refl _ _)
  obtain ⟨c0, c1, c2, c3, c4, c5, c6, c7, c8, c9, c10, c11, c12, c13, c14, z0, z1, z2, fr2⟩ := PK.out _ HS.out
  go_cut [7] (fun v W => ∃ g : Nat, v = .pointer (some ⟨g, 0, none⟩) ∧ Below w0.heap.size w0 W ∧ w0.heap.size ≤ g ∧ W.cell? ⟨g, 0, none⟩ = some (.int .i64 a.lo) ∧ W.cell? ⟨g, 1, none⟩ = some (.int .i64 a.hi) ∧ W.cell? ⟨g, 2, none⟩ = some (.int .i64 a.m) ∧ W.cell? ⟨g, 3, none⟩ = some (.int .i64 a.r) ∧ W.cell? ⟨g, 4, none⟩ = some (.int .i64 a.k) ∧ W.cell? ⟨g, 5, none⟩ = some (.int .i64 b.lo) ∧ W.cell? ⟨g, 6, none⟩ = some (.int .i64 b.hi) ∧ W.cell? ⟨g, 7, none⟩ = some (.int .i64 b.m) ∧ W.cell? ⟨g, 8, none⟩ = some (.int .i64 b.r) ∧ W.cell? ⟨g, 9, none⟩ = some (.int .i64 b.k) ∧ W.cell? ⟨g, 10, none⟩ = some (.int .i64 s) ∧ W.cell? ⟨g, 11, none⟩ = some (.int .i64 t))
  case first =>
    have hsD := HS.out.drew
    have leD : w0.heap.size ≤ w0.heap.size := Nat.le_refl _
    go_region_held3 (fun w' => w'.cell? ⟨w.heap.size, 0, none⟩ = some (.int .i64 a.lo) ∧ w'.cell? ⟨w.heap.size, 1, none⟩ = some (.int .i64 a.hi) ∧ w'.cell? ⟨w.heap.size, 2, none⟩ = some (.int .i64 a.m) ∧ w'.cell? ⟨w.heap.size, 3, none⟩ = some (.int .i64 a.r) ∧ w'.cell? ⟨w.heap.size, 4, none⟩ = some (.int .i64 a.k) ∧ w'.cell? ⟨w.heap.size + 1, 0, none⟩ = some (.int .i64 b.lo) ∧ w'.cell? ⟨w.heap.size + 1, 1, none⟩ = some (.int .i64 b.hi) ∧ w'.cell? ⟨w.heap.size + 1, 2, none⟩ = some (.int .i64 b.m) ∧ w'.cell? ⟨w.heap.size + 1, 3, none⟩ = some (.int .i64 b.r) ∧ w'.cell? ⟨w.heap.size + 1, 4, none⟩ = some (.int .i64 b.k) ∧ Below w0.heap.size w0 w')
      ((refine (fun hB => ⟨(PK.out _ hB).1, (PK.out _ hB).2.1, (PK.out _ hB).2.2.1, (PK.out _ hB).2.2.2.1, (PK.out _ hB).2.2.2.2.1, (PK.out _ hB).2.2.2.2.2.1, (PK.out _ hB).2.2.2.2.2.2.1, (PK.out _ hB).2.2.2.2.2.2.2.1, (PK.out _ hB).2.2.2.2.2.2.2.2.1, (PK.out _ hB).2.2.2.2.2.2.2.2.2.1, hB⟩) (?_ : Below w0.heap.size w0 _); exact (by repeat (first | with_reducible assumption | with_reducible exact Below.refl _ _ | with_reducible refine Below.setCell ?_ (by first | omega | (dsimp only; omega) | (simp; done) | (simp; omega)) _ | with_reducible refine Below.alloc ?_ (by first | omega | (dsimp only; omega) | (simp; done) | (simp; omega)) _ | with_reducible refine Below.drew ?_))))
      (first
        | ((go_at_call 48; (with_reducible refine (C1.out _).mono ?_); rintro e w1 ⟨rfl, hb1⟩; have hs1 : Below w0.heap.size w0 w1 := stepA (by repeat (first | with_reducible assumption | with_reducible exact Below.refl _ _ | with_reducible refine Below.setCell ?_ (by first | omega | (dsimp only; omega) | (simp; done) | (simp; omega)) _ | with_reducible refine Below.alloc ?_ (by first | omega | (dsimp only; omega) | (simp; done) | (simp; omega)) _ | with_reducible refine Below.drew ?_)) hb1; have le1 : w0.heap.size ≤ w1.heap.size := hs1.size; obtain ⟨hc1, hf1⟩ := bcell hb1; have sz1 := hb1.size; (try simp at sz1); (try have sa10 : w0.heap.size < w1.heap.size := by omega); (try have sb10 : w0.heap.size + 1 < w1.heap.size := by omega); (try have sc10 : w0.heap.size + 1 + 1 < w1.heap.size := by omega); (have sd10 : w0.heap.size < w1.heap.size + 1 := by omega); (have se10 : w0.heap.size < w1.heap.size + 1 + 1 := by omega); (have sf10 : w0.heap.size < w1.heap.size + 1 + 1 + 1 := by omega)))
        | ((go_at_call 48; (with_reducible refine (C2.out _).mono ?_); rintro e w2 ⟨rfl, hb2⟩; have hs2 : Below w0.heap.size w0 w2 := stepA (by repeat (first | with_reducible assumption | with_reducible exact Below.refl _ _ | with_reducible refine Below.setCell ?_ (by first | omega | (dsimp only; omega) | (simp; done) | (simp; omega)) _ | with_reducible refine Below.alloc ?_ (by first | omega | (dsimp only; omega) | (simp; done) | (simp; omega)) _ | with_reducible refine Below.drew ?_)) hb2; have le2 : w0.heap.size ≤ w2.heap.size := hs2.size; obtain ⟨hc2, hf2⟩ := bcell hb2; have sz2 := hb2.size; (try simp at sz2); (try have sa20 : w0.heap.size < w2.heap.size := by omega); (try have sb20 : w0.heap.size + 1 < w2.heap.size := by omega); (try have sc20 : w0.heap.size + 1 + 1 < w2.heap.size := by omega); (have sd20 : w0.heap.size < w2.heap.size + 1 := by omega); (have se20 : w0.heap.size < w2.heap.size + 1 + 1 := by omega); (have sf20 : w0.heap.size < w2.heap.size + 1 + 1 + 1 := by omega); (try have sa21 : w1.heap.size < w2.heap.size := by omega); (try have sb21 : w1.heap.size + 1 < w2.heap.size := by omega); (try have sc21 : w1.heap.size + 1 + 1 < w2.heap.size := by omega); (have sd21 : w1.heap.size < w2.heap.size + 1 := by omega); (have se21 : w1.heap.size < w2.heap.size + 1 + 1 := by omega); (have sf21 : w1.heap.size < w2.heap.size + 1 + 1 + 1 := by omega))))
    all_goals
      go_wp2_with fail
      go_meet
      exact ⟨_, rfl, (by repeat (first | with_reducible assumption | with_reducible exact Below.refl _ _ | with_reducible refine Below.setCell ?_ (by first | omega | (dsimp only; omega) | (simp; done) | (simp; omega)) _ | with_reducible refine Below.alloc ?_ (by first | omega | (dsimp only; omega) | (simp; done) | (simp; omega)) _ | with_reducible refine Below.drew ?_)), (by first | omega | (dsimp only; omega) | (simp; done) | (simp; omega)), (by first | (simp [go_sem, *]; done) | ((try simp [go_sem, *]); exact World.cell?_setCell_same _ _ _ (show _ = some (.int .i64 0) by first | (simp [go_sem, *]; done) | exact (hc2 _ _ (by simp)).trans (by simp [go_sem]) | exact (hc2 _ _ (by simp; omega)).trans ((hc1 _ _ (by simp)).trans (by simp [go_sem]))))), (by first | (simp [go_sem, *]; done) | ((try simp [go_sem, *]); exact World.cell?_setCell_same _ _ _ (show _ = some (.int .i64 0) by first | (simp [go_sem, *]; done) | exact (hc2 _ _ (by simp)).trans (by simp [go_sem]) | exact (hc2 _ _ (by simp; omega)).trans ((hc1 _ _ (by simp)).trans (by simp [go_sem]))))), (by first | (simp [go_sem, *]; done) | ((try simp [go_sem, *]); exact World.cell?_setCell_same _ _ _ (show _ = some (.int .i64 0) by first | (simp [go_sem, *]; done) | exact (hc2 _ _ (by simp)).trans (by simp [go_sem]) | exact (hc2 _ _ (by simp; omega)).trans ((hc1 _ _ (by simp)).trans (by simp [go_sem]))))), (by first | (simp [go_sem, *]; done) | ((try simp [go_sem, *]); exact World.cell?_setCell_same _ _ _ (show _ = some (.int .i64 0) by first | (simp [go_sem, *]; done) | exact (hc2 _ _ (by simp)).trans (by simp [go_sem]) | exact (hc2 _ _ (by simp; omega)).trans ((hc1 _ _ (by simp)).trans (by simp [go_sem]))))), (by first | (simp [go_sem, *]; done) | ((try simp [go_sem, *]); exact World.cell?_setCell_same _ _ _ (show _ = some (.int .i64 0) by first | (simp [go_sem, *]; done) | exact (hc2 _ _ (by simp)).trans (by simp [go_sem]) | exact (hc2 _ _ (by simp; omega)).trans ((hc1 _ _ (by simp)).trans (by simp [go_sem]))))), (by first | (simp [go_sem, *]; done) | ((try simp [go_sem, *]); exact World.cell?_setCell_same _ _ _ (show _ = some (.int .i64 0) by first | (simp [go_sem, *]; done) | exact (hc2 _ _ (by simp)).trans (by simp [go_sem]) | exact (hc2 _ _ (by simp; omega)).trans ((hc1 _ _ (by simp)).trans (by simp [go_sem]))))), (by first | (simp [go_sem, *]; done) | ((try simp [go_sem, *]); exact World.cell?_setCell_same _ _ _ (show _ = some (.int .i64 0) by first | (simp [go_sem, *]; done) | exact (hc2 _ _ (by simp)).trans (by simp [go_sem]) | exact (hc2 _ _ (by simp; omega)).trans ((hc1 _ _ (by simp)).trans (by simp [go_sem]))))), (by first | (simp [go_sem, *]; done) | ((try simp [go_sem, *]); exact World.cell?_setCell_same _ _ _ (show _ = some (.int .i64 0) by first | (simp [go_sem, *]; done) | exact (hc2 _ _ (by simp)).trans (by simp [go_sem]) | exact (hc2 _ _ (by simp; omega)).trans ((hc1 _ _ (by simp)).trans (by simp [go_sem]))))), (by first | (simp [go_sem, *]; done) | ((try simp [go_sem, *]); exact World.cell?_setCell_same _ _ _ (show _ = some (.int .i64 0) by first | (simp [go_sem, *]; done) | exact (hc2 _ _ (by simp)).trans (by simp [go_sem]) | exact (hc2 _ _ (by simp; omega)).trans ((hc1 _ _ (by simp)).trans (by simp [go_sem]))))), (by first | (simp [go_sem, *]; done) | ((try simp [go_sem, *]); exact World.cell?_setCell_same _ _ _ (show _ = some (.int .i64 0) by first | (simp [go_sem, *]; done) | exact (hc2 _ _ (by simp)).trans (by simp [go_sem]) | exact (hc2 _ _ (by simp; omega)).trans ((hc1 _ _ (by simp)).trans (by simp [go_sem]))))), (by first | (simp [go_sem, *]; done) | ((try simp [go_sem, *]); exact World.cell?_setCell_same _ _ _ (show _ = some (.int .i64 0) by first | (simp [go_sem, *]; done) | exact (hc2 _ _ (by simp)).trans (by simp [go_sem]) | exact (hc2 _ _ (by simp; omega)).trans ((hc1 _ _ (by simp)).trans (by simp [go_sem]))))), (by first | (simp [go_sem, *]; done) | ((try simp [go_sem, *]); exact World.cell?_setCell_same _ _ _ (show _ = some (.int .i64 0) by first | (simp [go_sem, *]; done) | exact (hc2 _ _ (by simp)).trans (by simp [go_sem]) | exact (hc2 _ _ (by simp; omega)).trans ((hc1 _ _ (by simp)).trans (by simp [go_sem])))))⟩
  case rest =>
    obtain ⟨g, rfl, hs1, lg, y0, y1, y2, y3, y4, y5, y6, y7, y8, y9, y10, y11⟩ := hcut
    have ng : ¬ w.heap.size + 1 + 1 = g := by omega
    clear lg
    have Y0 := hidA y0
    have Y1 := hidA y1
    have Y2 := hidA y2
    have Y3 := hidA y3
    have Y4 := hidA y4
    have Y5 := hidA y5
    have Y6 := hidA y6
    have Y7 := hidA y7
    have Y8 := hidA y8
    have Y9 := hidA y9
    have Y10 := hidA y10
    have Y11 := hidA y11
    clear y0 y1 y2 y3 y4 y5 y6 y7 y8 y9 y10 y11
    clear HS; have HS := hidA hs1; clear hs1 c0 c1 c2 c3 c4 c5 c6 c7 c8 c9 c10 c11 c12 c13 c14 z0 z1 z2 fr2; obtain ⟨c0, c1, c2, c3, c4, c5, c6, c7, c8, c9, c10, c11, c12, c13, c14, z0, z1, z2, fr2⟩ := PK.out _ HS.out
    have N0 := hidA c0
    have N1 := hidA c1
    have N2 := hidA c2
    have N3 := hidA c3
    have N4 := hidA c4
    have M0 := hidA c5
    have M1 := hidA c6
    have M2 := hidA c7
    have M3 := hidA c8
    have M4 := hidA c9
    have Z0 := hidA c10
    have Z1 := hidA c11
    have Z2 := hidA c12
    have Z3 := hidA c13
    have Z4 := hidA c14
    have FZ := hidA fr2
    clear c0 c1 c2 c3 c4 c5 c6 c7 c8 c9 c10 c11 c12 c13 c14 z0 z1 z2 fr2
    have BW := hidA (B0.out.trans (HS.out.mono B0.out.size))
    have BN : Hid (Below w.heap.size w wc) := hidA BW.out
    have leW : w.heap.size ≤ wc.heap.size := BN.out.size
    have hszb2 : w.heap.size + 1 + 1 < wc.heap.size := World.block_lt_of_cell? _ _ Z0.out
    clear B0 PK HS
    have PK : Hid (∀ V, Below wc.heap.size wc V → abF V (w.heap.size) a (abF V (w.heap.size + 1) b (V.cell? ⟨w.heap.size + 1 + 1, 0, none⟩ = some (.int .i64 0) ∧ V.cell? ⟨w.heap.size + 1 + 1, 1, none⟩ = some (.int .i64 0) ∧ V.cell? ⟨w.heap.size + 1 + 1, 2, none⟩ = some (.int .i64 0) ∧ V.cell? ⟨w.heap.size + 1 + 1, 3, none⟩ = some (.int .i64 0) ∧ V.cell? ⟨w.heap.size + 1 + 1, 4, none⟩ = some (.int .i64 0) ∧ abF V g a (V.cell? ⟨g, 5, none⟩ = some (.int .i64 b.lo) ∧ V.cell? ⟨g, 6, none⟩ = some (.int .i64 b.hi) ∧ V.cell? ⟨g, 7, none⟩ = some (.int .i64 b.m) ∧ V.cell? ⟨g, 8, none⟩ = some (.int .i64 b.r) ∧ V.cell? ⟨g, 9, none⟩ = some (.int .i64 b.k) ∧ V.cell? ⟨g, 10, none⟩ = some (.int .i64 s) ∧ V.cell? ⟨g, 11, none⟩ = some (.int .i64 t) ∧ w.heap.size < V.heap.size ∧ w.heap.size + 1 < V.heap.size ∧ w.heap.size + 1 + 1 < V.heap.size ∧ g < V.heap.size ∧ (∀ i, V.frozen? ⟨w.heap.size + 1 + 1, i, none⟩ = false))))) := hidA (fun V hW => ⟨cellA hW N0.out, cellA hW N1.out, cellA hW N2.out, cellA hW N3.out, cellA hW N4.out, cellA hW M0.out, cellA hW M1.out, cellA hW M2.out, cellA hW M3.out, cellA hW M4.out, cellA hW Z0.out, cellA hW Z1.out, cellA hW Z2.out, cellA hW Z3.out, cellA hW Z4.out, cellA hW Y0.out, cellA hW Y1.out, cellA hW Y2.out, cellA hW Y3.out, cellA hW Y4.out, cellA hW Y5.out, cellA hW Y6.out, cellA hW Y7.out, cellA hW Y8.out, cellA hW Y9.out, cellA hW Y10.out, cellA hW Y11.out, Nat.lt_of_lt_of_le (World.block_lt_of_cell? _ _ N0.out) hW.size, Nat.lt_of_lt_of_le (World.block_lt_of_cell? _ _ M0.out) hW.size, Nat.lt_of_lt_of_le (World.block_lt_of_cell? _ _ Z0.out) hW.size, Nat.lt_of_lt_of_le (World.block_lt_of_cell? _ _ Y0.out) hW.size, (fun i => (hW.frozen (p := ⟨w.heap.size + 1 + 1, i, none⟩) (show w.heap.size + 1 + 1 < wc.heap.size from World.block_lt_of_cell? _ _ Z0.out)).trans (FZ.out i))⟩)
    clear N0 N1 N2 N3 N4 M0 M1 M2 M3 M4 Z0 Z1 Z2 Z3 Z4 Y0 Y1 Y2 Y3 Y4 Y5 Y6 Y7 Y8 Y9 Y10 Y11 FZ
    have B0 := BN
    clear BN
    have HS : Hid (Below wc.heap.size wc wc) := hidA (Below.refl _ _)
    generalize wc = w0 at *
    obtain ⟨c0, c1, c2, c3, c4, c5, c6, c7, c8, c9, c10, c11, c12, c13, c14, c15, c16, c17, c18, c19, c20, c21, c22, c23, c24, c25, c26, z0, z1, z2, z3, fr2⟩ := PK.out _ HS.out
    clear BW
    go_upto_region 4 with (first | (go_at_call 56; (with_reducible refine (CO.out _).mono ?_); rintro e w1 ⟨rfl, hb⟩; have hs1 := stepA HS.out hb; clear hb; clear HS; have HS := hidA hs1; clear hs1 c0 c1 c2 c3 c4 c5 c6 c7 c8 c9 c10 c11 c12 c13 c14 c15 c16 c17 c18 c19 c20 c21 c22 c23 c24 c25 c26 z0 z1 z2 z3 fr2; obtain ⟨c0, c1, c2, c3, c4, c5, c6, c7, c8, c9, c10, c11, c12, c13, c14, c15, c16, c17, c18, c19, c20, c21, c22, c23, c24, c25, c26, z0, z1, z2, z3, fr2⟩ := PK.out _ HS.out) | (go_at_call 35; (with_reducible refine (CN.out _).mono ?_); rintro e w1 ⟨rfl, hb⟩; have hs1 := stepA HS.out hb; clear hb; clear HS; have HS := hidA hs1; clear hs1 c0 c1 c2 c3 c4 c5 c6 c7 c8 c9 c10 c11 c12 c13 c14 c15 c16 c17 c18 c19 c20 c21 c22 c23 c24 c25 c26 z0 z1 z2 z3 fr2; obtain ⟨c0, c1, c2, c3, c4, c5, c6, c7, c8, c9, c10, c11, c12, c13, c14, c15, c16, c17, c18, c19, c20, c21, c22, c23, c24, c25, c26, z0, z1, z2, z3, fr2⟩ := PK.out _ HS.out) | (go_at_call 16; (with_reducible refine (CX.out _).mono ?_); rintro e w1 ⟨rfl, hb⟩; have hs1 := stepA HS.out hb; clear hb; clear HS; have HS := hidA hs1; clear hs1 c0 c1 c2 c3 c4 c5 c6 c7 c8 c9 c10 c11 c12 c13 c14 c15 c16 c17 c18 c19 c20 c21 c22 c23 c24 c25 c26 z0 z1 z2 z3 fr2; obtain ⟨c0, c1, c2, c3, c4, c5, c6, c7, c8, c9, c10, c11, c12, c13, c14, c15, c16, c17, c18, c19, c20, c21, c22, c23, c24, c25, c26, z0, z1, z2, z3, fr2⟩ := PK.out _ HS.out))
    obtain ⟨h, hd⟩ : ∃ d, w1.heap.size = d := ⟨_, rfl⟩
    obtain ⟨w2, hw2⟩ : ∃ w2, w1.alloc (.cells #[.int .i64 x, .int .i64 x, .int .i64 1, .int .i64 0, .int .i64 0] 27) = w2 := ⟨_, rfl⟩
    have U : Hid (Below w1.heap.size w1 w2) := hidA (alloc_is2 hw2)
    have D := row_is2 hw2
    have lh : w.heap.size + 1 + 1 < h := by rw [← hd]; assumption
    have FH : Hid (∀ i, w2.frozen? ⟨h, i, none⟩ = false) := hidA (by intro i; rw [← hw2, ← hd]; simp [go_sem])
    rw [hw2]
    try rw [hd]
    rw [hd] at D
    clear hw2 hd
    have hs1 := stepA HS.out U.out
    clear U
    clear HS; have HS := hidA hs1; clear hs1 c0 c1 c2 c3 c4 c5 c6 c7 c8 c9 c10 c11 c12 c13 c14 c15 c16 c17 c18 c19 c20 c21 c22 c23 c24 c25 c26 z0 z1 z2 z3 fr2; obtain ⟨c0, c1, c2, c3, c4, c5, c6, c7, c8, c9, c10, c11, c12, c13, c14, c15, c16, c17, c18, c19, c20, c21, c22, c23, c24, c25, c26, z0, z1, z2, z3, fr2⟩ := PK.out _ HS.out
    have D0 := hidA (D 0 _ rfl)
    have D1 := hidA (D 1 _ rfl)
    have D2 := hidA (D 2 _ rfl)
    have D3 := hidA (D 3 _ rfl)
    have D4 := hidA (D 4 _ rfl)
    clear D
    have N0 := hidA c0
    have N1 := hidA c1
    have N2 := hidA c2
    have N3 := hidA c3
    have N4 := hidA c4
    have M0 := hidA c5
    have M1 := hidA c6
    have M2 := hidA c7
    have M3 := hidA c8
    have M4 := hidA c9
    have Z0 := hidA c10
    have Z1 := hidA c11
    have Z2 := hidA c12
    have Z3 := hidA c13
    have Z4 := hidA c14
    have Y0 := hidA c15
    have Y1 := hidA c16
    have Y2 := hidA c17
    have Y3 := hidA c18
    have Y4 := hidA c19
    have Y5 := hidA c20
    have Y6 := hidA c21
    have Y7 := hidA c22
    have Y8 := hidA c23
    have Y9 := hidA c24
    have Y10 := hidA c25
    have Y11 := hidA c26
    have FZ := hidA fr2
    clear c0 c1 c2 c3 c4 c5 c6 c7 c8 c9 c10 c11 c12 c13 c14 c15 c16 c17 c18 c19 c20 c21 c22 c23 c24 c25 c26 z0 z1 z2 z3 fr2
    have BW := hidA (B0.out.trans (HS.out.mono B0.out.size))
    have BN : Hid (Below w.heap.size w w2) := hidA BW.out
    have leW : w.heap.size ≤ w2.heap.size := BN.out.size
    have hszb2 : w.heap.size + 1 + 1 < w2.heap.size := World.block_lt_of_cell? _ _ Z0.out
    have hszb4 : h < w2.heap.size := World.block_lt_of_cell? _ _ D0.out
    clear B0 PK HS
    have PK : Hid (∀ V, Below w2.heap.size w2 V → abF V (w.heap.size) a (abF V (w.heap.size + 1) b (V.cell? ⟨w.heap.size + 1 + 1, 0, none⟩ = some (.int .i64 0) ∧ V.cell? ⟨w.heap.size + 1 + 1, 1, none⟩ = some (.int .i64 0) ∧ V.cell? ⟨w.heap.size + 1 + 1, 2, none⟩ = some (.int .i64 0) ∧ V.cell? ⟨w.heap.size + 1 + 1, 3, none⟩ = some (.int .i64 0) ∧ V.cell? ⟨w.heap.size + 1 + 1, 4, none⟩ = some (.int .i64 0) ∧ abF V g a (V.cell? ⟨g, 5, none⟩ = some (.int .i64 b.lo) ∧ V.cell? ⟨g, 6, none⟩ = some (.int .i64 b.hi) ∧ V.cell? ⟨g, 7, none⟩ = some (.int .i64 b.m) ∧ V.cell? ⟨g, 8, none⟩ = some (.int .i64 b.r) ∧ V.cell? ⟨g, 9, none⟩ = some (.int .i64 b.k) ∧ V.cell? ⟨g, 10, none⟩ = some (.int .i64 s) ∧ V.cell? ⟨g, 11, none⟩ = some (.int .i64 t) ∧ V.cell? ⟨h, 0, none⟩ = some (.int .i64 x) ∧ V.cell? ⟨h, 1, none⟩ = some (.int .i64 x) ∧ V.cell? ⟨h, 2, none⟩ = some (.int .i64 1) ∧ V.cell? ⟨h, 3, none⟩ = some (.int .i64 0) ∧ V.cell? ⟨h, 4, none⟩ = some (.int .i64 0) ∧ w.heap.size < V.heap.size ∧ w.heap.size + 1 < V.heap.size ∧ w.heap.size + 1 + 1 < V.heap.size ∧ g < V.heap.size ∧ h < V.heap.size ∧ (∀ i, V.frozen? ⟨w.heap.size + 1 + 1, i, none⟩ = false) ∧ (∀ i, V.frozen? ⟨h, i, none⟩ = false))))) := hidA (fun V hW => ⟨cellA hW N0.out, cellA hW N1.out, cellA hW N2.out, cellA hW N3.out, cellA hW N4.out, cellA hW M0.out, cellA hW M1.out, cellA hW M2.out, cellA hW M3.out, cellA hW M4.out, cellA hW Z0.out, cellA hW Z1.out, cellA hW Z2.out, cellA hW Z3.out, cellA hW Z4.out, cellA hW Y0.out, cellA hW Y1.out, cellA hW Y2.out, cellA hW Y3.out, cellA hW Y4.out, cellA hW Y5.out, cellA hW Y6.out, cellA hW Y7.out, cellA hW Y8.out, cellA hW Y9.out, cellA hW Y10.out, cellA hW Y11.out, cellA hW D0.out, cellA hW D1.out, cellA hW D2.out, cellA hW D3.out, cellA hW D4.out, Nat.lt_of_lt_of_le (World.block_lt_of_cell? _ _ N0.out) hW.size, Nat.lt_of_lt_of_le (World.block_lt_of_cell? _ _ M0.out) hW.size, Nat.lt_of_lt_of_le (World.block_lt_of_cell? _ _ Z0.out) hW.size, Nat.lt_of_lt_of_le (World.block_lt_of_cell? _ _ Y0.out) hW.size, Nat.lt_of_lt_of_le (World.block_lt_of_cell? _ _ D0.out) hW.size, (fun i => (hW.frozen (p := ⟨w.heap.size + 1 + 1, i, none⟩) (show w.heap.size + 1 + 1 < w2.heap.size from World.block_lt_of_cell? _ _ Z0.out)).trans (FZ.out i)), (fun i => (hW.frozen (p := ⟨h, i, none⟩) (show h < w2.heap.size from World.block_lt_of_cell? _ _ D0.out)).trans (FH.out i))⟩)
    clear N0 N1 N2 N3 N4 M0 M1 M2 M3 M4 Z0 Z1 Z2 Z3 Z4 Y0 Y1 Y2 Y3 Y4 Y5 Y6 Y7 Y8 Y9 Y10 Y11 D0 D1 D2 D3 D4 FZ FH
    have B0 := BN
    clear BN
    have HS : Hid (Below w2.heap.size w2 w2) := hidA (Below.refl _ _)
    generalize w2 = w0 at *
    obtain ⟨c0, c1, c2, c3, c4, c5, c6, c7, c8, c9, c10, c11, c12, c13, c14, c15, c16, c17, c18, c19, c20, c21, c22, c23, c24, c25, c26, c27, c28, c29, c30, c31, z0, z1, z2, z3, z4, fr2, fr4⟩ := PK.out _ HS.out
    clear BW
    have nh1 : ¬ w.heap.size + 1 + 1 = h := by omega
    have nh2 : ¬ h = w.heap.size + 1 + 1 := by omega
    have nh3 : ¬ w.heap.size = h := by omega
    have nh4 : ¬ h = w.heap.size := by omega
    have nh5 : ¬ w.heap.size + 1 = h := by omega
    have nh6 : ¬ h = w.heap.size + 1 := by omega
    have hz0 : w.heap.size ≤ h := by omega
    have hB := B0.out.size
    go_upto_if 36 with ((go_at_call 57; (with_reducible refine (CS.out _).mono ?_); rintro e w1 ⟨rfl, hb⟩; have hs1 := stepA HS.out hb; clear hb; clear HS; have HS := hidA hs1; clear hs1 c0 c1 c2 c3 c4 c5 c6 c7 c8 c9 c10 c11 c12 c13 c14 c15 c16 c17 c18 c19 c20 c21 c22 c23 c24 c25 c26 c27 c28 c29 c30 c31 z0 z1 z2 z3 z4 fr2 fr4; obtain ⟨c0, c1, c2, c3, c4, c5, c6, c7, c8, c9, c10, c11, c12, c13, c14, c15, c16, c17, c18, c19, c20, c21, c22, c23, c24, c25, c26, c27, c28, c29, c30, c31, z0, z1, z2, z3, z4, fr2, fr4⟩ := PK.out _ HS.out))
    go_cut [4, 5, 6, 10] (fun p q u v W => p = .pointer (some ⟨w.heap.size, 0, none⟩) ∧ q = .pointer (some ⟨w.heap.size + 1, 0, none⟩) ∧ u = .pointer (some ⟨w.heap.size + 1 + 1, 0, none⟩) ∧ v = .pointer (some ⟨h, 0, none⟩) ∧ Below w.heap.size w W ∧ W.cell? ⟨w.heap.size + 1 + 1, 0, none⟩ = some (.int .i64 0) ∧ W.cell? ⟨w.heap.size + 1 + 1, 1, none⟩ = some (.int .i64 0) ∧ W.cell? ⟨w.heap.size + 1 + 1, 2, none⟩ = some (.int .i64 0) ∧ W.cell? ⟨w.heap.size + 1 + 1, 3, none⟩ = some (.int .i64 0) ∧ W.cell? ⟨w.heap.size + 1 + 1, 4, none⟩ = some (.int .i64 0) ∧ W.cell? ⟨h, 0, none⟩ = some (.int .i64 J.lo) ∧ W.cell? ⟨h, 1, none⟩ = some (.int .i64 J.hi) ∧ W.cell? ⟨h, 2, none⟩ = some (.int .i64 J.m) ∧ W.cell? ⟨h, 3, none⟩ = some (.int .i64 J.r) ∧ W.cell? ⟨h, 4, none⟩ = some (.int .i64 z) ∧ W.cell? ⟨w.heap.size, 0, none⟩ = some (.int .i64 a.lo) ∧ W.cell? ⟨w.heap.size, 1, none⟩ = some (.int .i64 a.hi) ∧ W.cell? ⟨w.heap.size, 2, none⟩ = some (.int .i64 a.m) ∧ W.cell? ⟨w.heap.size, 3, none⟩ = some (.int .i64 a.r) ∧ W.cell? ⟨w.heap.size, 4, none⟩ = some (.int .i64 a.k) ∧ W.cell? ⟨w.heap.size + 1, 0, none⟩ = some (.int .i64 b.lo) ∧ W.cell? ⟨w.heap.size + 1, 1, none⟩ = some (.int .i64 b.hi) ∧ W.cell? ⟨w.heap.size + 1, 2, none⟩ = some (.int .i64 b.m) ∧ W.cell? ⟨w.heap.size + 1, 3, none⟩ = some (.int .i64 b.r) ∧ W.cell? ⟨w.heap.size + 1, 4, none⟩ = some (.int .i64 b.k) ∧ (∀ i, W.frozen? ⟨w.heap.size + 1 + 1, i, none⟩ = false) ∧ (∀ i, W.frozen? ⟨h, i, none⟩ = false) ∧ w.heap.size + 1 + 1 < W.heap.size)
    case first =>
      rcases hk with rfl | rfl | rfl | rfl | rfl | rfl | rfl
      all_goals
        go_wp2_with ((first | go_at_call 79 | go_at_call 80 | go_at_call 81 | go_at_call 82 | go_at_call 83 | go_at_call 84 | go_at_call 85); (with_reducible refine (CF.out _).mono ?_); rintro e w1 ⟨rfl, hb⟩; have hs1 := stepA HS.out hb; clear hb; clear HS; have HS := hidA hs1; clear hs1 c0 c1 c2 c3 c4 c5 c6 c7 c8 c9 c10 c11 c12 c13 c14 c15 c16 c17 c18 c19 c20 c21 c22 c23 c24 c25 c26 c27 c28 c29 c30 c31 z0 z1 z2 z3 z4 fr2 fr4; obtain ⟨c0, c1, c2, c3, c4, c5, c6, c7, c8, c9, c10, c11, c12, c13, c14, c15, c16, c17, c18, c19, c20, c21, c22, c23, c24, c25, c26, c27, c28, c29, c30, c31, z0, z1, z2, z3, z4, fr2, fr4⟩ := PK.out _ HS.out)
        go_meet
        refine ⟨rfl, rfl, rfl, rfl, (by repeat (first | with_reducible exact Below.refl _ _ | with_reducible exact HS.out | with_reducible exact B0.out | with_reducible refine Below.setCell ?_ (by first | omega | (dsimp only; omega) | (simp; done) | (simp; omega)) _ | with_reducible refine Below.alloc ?_ (by first | omega | (dsimp only; omega) | (simp; done) | (simp; omega)) _ | with_reducible refine Below.drew ?_ | with_reducible refine drewnA ?_ _ | with_reducible refine Below.trans ?_ (HS.out.mono (by first | omega | (dsimp only; omega) | (simp; done) | (simp; omega))) | with_reducible refine Below.trans ?_ (B0.out.mono (by first | omega | (dsimp only; omega) | (simp; done) | (simp; omega))))), (by first | with_reducible assumption | (simp [go_sem, nh1, nh2, nh3, nh4, nh5, nh6, c10, c11, c12, c13, c14, z2]; done)), (by first | with_reducible assumption | (simp [go_sem, nh1, nh2, nh3, nh4, nh5, nh6, c10, c11, c12, c13, c14, z2]; done)), (by first | with_reducible assumption | (simp [go_sem, nh1, nh2, nh3, nh4, nh5, nh6, c10, c11, c12, c13, c14, z2]; done)), (by first | with_reducible assumption | (simp [go_sem, nh1, nh2, nh3, nh4, nh5, nh6, c10, c11, c12, c13, c14, z2]; done)), (by first | with_reducible assumption | (simp [go_sem, nh1, nh2, nh3, nh4, nh5, nh6, c10, c11, c12, c13, c14, z2]; done)), (by first | with_reducible assumption | (simp [go_sem, nh1, nh2, nh3, nh4, nh5, nh6, c27, c28, c29, c30, c31, z4]; done)), (by first | with_reducible assumption | (simp [go_sem, nh1, nh2, nh3, nh4, nh5, nh6, c27, c28, c29, c30, c31, z4]; done)), (by first | with_reducible assumption | (simp [go_sem, nh1, nh2, nh3, nh4, nh5, nh6, c27, c28, c29, c30, c31, z4]; done)), (by first | with_reducible assumption | (simp [go_sem, nh1, nh2, nh3, nh4, nh5, nh6, c27, c28, c29, c30, c31, z4]; done)), (by first | with_reducible assumption | (simp [go_sem, nh1, nh2, nh3, nh4, nh5, nh6, c27, c28, c29, c30, c31, z4]; done)), (by first | with_reducible assumption | (simp [go_sem, nh1, nh2, nh3, nh4, nh5, nh6, c0, c1, c2, c3, c4, z0]; done)), (by first | with_reducible assumption | (simp [go_sem, nh1, nh2, nh3, nh4, nh5, nh6, c0, c1, c2, c3, c4, z0]; done)), (by first | with_reducible assumption | (simp [go_sem, nh1, nh2, nh3, nh4, nh5, nh6, c0, c1, c2, c3, c4, z0]; done)), (by first | with_reducible assumption | (simp [go_sem, nh1, nh2, nh3, nh4, nh5, nh6, c0, c1, c2, c3, c4, z0]; done)), (by first | with_reducible assumption | (simp [go_sem, nh1, nh2, nh3, nh4, nh5, nh6, c0, c1, c2, c3, c4, z0]; done)), (by first | with_reducible assumption | (simp [go_sem, nh1, nh2, nh3, nh4, nh5, nh6, c5, c6, c7, c8, c9, z1]; done)), (by first | with_reducible assumption | (simp [go_sem, nh1, nh2, nh3, nh4, nh5, nh6, c5, c6, c7, c8, c9, z1]; done)), (by first | with_reducible assumption | (simp [go_sem, nh1, nh2, nh3, nh4, nh5, nh6, c5, c6, c7, c8, c9, z1]; done)), (by first | with_reducible assumption | (simp [go_sem, nh1, nh2, nh3, nh4, nh5, nh6, c5, c6, c7, c8, c9, z1]; done)), (by first | with_reducible assumption | (simp [go_sem, nh1, nh2, nh3, nh4, nh5, nh6, c5, c6, c7, c8, c9, z1]; done)), (fun i => by first | with_reducible exact fr2 i | simp [go_sem, nh1, nh2, nh3, nh4, nh5, nh6, fr2]), (fun i => by first | with_reducible exact fr4 i | simp [go_sem, nh1, nh2, nh3, nh4, nh5, nh6, fr4]), by first | with_reducible exact z2 | (simp [go_sem]; with_reducible exact z2)⟩
    case rest =>
      obtain ⟨rfl, rfl, rfl, rfl, hB3, r0, r1, r2, r3, r4, q0, q1, q2, q3, q4, o0, o1, o2, o3, o4, p0, p1, p2, p3, p4, fz, fh, zz⟩ := hcut
      clear c0 c1 c2 c3 c4 c5 c6 c7 c8 c9 c10 c11 c12 c13 c14 c15 c16 c17 c18 c19 c20 c21 c22 c23 c24 c25 c26 c27 c28 c29 c30 c31 z0 z1 z2 z3 z4 fr2 fr4
      have B3 := hidA hB3
      clear hB3 hB zz
      have R0 := hidA r0
      have R1 := hidA r1
      have R2 := hidA r2
      have R3 := hidA r3
      have R4 := hidA r4
      have Q0 := hidA q0
      have Q1 := hidA q1
      have Q2 := hidA q2
      have Q3 := hidA q3
      have Q4 := hidA q4
      have O0 := hidA o0
      have O1 := hidA o1
      have O2 := hidA o2
      have O3 := hidA o3
      have O4 := hidA o4
      have P0 := hidA p0
      have P1 := hidA p1
      have P2 := hidA p2
      have P3 := hidA p3
      have P4 := hidA p4
      have FZ := hidA fz
      have FH := hidA fh
      clear fz fh r0 r1 r2 r3 r4 q0 q1 q2 q3 q4 o0 o1 o2 o3 o4 p0 p1 p2 p3 p4
      have BN : Hid (Below w.heap.size w wc) := hidA B3.out
      have leW : w.heap.size ≤ wc.heap.size := BN.out.size
      have hszb2 : w.heap.size + 1 + 1 < wc.heap.size := World.block_lt_of_cell? _ _ R0.out
      have hszb3 : h < wc.heap.size := World.block_lt_of_cell? _ _ Q0.out
      clear B0 PK HS
      have PK : Hid (∀ V, Below wc.heap.size wc V → abF V (w.heap.size) a (abF V (w.heap.size + 1) b (V.cell? ⟨w.heap.size + 1 + 1, 0, none⟩ = some (.int .i64 0) ∧ V.cell? ⟨w.heap.size + 1 + 1, 1, none⟩ = some (.int .i64 0) ∧ V.cell? ⟨w.heap.size + 1 + 1, 2, none⟩ = some (.int .i64 0) ∧ V.cell? ⟨w.heap.size + 1 + 1, 3, none⟩ = some (.int .i64 0) ∧ V.cell? ⟨w.heap.size + 1 + 1, 4, none⟩ = some (.int .i64 0) ∧ V.cell? ⟨h, 0, none⟩ = some (.int .i64 J.lo) ∧ V.cell? ⟨h, 1, none⟩ = some (.int .i64 J.hi) ∧ V.cell? ⟨h, 2, none⟩ = some (.int .i64 J.m) ∧ V.cell? ⟨h, 3, none⟩ = some (.int .i64 J.r) ∧ V.cell? ⟨h, 4, none⟩ = some (.int .i64 z) ∧ w.heap.size < V.heap.size ∧ w.heap.size + 1 < V.heap.size ∧ w.heap.size + 1 + 1 < V.heap.size ∧ h < V.heap.size ∧ (∀ i, V.frozen? ⟨w.heap.size + 1 + 1, i, none⟩ = false) ∧ (∀ i, V.frozen? ⟨h, i, none⟩ = false)))) := hidA (fun V hW => ⟨cellA hW O0.out, cellA hW O1.out, cellA hW O2.out, cellA hW O3.out, cellA hW O4.out, cellA hW P0.out, cellA hW P1.out, cellA hW P2.out, cellA hW P3.out, cellA hW P4.out, cellA hW R0.out, cellA hW R1.out, cellA hW R2.out, cellA hW R3.out, cellA hW R4.out, cellA hW Q0.out, cellA hW Q1.out, cellA hW Q2.out, cellA hW Q3.out, cellA hW Q4.out, Nat.lt_of_lt_of_le (World.block_lt_of_cell? _ _ O0.out) hW.size, Nat.lt_of_lt_of_le (World.block_lt_of_cell? _ _ P0.out) hW.size, Nat.lt_of_lt_of_le (World.block_lt_of_cell? _ _ R0.out) hW.size, Nat.lt_of_lt_of_le (World.block_lt_of_cell? _ _ Q0.out) hW.size, (fun i => (hW.frozen (p := ⟨w.heap.size + 1 + 1, i, none⟩) (show w.heap.size + 1 + 1 < wc.heap.size from World.block_lt_of_cell? _ _ R0.out)).trans (FZ.out i)), (fun i => (hW.frozen (p := ⟨h, i, none⟩) (show h < wc.heap.size from World.block_lt_of_cell? _ _ Q0.out)).trans (FH.out i))⟩)
      clear O0 O1 O2 O3 O4 P0 P1 P2 P3 P4 R0 R1 R2 R3 R4 Q0 Q1 Q2 Q3 Q4 FZ FH
      have B0 := BN
      clear BN
      have HS : Hid (Below wc.heap.size wc wc) := hidA (Below.refl _ _)
      generalize wc = w0 at *
      obtain ⟨c0, c1, c2, c3, c4, c5, c6, c7, c8, c9, c10, c11, c12, c13, c14, c15, c16, c17, c18, c19, z0, z1, z2, z3, fr2, fr3⟩ := PK.out _ HS.out
      have nh1 : ¬ w.heap.size + 1 + 1 = h := by omega
      have nh2 : ¬ h = w.heap.size + 1 + 1 := by omega
      have hB := B0.out.size
      go_upto_region 6 with (fail)
      go_cut [6, 10] (fun u v W => u = .pointer (some ⟨w.heap.size + 1 + 1, 0, none⟩) ∧ v = .pointer (some ⟨h, 0, none⟩) ∧ Below w.heap.size w W ∧ W.cell? ⟨w.heap.size + 1 + 1, 0, none⟩ = some (.int .i64 0) ∧ W.cell? ⟨w.heap.size + 1 + 1, 1, none⟩ = some (.int .i64 0) ∧ W.cell? ⟨w.heap.size + 1 + 1, 2, none⟩ = some (.int .i64 0) ∧ W.cell? ⟨w.heap.size + 1 + 1, 3, none⟩ = some (.int .i64 0) ∧ W.cell? ⟨w.heap.size + 1 + 1, 4, none⟩ = some (.int .i64 0) ∧ W.cell? ⟨h, 0, none⟩ = some (.int .i64 J.lo) ∧ W.cell? ⟨h, 1, none⟩ = some (.int .i64 J.hi) ∧ W.cell? ⟨h, 2, none⟩ = some (.int .i64 J.m) ∧ W.cell? ⟨h, 3, none⟩ = some (.int .i64 J.r) ∧ W.cell? ⟨h, 4, none⟩ = some (.int .i64 K) ∧ (∀ i, W.frozen? ⟨w.heap.size + 1 + 1, i, none⟩ = false) ∧ w.heap.size + 1 + 1 < W.heap.size)
      case first =>
        go_wp2_with fail
        go_meet
        refine ⟨rfl, rfl, (by repeat (first | with_reducible exact Below.refl _ _ | with_reducible exact HS.out | with_reducible exact B0.out | with_reducible refine Below.setCell ?_ (by first | omega | (dsimp only; omega) | (simp; done) | (simp; omega)) _ | with_reducible refine Below.alloc ?_ (by first | omega | (dsimp only; omega) | (simp; done) | (simp; omega)) _ | with_reducible refine Below.drew ?_ | with_reducible refine drewnA ?_ _ | with_reducible refine Below.trans ?_ (HS.out.mono (by first | omega | (dsimp only; omega) | (simp; done) | (simp; omega))) | with_reducible refine Below.trans ?_ (B0.out.mono (by first | omega | (dsimp only; omega) | (simp; done) | (simp; omega))))), (by first | with_reducible assumption | simp [go_sem, nh1, nh2, c10]), (by first | with_reducible assumption | simp [go_sem, nh1, nh2, c11]), (by first | with_reducible assumption | simp [go_sem, nh1, nh2, c12]), (by first | with_reducible assumption | simp [go_sem, nh1, nh2, c13]), (by first | with_reducible assumption | simp [go_sem, nh1, nh2, c14]), (by first | with_reducible assumption | (simp [go_sem, nh1, nh2, c15, c16, c17, c18, c19, z3]; done)), (by first | with_reducible assumption | (simp [go_sem, nh1, nh2, c15, c16, c17, c18, c19, z3]; done)), (by first | with_reducible assumption | (simp [go_sem, nh1, nh2, c15, c16, c17, c18, c19, z3]; done)), (by first | with_reducible assumption | (simp [go_sem, nh1, nh2, c15, c16, c17, c18, c19, z3]; done)), (by first | with_reducible assumption | (simp [go_sem, nh1, nh2, c15, c16, c17, c18, c19, z3]; done)), (fun i => by first | with_reducible exact fr2 i | simp [go_sem, nh1, nh2, fr2]), by first | with_reducible exact z2 | (simp [go_sem]; with_reducible exact z2)⟩
      case rest =>
        obtain ⟨rfl, rfl, hB3, r0, r1, r2, r3, r4, q0, q1, q2, q3, q4, fz, zz⟩ := hcut
        clear c0 c1 c2 c3 c4 c5 c6 c7 c8 c9 c10 c11 c12 c13 c14 c15 c16 c17 c18 c19 z0 z1 z2 z3 fr2 fr3
        have B3 := hidA hB3
        clear hB3
        go_wp2_with fail
        exact bodyPost_ret (v := .agg #[.int .i64 J.lo, .int .i64 J.hi, .int .i64 J.m, .int .i64 J.r, .int .i64 K]) (by simp [results, Try.results30, go_sem, r0, r1, r2, r3, r4, zz]) rfl ⟨by rfl, (by repeat (first | with_reducible exact Below.refl _ _ | with_reducible exact B3.out | with_reducible refine Below.setCell ?_ (by first | omega | (dsimp only; omega) | (simp; done) | (simp; omega)) _ | with_reducible refine Below.alloc ?_ (by first | omega | (dsimp only; omega) | (simp; done) | (simp; omega)) _ | with_reducible refine Below.drew ?_ | with_reducible refine drewnA ?_ _ | with_reducible refine Below.trans ?_ (B3.out.mono (by first | omega | (dsimp only; omega) | (simp; done) | (simp; omega)))))⟩
end Go.Proofs.Ytdopjadlbhacfaa

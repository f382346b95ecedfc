import Derived.Test.YtdopjadlbhacfaaBv
import Derived.Deep.Cut
import Derived.Deep.DeepCutAuto
namespace Go.Proofs.Ytdopjadlbhacfaa
section
open Go.RowKit Go.Instr Sp
set_option linter.unusedVariables false
set_option linter.unusedSimpArgs false

/-! span's parts of sets. -/
set_option maxRecDepth 100000 in
set_option maxHeartbeats 4000000 in
theorem part_walk (a : Ab) (lo hi s L H l h m r : Int) (is : Bool) (eL : (if a.lo < lo then lo else a.lo) = L) (eH : (if hi < a.hi then hi else a.hi) = H) (C1 : Hid (∀ w, Calls Try.prog 43 #[.agg #[.int .i64 a.lo, .int .i64 a.hi, .int .i64 a.m, .int .i64 a.r, .int .i64 a.k]] w fun e w' => e = .returned (.agg #[.int .i64 a.lo, .int .i64 s]) ∧ Below w.heap.size w w')) (CW : Hid (∀ w, Calls Try.prog 41 #[.agg #[.int .i64 a.lo, .int .i64 s], .int .i64 L, .int .i64 H] w fun e w' => e = .returned (.tuple #[.agg #[.int .i64 l, .int .i64 h, .int .i64 m, .int .i64 r, .int .i64 0], .bool is]) ∧ Below w.heap.size w w')) (w : World) :
    Calls Try.prog 97 #[.agg #[.int .i64 a.lo, .int .i64 a.hi, .int .i64 a.m, .int .i64 a.r, .int .i64 a.k], .int .i64 lo, .int .i64 hi] w fun e w' => e = .returned (.tuple #[.agg #[.int .i64 l, .int .i64 h, .int .i64 m, .int .i64 r, .int .i64 a.k], .bool is]) ∧ Below w.heap.size w w' := by
  obtain ⟨w0, hw0⟩ : ∃ w0, ((w.alloc (.cells #[.int .i64 a.lo, .int .i64 a.hi, .int .i64 a.m, .int .i64 a.r, .int .i64 a.k] 27)).alloc (.cells #[.int .i64 0, .int .i64 0, .int .i64 0, .int .i64 0, .int .i64 0] 27)) = w0 := ⟨_, rfl⟩
  have B0 : Hid (Below w.heap.size w w0) := hidA (by rw [← hw0]; exact (alA (alA (Below.refl _ _) _) _))
  have hsz : w.heap.size + 1 < w0.heap.size := by rw [← hw0]; simp
  have PK : Hid (∀ W, Below w0.heap.size w0 W → abF W (w.heap.size) a (W.cell? ⟨w.heap.size + 1, 0, none⟩ = some (.int .i64 0) ∧ W.cell? ⟨w.heap.size + 1, 1, none⟩ = some (.int .i64 0) ∧ W.cell? ⟨w.heap.size + 1, 2, none⟩ = some (.int .i64 0) ∧ W.cell? ⟨w.heap.size + 1, 3, none⟩ = some (.int .i64 0) ∧ W.cell? ⟨w.heap.size + 1, 4, none⟩ = some (.int .i64 0) ∧ w.heap.size < W.heap.size ∧ w.heap.size + 1 < W.heap.size ∧ (∀ i, W.frozen? ⟨w.heap.size + 1, i, none⟩ = false))) := hidA (fun W hW => by and_intros <;> first | exact cellA hW (by rw [← hw0]; simp [go_sem]) | exact (by have h0 := hW.size; have h1 := hsz; omega) | exact (fun i => (hW.frozen (p := ⟨w.heap.size + 1, i, none⟩) (show w.heap.size + 1 < w0.heap.size by have h1 := hsz; omega)).trans (by rw [← hw0]; simp [go_sem])))
  have Hw := hidA hw0; clear hw0
  go_enter Try.func97, Try.ntmps97
  go_wp2_with fail
  rw [Hw.out]
  clear Hw
  have HS : Hid (Below w0.heap.size w0 w0) := hidA (Below.refl _ _)
  obtain ⟨c0, c1, c2, c3, c4, c5, c6, c7, c8, c9, z0, z1, fr1⟩ := PK.out _ HS.out
  go_cut [8, 9] (fun x y W => ∃ g : Nat, x = .pointer (some ⟨g, 0, none⟩) ∧ y = .bool is ∧ Below w0.heap.size w0 W ∧ w0.heap.size ≤ g ∧ W.cell? ⟨g, 0, none⟩ = some (.int .i64 l) ∧ W.cell? ⟨g, 1, none⟩ = some (.int .i64 h) ∧ W.cell? ⟨g, 2, none⟩ = some (.int .i64 m) ∧ W.cell? ⟨g, 3, none⟩ = some (.int .i64 r) ∧ W.cell? ⟨g, 4, none⟩ = some (.int .i64 0) ∧ (∀ i, W.frozen? ⟨g, i, none⟩ = false))
  case first =>
    have hsD := HS.out.drew
    have leD : w0.heap.size ≤ w0.heap.size := Nat.le_refl _
    go_region_held3 (fun w' => w'.cell? ⟨w.heap.size, 0, none⟩ = some (.int .i64 a.lo) ∧ w'.cell? ⟨w.heap.size, 1, none⟩ = some (.int .i64 a.hi) ∧ w'.cell? ⟨w.heap.size, 2, none⟩ = some (.int .i64 a.m) ∧ w'.cell? ⟨w.heap.size, 3, none⟩ = some (.int .i64 a.r) ∧ w'.cell? ⟨w.heap.size, 4, none⟩ = some (.int .i64 a.k) ∧ Below w0.heap.size w0 w')
      ((refine (fun hB => ⟨(PK.out _ hB).1, (PK.out _ hB).2.1, (PK.out _ hB).2.2.1, (PK.out _ hB).2.2.2.1, (PK.out _ hB).2.2.2.2.1, hB⟩) (?_ : Below w0.heap.size w0 _); exact (by repeat (first | with_reducible assumption | with_reducible exact Below.refl _ _ | with_reducible refine Below.setCell ?_ (by first | omega | (dsimp only; omega) | (simp; done) | (simp; omega)) _ | with_reducible refine Below.alloc ?_ (by first | omega | (dsimp only; omega) | (simp; done) | (simp; omega)) _ | with_reducible refine Below.drew ?_))))
      (first
        | ((go_at_call 43; (with_reducible refine (C1.out _).mono ?_); rintro e w1 ⟨rfl, hb1⟩; have hs1 : Below w0.heap.size w0 w1 := stepA (by repeat (first | with_reducible assumption | with_reducible exact Below.refl _ _ | with_reducible refine Below.setCell ?_ (by first | omega | (dsimp only; omega) | (simp; done) | (simp; omega)) _ | with_reducible refine Below.alloc ?_ (by first | omega | (dsimp only; omega) | (simp; done) | (simp; omega)) _ | with_reducible refine Below.drew ?_)) hb1; have le1 : w0.heap.size ≤ w1.heap.size := hs1.size; obtain ⟨hc1, hf1⟩ := bcell hb1; have sz1 := hb1.size; (try simp at sz1); (try have sa10 : w0.heap.size < w1.heap.size := by omega); (try have sb10 : w0.heap.size + 1 < w1.heap.size := by omega); (try have sc10 : w0.heap.size + 1 + 1 < w1.heap.size := by omega); (have sd10 : w0.heap.size < w1.heap.size + 1 := by omega); (have se10 : w0.heap.size < w1.heap.size + 1 + 1 := by omega); (have sf10 : w0.heap.size < w1.heap.size + 1 + 1 + 1 := by omega)))
        | ((go_at_call 41; (with_reducible refine (CW.out _).mono ?_); rintro e w2 ⟨rfl, hb2⟩; have hs2 : Below w0.heap.size w0 w2 := stepA (by repeat (first | with_reducible assumption | with_reducible exact Below.refl _ _ | with_reducible refine Below.setCell ?_ (by first | omega | (dsimp only; omega) | (simp; done) | (simp; omega)) _ | with_reducible refine Below.alloc ?_ (by first | omega | (dsimp only; omega) | (simp; done) | (simp; omega)) _ | with_reducible refine Below.drew ?_)) hb2; have le2 : w0.heap.size ≤ w2.heap.size := hs2.size; obtain ⟨hc2, hf2⟩ := bcell hb2; have sz2 := hb2.size; (try simp at sz2); (try have sa20 : w0.heap.size < w2.heap.size := by omega); (try have sb20 : w0.heap.size + 1 < w2.heap.size := by omega); (try have sc20 : w0.heap.size + 1 + 1 < w2.heap.size := by omega); (have sd20 : w0.heap.size < w2.heap.size + 1 := by omega); (have se20 : w0.heap.size < w2.heap.size + 1 + 1 := by omega); (have sf20 : w0.heap.size < w2.heap.size + 1 + 1 + 1 := by omega); (try have sa21 : w1.heap.size < w2.heap.size := by omega); (try have sb21 : w1.heap.size + 1 < w2.heap.size := by omega); (try have sc21 : w1.heap.size + 1 + 1 < w2.heap.size := by omega); (have sd21 : w1.heap.size < w2.heap.size + 1 := by omega); (have se21 : w1.heap.size < w2.heap.size + 1 + 1 := by omega); (have sf21 : w1.heap.size < w2.heap.size + 1 + 1 + 1 := by omega))))
    all_goals
      go_wp2_with fail
      go_meet
      exact ⟨_, rfl, rfl, (by repeat (first | with_reducible assumption | with_reducible exact Below.refl _ _ | with_reducible refine Below.setCell ?_ (by first | omega | (dsimp only; omega) | (simp; done) | (simp; omega)) _ | with_reducible refine Below.alloc ?_ (by first | omega | (dsimp only; omega) | (simp; done) | (simp; omega)) _ | with_reducible refine Below.drew ?_)), (by first | omega | (dsimp only; omega) | (simp; done) | (simp; omega)), (by first | (simp [go_sem, *]; done) | ((try simp [go_sem, *]); exact World.cell?_setCell_same _ _ _ (show _ = some (.int .i64 0) by first | (simp [go_sem, *]; done) | exact (hc2 _ _ (by simp)).trans (by simp [go_sem]) | exact (hc2 _ _ (by simp; omega)).trans ((hc1 _ _ (by simp)).trans (by simp [go_sem]))))), (by first | (simp [go_sem, *]; done) | ((try simp [go_sem, *]); exact World.cell?_setCell_same _ _ _ (show _ = some (.int .i64 0) by first | (simp [go_sem, *]; done) | exact (hc2 _ _ (by simp)).trans (by simp [go_sem]) | exact (hc2 _ _ (by simp; omega)).trans ((hc1 _ _ (by simp)).trans (by simp [go_sem]))))), (by first | (simp [go_sem, *]; done) | ((try simp [go_sem, *]); exact World.cell?_setCell_same _ _ _ (show _ = some (.int .i64 0) by first | (simp [go_sem, *]; done) | exact (hc2 _ _ (by simp)).trans (by simp [go_sem]) | exact (hc2 _ _ (by simp; omega)).trans ((hc1 _ _ (by simp)).trans (by simp [go_sem]))))), (by first | (simp [go_sem, *]; done) | ((try simp [go_sem, *]); exact World.cell?_setCell_same _ _ _ (show _ = some (.int .i64 0) by first | (simp [go_sem, *]; done) | exact (hc2 _ _ (by simp)).trans (by simp [go_sem]) | exact (hc2 _ _ (by simp; omega)).trans ((hc1 _ _ (by simp)).trans (by simp [go_sem]))))), (by first | (simp [go_sem, *]; done) | ((try simp [go_sem, *]); exact World.cell?_setCell_same _ _ _ (show _ = some (.int .i64 0) by first | (simp [go_sem, *]; done) | exact (hc2 _ _ (by simp)).trans (by simp [go_sem]) | exact (hc2 _ _ (by simp; omega)).trans ((hc1 _ _ (by simp)).trans (by simp [go_sem]))))), (fun i => by first | (simp [go_sem, *]; done) | ((try simp [go_sem, *]); first | exact (hf2 _ _ (by simp)).trans (by simp [go_sem]) | exact (hf2 _ _ (by simp; omega)).trans ((hf1 _ _ (by simp)).trans (by simp [go_sem]))))⟩
  case rest =>
    obtain ⟨g, rfl, rfl, hs1, lg, x0, x1, x2, x3, x4, fg⟩ := hcut
    have n1 : ¬ w.heap.size + 1 = g := by omega
    have n2 : ¬ g = w.heap.size + 1 := by omega
    have n3 : ¬ w.heap.size = g := by omega
    have wg : w.heap.size ≤ g := by omega
    clear lg
    have X0 := hidA x0
    have X1 := hidA x1
    have X2 := hidA x2
    have X3 := hidA x3
    have X4 := hidA x4
    have FG := hidA fg
    clear fg x0 x1 x2 x3 x4
    clear HS; have HS := hidA hs1; clear hs1 c0 c1 c2 c3 c4 c5 c6 c7 c8 c9 z0 z1 fr1; obtain ⟨c0, c1, c2, c3, c4, c5, c6, c7, c8, c9, z0, z1, fr1⟩ := PK.out _ HS.out
    have N0 := hidA c0
    have N1 := hidA c1
    have N2 := hidA c2
    have N3 := hidA c3
    have N4 := hidA c4
    have Z0 := hidA c5
    have Z1 := hidA c6
    have Z2 := hidA c7
    have Z3 := hidA c8
    have Z4 := hidA c9
    have FZ := hidA fr1
    clear c0 c1 c2 c3 c4 c5 c6 c7 c8 c9 z0 z1 fr1
    have BW := hidA (B0.out.trans (HS.out.mono B0.out.size))
    have BN : Hid (Below w.heap.size w wc) := hidA BW.out
    have leW : w.heap.size ≤ wc.heap.size := BN.out.size
    have hszb1 : w.heap.size + 1 < wc.heap.size := World.block_lt_of_cell? _ _ Z0.out
    have hszb2 : g < wc.heap.size := World.block_lt_of_cell? _ _ X0.out
    clear B0 PK HS
    have PK : Hid (∀ V, Below wc.heap.size wc V → abF V (w.heap.size) a (V.cell? ⟨w.heap.size + 1, 0, none⟩ = some (.int .i64 0) ∧ V.cell? ⟨w.heap.size + 1, 1, none⟩ = some (.int .i64 0) ∧ V.cell? ⟨w.heap.size + 1, 2, none⟩ = some (.int .i64 0) ∧ V.cell? ⟨w.heap.size + 1, 3, none⟩ = some (.int .i64 0) ∧ V.cell? ⟨w.heap.size + 1, 4, none⟩ = some (.int .i64 0) ∧ V.cell? ⟨g, 0, none⟩ = some (.int .i64 l) ∧ V.cell? ⟨g, 1, none⟩ = some (.int .i64 h) ∧ V.cell? ⟨g, 2, none⟩ = some (.int .i64 m) ∧ V.cell? ⟨g, 3, none⟩ = some (.int .i64 r) ∧ V.cell? ⟨g, 4, none⟩ = some (.int .i64 0) ∧ w.heap.size < V.heap.size ∧ w.heap.size + 1 < V.heap.size ∧ g < V.heap.size ∧ (∀ i, V.frozen? ⟨w.heap.size + 1, i, none⟩ = false) ∧ (∀ i, V.frozen? ⟨g, i, none⟩ = false))) := hidA (fun V hW => ⟨cellA hW N0.out, cellA hW N1.out, cellA hW N2.out, cellA hW N3.out, cellA hW N4.out, cellA hW Z0.out, cellA hW Z1.out, cellA hW Z2.out, cellA hW Z3.out, cellA hW Z4.out, cellA hW X0.out, cellA hW X1.out, cellA hW X2.out, cellA hW X3.out, cellA hW X4.out, Nat.lt_of_lt_of_le (World.block_lt_of_cell? _ _ N0.out) hW.size, Nat.lt_of_lt_of_le (World.block_lt_of_cell? _ _ Z0.out) hW.size, Nat.lt_of_lt_of_le (World.block_lt_of_cell? _ _ X0.out) hW.size, (fun i => (hW.frozen (p := ⟨w.heap.size + 1, i, none⟩) (show w.heap.size + 1 < wc.heap.size from World.block_lt_of_cell? _ _ Z0.out)).trans (FZ.out i)), (fun i => (hW.frozen (p := ⟨g, i, none⟩) (show g < wc.heap.size from World.block_lt_of_cell? _ _ X0.out)).trans (FG.out i))⟩)
    clear N0 N1 N2 N3 N4 Z0 Z1 Z2 Z3 Z4 X0 X1 X2 X3 X4 FZ FG
    have B0 := BN
    clear BN
    have HS : Hid (Below wc.heap.size wc wc) := hidA (Below.refl _ _)
    generalize wc = w0 at *
    obtain ⟨c0, c1, c2, c3, c4, c5, c6, c7, c8, c9, c10, c11, c12, c13, c14, z0, z1, z2, fr1, fr2⟩ := PK.out _ HS.out
    clear BW
    have hB := B0.out.size
    go_upto_region 2 with (fail)
    go_cut [6, 8, 9] (fun u x y W => u = .pointer (some ⟨w.heap.size + 1, 0, none⟩) ∧ x = .pointer (some ⟨g, 0, none⟩) ∧ y = .bool is ∧ Below w.heap.size w W ∧ W.cell? ⟨w.heap.size + 1, 0, none⟩ = some (.int .i64 0) ∧ W.cell? ⟨w.heap.size + 1, 1, none⟩ = some (.int .i64 0) ∧ W.cell? ⟨w.heap.size + 1, 2, none⟩ = some (.int .i64 0) ∧ W.cell? ⟨w.heap.size + 1, 3, none⟩ = some (.int .i64 0) ∧ W.cell? ⟨w.heap.size + 1, 4, none⟩ = some (.int .i64 0) ∧ W.cell? ⟨g, 0, none⟩ = some (.int .i64 l) ∧ W.cell? ⟨g, 1, none⟩ = some (.int .i64 h) ∧ W.cell? ⟨g, 2, none⟩ = some (.int .i64 m) ∧ W.cell? ⟨g, 3, none⟩ = some (.int .i64 r) ∧ W.cell? ⟨g, 4, none⟩ = some (.int .i64 a.k) ∧ (∀ i, W.frozen? ⟨w.heap.size + 1, i, none⟩ = false))
    case first =>
      go_wp2_with fail
      go_meet
      refine ⟨rfl, rfl, rfl, (by repeat (first | with_reducible exact Below.refl _ _ | with_reducible exact HS.out | with_reducible exact B0.out | with_reducible refine Below.setCell ?_ (by first | omega | (dsimp only; omega) | (simp; done) | (simp; omega)) _ | with_reducible refine Below.alloc ?_ (by first | omega | (dsimp only; omega) | (simp; done) | (simp; omega)) _ | with_reducible refine Below.drew ?_ | with_reducible refine drewnA ?_ _ | with_reducible refine Below.trans ?_ (HS.out.mono (by first | omega | (dsimp only; omega) | (simp; done) | (simp; omega))) | with_reducible refine Below.trans ?_ (B0.out.mono (by first | omega | (dsimp only; omega) | (simp; done) | (simp; omega))))), (by first | with_reducible assumption | (simp [go_sem, n1, n2, n3, c5, c6, c7, c8, c9, z1]; done)), (by first | with_reducible assumption | (simp [go_sem, n1, n2, n3, c5, c6, c7, c8, c9, z1]; done)), (by first | with_reducible assumption | (simp [go_sem, n1, n2, n3, c5, c6, c7, c8, c9, z1]; done)), (by first | with_reducible assumption | (simp [go_sem, n1, n2, n3, c5, c6, c7, c8, c9, z1]; done)), (by first | with_reducible assumption | (simp [go_sem, n1, n2, n3, c5, c6, c7, c8, c9, z1]; done)), (by first | with_reducible assumption | (simp [go_sem, n1, n2, n3, c10, c11, c12, c13, c14, z2]; done)), (by first | with_reducible assumption | (simp [go_sem, n1, n2, n3, c10, c11, c12, c13, c14, z2]; done)), (by first | with_reducible assumption | (simp [go_sem, n1, n2, n3, c10, c11, c12, c13, c14, z2]; done)), (by first | with_reducible assumption | (simp [go_sem, n1, n2, n3, c10, c11, c12, c13, c14, z2]; done)), (by first | with_reducible assumption | (simp [go_sem, n1, n2, n3, c10, c11, c12, c13, c14, z2]; done)), (fun i => by first | with_reducible exact fr1 i | simp [go_sem, n1, n2, fr1])⟩
    case rest =>
      obtain ⟨rfl, rfl, rfl, hB3, r0, r1, r2, r3, r4, q0, q1, q2, q3, q4, fz⟩ := hcut
      clear c0 c1 c2 c3 c4 c5 c6 c7 c8 c9 c10 c11 c12 c13 c14 z0 z1 z2 fr1 fr2
      have B3 := hidA hB3
      clear hB3 hB
      have R0 := hidA r0
      have R1 := hidA r1
      have R2 := hidA r2
      have R3 := hidA r3
      have R4 := hidA r4
      have Q0 := hidA q0
      have Q1 := hidA q1
      have Q2 := hidA q2
      have Q3 := hidA q3
      have Q4 := hidA q4
      have FZ := hidA fz
      clear fz r0 r1 r2 r3 r4 q0 q1 q2 q3 q4
      have BN : Hid (Below w.heap.size w wc) := hidA B3.out
      have leW : w.heap.size ≤ wc.heap.size := BN.out.size
      have hszb0 : w.heap.size + 1 < wc.heap.size := World.block_lt_of_cell? _ _ R0.out
      clear B0 PK HS
      have PK : Hid (∀ V, Below wc.heap.size wc V → V.cell? ⟨w.heap.size + 1, 0, none⟩ = some (.int .i64 0) ∧ V.cell? ⟨w.heap.size + 1, 1, none⟩ = some (.int .i64 0) ∧ V.cell? ⟨w.heap.size + 1, 2, none⟩ = some (.int .i64 0) ∧ V.cell? ⟨w.heap.size + 1, 3, none⟩ = some (.int .i64 0) ∧ V.cell? ⟨w.heap.size + 1, 4, none⟩ = some (.int .i64 0) ∧ V.cell? ⟨g, 0, none⟩ = some (.int .i64 l) ∧ V.cell? ⟨g, 1, none⟩ = some (.int .i64 h) ∧ V.cell? ⟨g, 2, none⟩ = some (.int .i64 m) ∧ V.cell? ⟨g, 3, none⟩ = some (.int .i64 r) ∧ V.cell? ⟨g, 4, none⟩ = some (.int .i64 a.k) ∧ w.heap.size + 1 < V.heap.size ∧ g < V.heap.size ∧ (∀ i, V.frozen? ⟨w.heap.size + 1, i, none⟩ = false)) := hidA (fun V hW => ⟨cellA hW R0.out, cellA hW R1.out, cellA hW R2.out, cellA hW R3.out, cellA hW R4.out, cellA hW Q0.out, cellA hW Q1.out, cellA hW Q2.out, cellA hW Q3.out, cellA hW Q4.out, Nat.lt_of_lt_of_le (World.block_lt_of_cell? _ _ R0.out) hW.size, Nat.lt_of_lt_of_le (World.block_lt_of_cell? _ _ Q0.out) hW.size, (fun i => (hW.frozen (p := ⟨w.heap.size + 1, i, none⟩) (show w.heap.size + 1 < wc.heap.size from World.block_lt_of_cell? _ _ R0.out)).trans (FZ.out i))⟩)
      clear R0 R1 R2 R3 R4 Q0 Q1 Q2 Q3 Q4 FZ
      have B0 := BN
      clear BN
      have HS : Hid (Below wc.heap.size wc wc) := hidA (Below.refl _ _)
      generalize wc = w0 at *
      obtain ⟨c0, c1, c2, c3, c4, c5, c6, c7, c8, c9, z0, z1, fr0⟩ := PK.out _ HS.out
      go_wp2_with fail
      exact bodyPost_ret (v := .tuple #[.agg #[.int .i64 l, .int .i64 h, .int .i64 m, .int .i64 r, .int .i64 a.k], .bool is]) (by simp [results, Try.results97, go_sem, c0, c1, c2, c3, c4, z0, fr0, n1, n2]) rfl ⟨by rfl, (by repeat (first | with_reducible exact Below.refl _ _ | with_reducible exact HS.out | with_reducible exact B0.out | with_reducible refine Below.setCell ?_ (by first | omega | (dsimp only; omega) | (simp; done) | (simp; omega)) _ | with_reducible refine Below.alloc ?_ (by first | omega | (dsimp only; omega) | (simp; done) | (simp; omega)) _ | with_reducible refine Below.drew ?_ | with_reducible refine drewnA ?_ _ | with_reducible refine Below.trans ?_ (HS.out.mono (by first | omega | (dsimp only; omega) | (simp; done) | (simp; omega))) | with_reducible refine Below.trans ?_ (B0.out.mono (by first | omega | (dsimp only; omega) | (simp; done) | (simp; omega)))))⟩
/-- A part of a set, from lo to hi; where there is none, its classes alone. -/
theorem spart_any (a : Ab) (A : Val a) (lo hi : Int) (h1 : -8589934592 ≤ lo) (h2 : lo ≤ 8589934592) (h3 : -8589934592 ≤ hi) (h4 : hi ≤ 8589934592) : ∃ (is : Bool) (x : Ab), PartR a (fun v => lo ≤ v ∧ v ≤ hi) is x ∧ ∀ w,
    Calls Try.prog 97 #[.agg #[.int .i64 a.lo, .int .i64 a.hi, .int .i64 a.m, .int .i64 a.r, .int .i64 a.k], .int .i64 lo, .int .i64 hi] w fun e w' => e = .returned (.tuple #[.agg #[.int .i64 x.lo, .int .i64 x.hi, .int .i64 x.m, .int .i64 x.r, .int .i64 a.k], .bool is]) ∧ Below w.heap.size w w' := by
  have al := A.l; have ah := A.h; have ao := A.o
  have sa := stp_le A
  have eL : (if a.lo < lo then lo else a.lo) = max a.lo lo := by split <;> omega
  have eH : (if hi < a.hi then hi else a.hi) = min a.hi hi := by split <;> omega
  have C1 := hidA (fun w => sclassOf_any a w)
  have O : WiOk a.lo (stp a) (max a.lo lo) (min a.hi hi) := ⟨⟨by omega, by omega⟩, by omega, by omega, by omega, by omega, sa.1, Or.inl (by omega)⟩
  have K := clip_r A lo hi
  cases hc : clipIs a lo hi with
  | true =>
    rw [hc] at K
    obtain ⟨V, hM, hk⟩ := K.some rfl
    refine ⟨true, clipA a lo hi, hc ▸ K, fun w => ?_⟩
    exact part_walk a lo hi (stp a) _ _ _ _ _ _ true eL eH C1 (hidA (fun w => within_some (clipA a lo hi) V a.lo (stp a) _ _ O (fun v => by
      rw [hM]
      unfold Mem
      constructor
      · rintro ⟨⟨a1, a2, a3⟩, b1, b2⟩
        exact ⟨by omega, by omega, a3⟩
      · rintro ⟨a1, a2, a3⟩
        exact ⟨⟨by omega, by omega, a3⟩, by omega, by omega⟩) w)) w
  | false =>
    rw [hc] at K
    obtain ⟨e, hN⟩ := K.none rfl
    refine ⟨false, ⟨0, 0, 0, 0, 0⟩, ⟨fun h => (by cases h), fun _ => ⟨rfl, hN⟩⟩, fun w => ?_⟩
    exact part_walk a lo hi (stp a) _ _ 0 0 0 0 false eL eH C1 (hidA (fun w => within_none a.lo (stp a) _ _ O (fun v hv => hN v ⟨⟨by omega, by omega, hv.2.2⟩, by omega, by omega⟩) w)) w
end

section
open Go.RowKit Go.Instr Sp
set_option linter.unusedVariables false
set_option linter.unusedSimpArgs false

/-! span's parts that a comparison leaves. -/
set_option maxRecDepth 100000 in
set_option maxHeartbeats 4000000 in
theorem wo_1 (a b : Ab) (s : Int) (CS : Hid (∀ w, Calls Try.prog 48 #[.agg #[.int .i64 b.lo, .int .i64 b.hi, .int .i64 b.m, .int .i64 b.r, .int .i64 b.k]] w fun e w' => e = .returned (.int .i64 s) ∧ Below w.heap.size w w')) (hs : (s == 0) = false) (hs2 : (s != 0) = true) (w : World) :
    Calls Try.prog 98 #[.agg #[.int .i64 a.lo, .int .i64 a.hi, .int .i64 a.m, .int .i64 a.r, .int .i64 a.k], .agg #[.int .i64 b.lo, .int .i64 b.hi, .int .i64 b.m, .int .i64 b.r, .int .i64 b.k]] w fun e w' => e = .returned (.tuple #[.agg #[.int .i64 a.lo, .int .i64 a.hi, .int .i64 a.m, .int .i64 a.r, .int .i64 a.k], .bool true]) ∧ Below w.heap.size w w' := by
  obtain ⟨w0, hw0⟩ : ∃ w0, (((w.alloc (.cells #[.int .i64 a.lo, .int .i64 a.hi, .int .i64 a.m, .int .i64 a.r, .int .i64 a.k] 27)).alloc (.cells #[.int .i64 b.lo, .int .i64 b.hi, .int .i64 b.m, .int .i64 b.r, .int .i64 b.k] 27)).alloc (.cells #[.int .i64 0, .int .i64 0, .int .i64 0, .int .i64 0, .int .i64 0] 27)) = w0 := ⟨_, rfl⟩
  have B0 : Hid (Below w.heap.size w w0) := hidA (by rw [← hw0]; exact (alA (alA (alA (Below.refl _ _) _) _) _))
  have hsz : w.heap.size + 1 + 1 < w0.heap.size := by rw [← hw0]; simp
  have PK : Hid (∀ W, Below w0.heap.size w0 W → abF W (w.heap.size) a (abF W (w.heap.size + 1) b (W.cell? ⟨w.heap.size + 1 + 1, 0, none⟩ = some (.int .i64 0) ∧ W.cell? ⟨w.heap.size + 1 + 1, 1, none⟩ = some (.int .i64 0) ∧ W.cell? ⟨w.heap.size + 1 + 1, 2, none⟩ = some (.int .i64 0) ∧ W.cell? ⟨w.heap.size + 1 + 1, 3, none⟩ = some (.int .i64 0) ∧ W.cell? ⟨w.heap.size + 1 + 1, 4, none⟩ = some (.int .i64 0) ∧ w.heap.size < W.heap.size ∧ w.heap.size + 1 < W.heap.size ∧ w.heap.size + 1 + 1 < W.heap.size ∧ (∀ i, W.frozen? ⟨w.heap.size + 1 + 1, i, none⟩ = false)))) := hidA (fun W hW => by and_intros <;> first | exact cellA hW (by rw [← hw0]; simp [go_sem]) | exact (by have h0 := hW.size; have h1 := hsz; omega) | exact (fun i => (hW.frozen (p := ⟨w.heap.size + 1 + 1, i, none⟩) (show w.heap.size + 1 + 1 < w0.heap.size by have h1 := hsz; omega)).trans (by rw [← hw0]; simp [go_sem])))
  have Hw := hidA hw0; clear hw0
  go_enter Try.func98, Try.ntmps98
  go_wp2_with fail
  rw [Hw.out]
  clear Hw
  have HS : Hid (Below w0.heap.size w0 w0) := hidA (Below.refl _ _)
  obtain ⟨c0, c1, c2, c3, c4, c5, c6, c7, c8, c9, c10, c11, c12, c13, c14, z0, z1, z2, fr2⟩ := PK.out _ HS.out
  go_wp2_with (first | (go_at_call 48; (with_reducible refine (CS.out _).mono ?_); rintro e w1 ⟨rfl, hb⟩; have hsE := HS.out; have leE := HS.out.size; have hs1 : Below w0.heap.size w0 w1 := stepA (by repeat (first | with_reducible assumption | with_reducible exact Below.refl _ _ | with_reducible refine Below.setCell ?_ (by first | omega | (dsimp only; omega) | (simp; done) | (simp; omega)) _ | with_reducible refine Below.alloc ?_ (by first | omega | (dsimp only; omega) | (simp; done) | (simp; omega)) _ | with_reducible refine Below.drew ?_)) hb; clear hb hsE leE; clear HS; have HS := hidA hs1; clear hs1 c0 c1 c2 c3 c4 c5 c6 c7 c8 c9 c10 c11 c12 c13 c14 z0 z1 z2 fr2; obtain ⟨c0, c1, c2, c3, c4, c5, c6, c7, c8, c9, c10, c11, c12, c13, c14, z0, z1, z2, fr2⟩ := PK.out _ HS.out))
  exact bodyPost_ret (v := .tuple #[.agg #[.int .i64 a.lo, .int .i64 a.hi, .int .i64 a.m, .int .i64 a.r, .int .i64 a.k], .bool true]) (by simp [results, Try.results98, go_sem, c10, c11, c12, c13, c14, z2, fr2]) rfl ⟨by rfl, (by repeat (first | with_reducible exact Below.refl _ _ | with_reducible exact HS.out | with_reducible exact B0.out | with_reducible refine Below.setCell ?_ (by first | omega | (dsimp only; omega) | (simp; done) | (simp; omega)) _ | with_reducible refine Below.alloc ?_ (by first | omega | (dsimp only; omega) | (simp; done) | (simp; omega)) _ | with_reducible refine Below.drew ?_ | with_reducible refine drewnA ?_ _ | with_reducible refine Below.trans ?_ (HS.out.mono (by first | omega | (dsimp only; omega) | (simp; done) | (simp; omega))) | with_reducible refine Below.trans ?_ (B0.out.mono (by first | omega | (dsimp only; omega) | (simp; done) | (simp; omega)))))⟩
set_option maxRecDepth 100000 in
set_option maxHeartbeats 4000000 in
theorem core_wo_2 (a b : Ab) (s : Int) (xl xh xm xr p : Int) (i : Bool) (CS : Hid (∀ w, Calls Try.prog 48 #[.agg #[.int .i64 b.lo, .int .i64 b.hi, .int .i64 b.m, .int .i64 b.r, .int .i64 b.k]] w fun e w' => e = .returned (.int .i64 s) ∧ Below w.heap.size w w')) (hs : (s == 0) = true) (hs2 : (s != 0) = false) (HH : (((b.lo == a.lo) = true) ∧ (IntKind.i64.wrap (a.lo + 1) = p) ∧ (Hid (∀ w, Calls Try.prog 97 #[.agg #[.int .i64 a.lo, .int .i64 a.hi, .int .i64 a.m, .int .i64 a.r, .int .i64 a.k], .int .i64 p, .int .i64 a.hi] w fun e w' => e = .returned (.tuple #[.agg #[.int .i64 xl, .int .i64 xh, .int .i64 xm, .int .i64 xr, .int .i64 a.k], .bool i]) ∧ Below w.heap.size w w'))) ∨ (((b.lo == a.lo) = false) ∧ ((b.lo == a.hi) = true) ∧ (IntKind.i64.wrap (a.hi - 1) = p) ∧ (Hid (∀ w, Calls Try.prog 97 #[.agg #[.int .i64 a.lo, .int .i64 a.hi, .int .i64 a.m, .int .i64 a.r, .int .i64 a.k], .int .i64 a.lo, .int .i64 p] w fun e w' => e = .returned (.tuple #[.agg #[.int .i64 xl, .int .i64 xh, .int .i64 xm, .int .i64 xr, .int .i64 a.k], .bool i]) ∧ Below w.heap.size w w')))) (w : World) :
    Calls Try.prog 98 #[.agg #[.int .i64 a.lo, .int .i64 a.hi, .int .i64 a.m, .int .i64 a.r, .int .i64 a.k], .agg #[.int .i64 b.lo, .int .i64 b.hi, .int .i64 b.m, .int .i64 b.r, .int .i64 b.k]] w fun e w' => e = .returned (.tuple #[.agg #[.int .i64 xl, .int .i64 xh, .int .i64 xm, .int .i64 xr, .int .i64 a.k], .bool i]) ∧ Below w.heap.size w w' := by
  rcases HH with ⟨h1, ep, CP⟩ | ⟨h1, h2, ep, CP⟩
  all_goals
    obtain ⟨w0, hw0⟩ : ∃ w0, (((w.alloc (.cells #[.int .i64 a.lo, .int .i64 a.hi, .int .i64 a.m, .int .i64 a.r, .int .i64 a.k] 27)).alloc (.cells #[.int .i64 b.lo, .int .i64 b.hi, .int .i64 b.m, .int .i64 b.r, .int .i64 b.k] 27)).alloc (.cells #[.int .i64 0, .int .i64 0, .int .i64 0, .int .i64 0, .int .i64 0] 27)) = w0 := ⟨_, rfl⟩
    have B0 : Hid (Below w.heap.size w w0) := hidA (by rw [← hw0]; exact (alA (alA (alA (Below.refl _ _) _) _) _))
    have hsz : w.heap.size + 1 + 1 < w0.heap.size := by rw [← hw0]; simp
    have PK : Hid (∀ W, Below w0.heap.size w0 W → abF W (w.heap.size) a (abF W (w.heap.size + 1) b (W.cell? ⟨w.heap.size + 1 + 1, 0, none⟩ = some (.int .i64 0) ∧ W.cell? ⟨w.heap.size + 1 + 1, 1, none⟩ = some (.int .i64 0) ∧ W.cell? ⟨w.heap.size + 1 + 1, 2, none⟩ = some (.int .i64 0) ∧ W.cell? ⟨w.heap.size + 1 + 1, 3, none⟩ = some (.int .i64 0) ∧ W.cell? ⟨w.heap.size + 1 + 1, 4, none⟩ = some (.int .i64 0) ∧ w.heap.size < W.heap.size ∧ w.heap.size + 1 < W.heap.size ∧ w.heap.size + 1 + 1 < W.heap.size ∧ (∀ i, W.frozen? ⟨w.heap.size + 1 + 1, i, none⟩ = false)))) := hidA (fun W hW => by and_intros <;> first | exact cellA hW (by rw [← hw0]; simp [go_sem]) | exact (by have h0 := hW.size; have h1 := hsz; omega) | exact (fun i => (hW.frozen (p := ⟨w.heap.size + 1 + 1, i, none⟩) (show w.heap.size + 1 + 1 < w0.heap.size by have h1 := hsz; omega)).trans (by rw [← hw0]; simp [go_sem])))
    have Hw := hidA hw0; clear hw0
    go_enter Try.func98, Try.ntmps98
    go_wp2_with fail
    rw [Hw.out]
    clear Hw
    have HS : Hid (Below w0.heap.size w0 w0) := hidA (Below.refl _ _)
    obtain ⟨c0, c1, c2, c3, c4, c5, c6, c7, c8, c9, c10, c11, c12, c13, c14, z0, z1, z2, fr2⟩ := PK.out _ HS.out
    go_wp2_with (first | (go_at_call 48; (with_reducible refine (CS.out _).mono ?_); rintro e w1 ⟨rfl, hb⟩; have hsE := HS.out; have leE := HS.out.size; have hs1 : Below w0.heap.size w0 w1 := stepA (by repeat (first | with_reducible assumption | with_reducible exact Below.refl _ _ | with_reducible refine Below.setCell ?_ (by first | omega | (dsimp only; omega) | (simp; done) | (simp; omega)) _ | with_reducible refine Below.alloc ?_ (by first | omega | (dsimp only; omega) | (simp; done) | (simp; omega)) _ | with_reducible refine Below.drew ?_)) hb; clear hb hsE leE; clear HS; have HS := hidA hs1; clear hs1 c0 c1 c2 c3 c4 c5 c6 c7 c8 c9 c10 c11 c12 c13 c14 z0 z1 z2 fr2; obtain ⟨c0, c1, c2, c3, c4, c5, c6, c7, c8, c9, c10, c11, c12, c13, c14, z0, z1, z2, fr2⟩ := PK.out _ HS.out) | (go_at_call 97; (with_reducible refine (CP.out _).mono ?_); rintro e w1 ⟨rfl, hb⟩; have hsE := HS.out; have leE := HS.out.size; have hs1 : Below w0.heap.size w0 w1 := stepA (by repeat (first | with_reducible assumption | with_reducible exact Below.refl _ _ | with_reducible refine Below.setCell ?_ (by first | omega | (dsimp only; omega) | (simp; done) | (simp; omega)) _ | with_reducible refine Below.alloc ?_ (by first | omega | (dsimp only; omega) | (simp; done) | (simp; omega)) _ | with_reducible refine Below.drew ?_)) hb; clear hb hsE leE; clear HS; have HS := hidA hs1; clear hs1 c0 c1 c2 c3 c4 c5 c6 c7 c8 c9 c10 c11 c12 c13 c14 z0 z1 z2 fr2; obtain ⟨c0, c1, c2, c3, c4, c5, c6, c7, c8, c9, c10, c11, c12, c13, c14, z0, z1, z2, fr2⟩ := PK.out _ HS.out))
    exact bodyPost_ret (v := .tuple #[.agg #[.int .i64 xl, .int .i64 xh, .int .i64 xm, .int .i64 xr, .int .i64 a.k], .bool i]) (by simp [results, Try.results98, go_sem, c10, c11, c12, c13, c14, z2, fr2]) rfl ⟨by rfl, (by repeat (first | with_reducible exact Below.refl _ _ | with_reducible exact HS.out | with_reducible exact B0.out | with_reducible refine Below.setCell ?_ (by first | omega | (dsimp only; omega) | (simp; done) | (simp; omega)) _ | with_reducible refine Below.alloc ?_ (by first | omega | (dsimp only; omega) | (simp; done) | (simp; omega)) _ | with_reducible refine Below.drew ?_ | with_reducible refine drewnA ?_ _ | with_reducible refine Below.trans ?_ (HS.out.mono (by first | omega | (dsimp only; omega) | (simp; done) | (simp; omega))) | with_reducible refine Below.trans ?_ (B0.out.mono (by first | omega | (dsimp only; omega) | (simp; done) | (simp; omega)))))⟩
theorem wo_2 (a b : Ab) (s : Int) (xl xh xm xr p : Int) (i : Bool) (CS : Hid (∀ w, Calls Try.prog 48 #[.agg #[.int .i64 b.lo, .int .i64 b.hi, .int .i64 b.m, .int .i64 b.r, .int .i64 b.k]] w fun e w' => e = .returned (.int .i64 s) ∧ Below w.heap.size w w')) (hs : (s == 0) = true) (hs2 : (s != 0) = false) (h1 : (b.lo == a.lo) = true) (ep : IntKind.i64.wrap (a.lo + 1) = p) (CP : Hid (∀ w, Calls Try.prog 97 #[.agg #[.int .i64 a.lo, .int .i64 a.hi, .int .i64 a.m, .int .i64 a.r, .int .i64 a.k], .int .i64 p, .int .i64 a.hi] w fun e w' => e = .returned (.tuple #[.agg #[.int .i64 xl, .int .i64 xh, .int .i64 xm, .int .i64 xr, .int .i64 a.k], .bool i]) ∧ Below w.heap.size w w')) (w : World) :
    Calls Try.prog 98 #[.agg #[.int .i64 a.lo, .int .i64 a.hi, .int .i64 a.m, .int .i64 a.r, .int .i64 a.k], .agg #[.int .i64 b.lo, .int .i64 b.hi, .int .i64 b.m, .int .i64 b.r, .int .i64 b.k]] w fun e w' => e = .returned (.tuple #[.agg #[.int .i64 xl, .int .i64 xh, .int .i64 xm, .int .i64 xr, .int .i64 a.k], .bool i]) ∧ Below w.heap.size w w' :=
  core_wo_2 a b s xl xh xm xr p i CS hs hs2 (Or.inl ⟨h1, ep, CP⟩) w
set_option maxRecDepth 100000 in
set_option maxHeartbeats 4000000 in
theorem wo_3 (a b : Ab) (s : Int) (xl xh xm xr p : Int) (i : Bool) (CS : Hid (∀ w, Calls Try.prog 48 #[.agg #[.int .i64 b.lo, .int .i64 b.hi, .int .i64 b.m, .int .i64 b.r, .int .i64 b.k]] w fun e w' => e = .returned (.int .i64 s) ∧ Below w.heap.size w w')) (hs : (s == 0) = true) (hs2 : (s != 0) = false) (h1 : (b.lo == a.lo) = false) (h2 : (b.lo == a.hi) = true) (ep : IntKind.i64.wrap (a.hi - 1) = p) (CP : Hid (∀ w, Calls Try.prog 97 #[.agg #[.int .i64 a.lo, .int .i64 a.hi, .int .i64 a.m, .int .i64 a.r, .int .i64 a.k], .int .i64 a.lo, .int .i64 p] w fun e w' => e = .returned (.tuple #[.agg #[.int .i64 xl, .int .i64 xh, .int .i64 xm, .int .i64 xr, .int .i64 a.k], .bool i]) ∧ Below w.heap.size w w')) (w : World) :
    Calls Try.prog 98 #[.agg #[.int .i64 a.lo, .int .i64 a.hi, .int .i64 a.m, .int .i64 a.r, .int .i64 a.k], .agg #[.int .i64 b.lo, .int .i64 b.hi, .int .i64 b.m, .int .i64 b.r, .int .i64 b.k]] w fun e w' => e = .returned (.tuple #[.agg #[.int .i64 xl, .int .i64 xh, .int .i64 xm, .int .i64 xr, .int .i64 a.k], .bool i]) ∧ Below w.heap.size w w' :=
  core_wo_2 a b s xl xh xm xr p i CS hs hs2 (Or.inr ⟨h1, h2, ep, CP⟩) w
set_option maxRecDepth 100000 in
set_option maxHeartbeats 4000000 in
theorem wo_4 (a b : Ab) (s : Int) (CS : Hid (∀ w, Calls Try.prog 48 #[.agg #[.int .i64 b.lo, .int .i64 b.hi, .int .i64 b.m, .int .i64 b.r, .int .i64 b.k]] w fun e w' => e = .returned (.int .i64 s) ∧ Below w.heap.size w w')) (hs : (s == 0) = true) (hs2 : (s != 0) = false) (h1 : (b.lo == a.lo) = false) (h2 : (b.lo == a.hi) = false) (w : World) :
    Calls Try.prog 98 #[.agg #[.int .i64 a.lo, .int .i64 a.hi, .int .i64 a.m, .int .i64 a.r, .int .i64 a.k], .agg #[.int .i64 b.lo, .int .i64 b.hi, .int .i64 b.m, .int .i64 b.r, .int .i64 b.k]] w fun e w' => e = .returned (.tuple #[.agg #[.int .i64 a.lo, .int .i64 a.hi, .int .i64 a.m, .int .i64 a.r, .int .i64 a.k], .bool true]) ∧ Below w.heap.size w w' := by
  obtain ⟨w0, hw0⟩ : ∃ w0, (((w.alloc (.cells #[.int .i64 a.lo, .int .i64 a.hi, .int .i64 a.m, .int .i64 a.r, .int .i64 a.k] 27)).alloc (.cells #[.int .i64 b.lo, .int .i64 b.hi, .int .i64 b.m, .int .i64 b.r, .int .i64 b.k] 27)).alloc (.cells #[.int .i64 0, .int .i64 0, .int .i64 0, .int .i64 0, .int .i64 0] 27)) = w0 := ⟨_, rfl⟩
  have B0 : Hid (Below w.heap.size w w0) := hidA (by rw [← hw0]; exact (alA (alA (alA (Below.refl _ _) _) _) _))
  have hsz : w.heap.size + 1 + 1 < w0.heap.size := by rw [← hw0]; simp
  have PK : Hid (∀ W, Below w0.heap.size w0 W → abF W (w.heap.size) a (abF W (w.heap.size + 1) b (W.cell? ⟨w.heap.size + 1 + 1, 0, none⟩ = some (.int .i64 0) ∧ W.cell? ⟨w.heap.size + 1 + 1, 1, none⟩ = some (.int .i64 0) ∧ W.cell? ⟨w.heap.size + 1 + 1, 2, none⟩ = some (.int .i64 0) ∧ W.cell? ⟨w.heap.size + 1 + 1, 3, none⟩ = some (.int .i64 0) ∧ W.cell? ⟨w.heap.size + 1 + 1, 4, none⟩ = some (.int .i64 0) ∧ w.heap.size < W.heap.size ∧ w.heap.size + 1 < W.heap.size ∧ w.heap.size + 1 + 1 < W.heap.size ∧ (∀ i, W.frozen? ⟨w.heap.size + 1 + 1, i, none⟩ = false)))) := hidA (fun W hW => by and_intros <;> first | exact cellA hW (by rw [← hw0]; simp [go_sem]) | exact (by have h0 := hW.size; have h1 := hsz; omega) | exact (fun i => (hW.frozen (p := ⟨w.heap.size + 1 + 1, i, none⟩) (show w.heap.size + 1 + 1 < w0.heap.size by have h1 := hsz; omega)).trans (by rw [← hw0]; simp [go_sem])))
  have Hw := hidA hw0; clear hw0
  go_enter Try.func98, Try.ntmps98
  go_wp2_with fail
  rw [Hw.out]
  clear Hw
  have HS : Hid (Below w0.heap.size w0 w0) := hidA (Below.refl _ _)
  obtain ⟨c0, c1, c2, c3, c4, c5, c6, c7, c8, c9, c10, c11, c12, c13, c14, z0, z1, z2, fr2⟩ := PK.out _ HS.out
  go_wp2_with (first | (go_at_call 48; (with_reducible refine (CS.out _).mono ?_); rintro e w1 ⟨rfl, hb⟩; have hsE := HS.out; have leE := HS.out.size; have hs1 : Below w0.heap.size w0 w1 := stepA (by repeat (first | with_reducible assumption | with_reducible exact Below.refl _ _ | with_reducible refine Below.setCell ?_ (by first | omega | (dsimp only; omega) | (simp; done) | (simp; omega)) _ | with_reducible refine Below.alloc ?_ (by first | omega | (dsimp only; omega) | (simp; done) | (simp; omega)) _ | with_reducible refine Below.drew ?_)) hb; clear hb hsE leE; clear HS; have HS := hidA hs1; clear hs1 c0 c1 c2 c3 c4 c5 c6 c7 c8 c9 c10 c11 c12 c13 c14 z0 z1 z2 fr2; obtain ⟨c0, c1, c2, c3, c4, c5, c6, c7, c8, c9, c10, c11, c12, c13, c14, z0, z1, z2, fr2⟩ := PK.out _ HS.out))
  exact bodyPost_ret (v := .tuple #[.agg #[.int .i64 a.lo, .int .i64 a.hi, .int .i64 a.m, .int .i64 a.r, .int .i64 a.k], .bool true]) (by simp [results, Try.results98, go_sem, c10, c11, c12, c13, c14, z2, fr2]) rfl ⟨by rfl, (by repeat (first | with_reducible exact Below.refl _ _ | with_reducible exact HS.out | with_reducible exact B0.out | with_reducible refine Below.setCell ?_ (by first | omega | (dsimp only; omega) | (simp; done) | (simp; omega)) _ | with_reducible refine Below.alloc ?_ (by first | omega | (dsimp only; omega) | (simp; done) | (simp; omega)) _ | with_reducible refine Below.drew ?_ | with_reducible refine drewnA ?_ _ | with_reducible refine Below.trans ?_ (HS.out.mono (by first | omega | (dsimp only; omega) | (simp; done) | (simp; omega))) | with_reducible refine Below.trans ?_ (B0.out.mono (by first | omega | (dsimp only; omega) | (simp; done) | (simp; omega)))))⟩
end
end Go.Proofs.Ytdopjadlbhacfaa

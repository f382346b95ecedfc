import Derived.Test.YtdopjadlbhacfaaBpw
import Derived.Test.YtdopjadlbhacfaaBn
import Derived.Deep.Cut
import Derived.Deep.DeepCutAuto
namespace Go.Proofs.Ytdopjadlbhacfaa
section
open Go.RowKit Go.Instr Sp
set_option linter.unusedVariables false
set_option linter.unusedSimpArgs false

/-! span's parts that a comparison leaves, two together. -/
set_option maxRecDepth 100000 in
set_option maxHeartbeats 4000000 in
theorem ord_w (a b : Ab) (i j : Bool) (xl xh xm xr yl yh ym yr : Int) (d p q : Int) (ep : IntKind.i64.wrap (b.hi - d) = p) (eq : IntKind.i64.wrap (a.lo + d) = q) (C1 : Hid (∀ w, Calls Try.prog 97 #[.agg #[.int .i64 a.lo, .int .i64 a.hi, .int .i64 a.m, .int .i64 a.r, .int .i64 a.k], .int .i64 a.lo, .int .i64 p] w fun e w' => e = .returned (.tuple #[.agg #[.int .i64 xl, .int .i64 xh, .int .i64 xm, .int .i64 xr, .int .i64 a.k], .bool i]) ∧ Below w.heap.size w w')) (C2 : Hid (∀ w, Calls Try.prog 97 #[.agg #[.int .i64 b.lo, .int .i64 b.hi, .int .i64 b.m, .int .i64 b.r, .int .i64 b.k], .int .i64 q, .int .i64 b.hi] w fun e w' => e = .returned (.tuple #[.agg #[.int .i64 yl, .int .i64 yh, .int .i64 ym, .int .i64 yr, .int .i64 b.k], .bool j]) ∧ Below w.heap.size w w')) (w : World) :
    Calls Try.prog 88 #[.agg #[.int .i64 a.lo, .int .i64 a.hi, .int .i64 a.m, .int .i64 a.r, .int .i64 a.k], .agg #[.int .i64 b.lo, .int .i64 b.hi, .int .i64 b.m, .int .i64 b.r, .int .i64 b.k], .int .i64 d] w fun e w' => e = .returned (.tuple #[.agg #[.int .i64 xl, .int .i64 xh, .int .i64 xm, .int .i64 xr, .int .i64 a.k], .agg #[.int .i64 yl, .int .i64 yh, .int .i64 ym, .int .i64 yr, .int .i64 b.k], .bool (i && j)]) ∧ Below w.heap.size w w' := by
  obtain ⟨w0, hw0⟩ : ∃ w0, ((((w.alloc (.cells #[.int .i64 a.lo, .int .i64 a.hi, .int .i64 a.m, .int .i64 a.r, .int .i64 a.k] 27)).alloc (.cells #[.int .i64 b.lo, .int .i64 b.hi, .int .i64 b.m, .int .i64 b.r, .int .i64 b.k] 27)).alloc (.cells #[.int .i64 0, .int .i64 0, .int .i64 0, .int .i64 0, .int .i64 0] 27)).alloc (.cells #[.int .i64 0, .int .i64 0, .int .i64 0, .int .i64 0, .int .i64 0] 27)) = w0 := ⟨_, rfl⟩
  have B0 : Hid (Below w.heap.size w w0) := hidA (by rw [← hw0]; exact (alA (alA (alA (alA (Below.refl _ _) _) _) _) _))
  have hsz : w.heap.size + 1 + 1 + 1 < w0.heap.size := by rw [← hw0]; simp
  have PK : Hid (∀ W, Below w0.heap.size w0 W → abF W (w.heap.size) a (abF W (w.heap.size + 1) b (W.cell? ⟨w.heap.size + 1 + 1, 0, none⟩ = some (.int .i64 0) ∧ W.cell? ⟨w.heap.size + 1 + 1, 1, none⟩ = some (.int .i64 0) ∧ W.cell? ⟨w.heap.size + 1 + 1, 2, none⟩ = some (.int .i64 0) ∧ W.cell? ⟨w.heap.size + 1 + 1, 3, none⟩ = some (.int .i64 0) ∧ W.cell? ⟨w.heap.size + 1 + 1, 4, none⟩ = some (.int .i64 0) ∧ W.cell? ⟨w.heap.size + 1 + 1 + 1, 0, none⟩ = some (.int .i64 0) ∧ W.cell? ⟨w.heap.size + 1 + 1 + 1, 1, none⟩ = some (.int .i64 0) ∧ W.cell? ⟨w.heap.size + 1 + 1 + 1, 2, none⟩ = some (.int .i64 0) ∧ W.cell? ⟨w.heap.size + 1 + 1 + 1, 3, none⟩ = some (.int .i64 0) ∧ W.cell? ⟨w.heap.size + 1 + 1 + 1, 4, none⟩ = some (.int .i64 0) ∧ w.heap.size < W.heap.size ∧ w.heap.size + 1 < W.heap.size ∧ w.heap.size + 1 + 1 < W.heap.size ∧ w.heap.size + 1 + 1 + 1 < W.heap.size ∧ (∀ i, W.frozen? ⟨w.heap.size + 1 + 1, i, none⟩ = false) ∧ (∀ i, W.frozen? ⟨w.heap.size + 1 + 1 + 1, i, none⟩ = false)))) := hidA (fun W hW => by and_intros <;> first | exact cellA hW (by rw [← hw0]; simp [go_sem]) | exact (by have h0 := hW.size; have h1 := hsz; omega) | exact (fun i => (hW.frozen (p := ⟨w.heap.size + 1 + 1, i, none⟩) (show w.heap.size + 1 + 1 < w0.heap.size by have h1 := hsz; omega)).trans (by rw [← hw0]; simp [go_sem])) | exact (fun i => (hW.frozen (p := ⟨w.heap.size + 1 + 1 + 1, i, none⟩) (show w.heap.size + 1 + 1 + 1 < w0.heap.size by have h1 := hsz; omega)).trans (by rw [← hw0]; simp [go_sem])))
  have Hw := hidA hw0; clear hw0
  go_enter Try.func88, Try.ntmps88
  go_wp2_with fail
  rw [Hw.out]
  clear Hw
  have HS : Hid (Below w0.heap.size w0 w0) := hidA (Below.refl _ _)
  obtain ⟨c0, c1, c2, c3, c4, c5, c6, c7, c8, c9, c10, c11, c12, c13, c14, c15, c16, c17, c18, c19, z0, z1, z2, z3, fr2, fr3⟩ := PK.out _ HS.out
  go_upto_region 2 with ((go_at_call 97; (with_reducible refine (C1.out _).mono ?_); rintro e w1 ⟨rfl, hb⟩; have hsE := HS.out; have leE := HS.out.size; have hs1 : Below w0.heap.size w0 w1 := stepA (by repeat (first | with_reducible assumption | with_reducible exact Below.refl _ _ | with_reducible refine Below.setCell ?_ (by first | omega | (dsimp only; omega) | (simp; done) | (simp; omega)) _ | with_reducible refine Below.alloc ?_ (by first | omega | (dsimp only; omega) | (simp; done) | (simp; omega)) _ | with_reducible refine Below.drew ?_)) hb; clear hb hsE leE; clear HS; have HS := hidA hs1; clear hs1 c0 c1 c2 c3 c4 c5 c6 c7 c8 c9 c10 c11 c12 c13 c14 c15 c16 c17 c18 c19 z0 z1 z2 z3 fr2 fr3; obtain ⟨c0, c1, c2, c3, c4, c5, c6, c7, c8, c9, c10, c11, c12, c13, c14, c15, c16, c17, c18, c19, z0, z1, z2, z3, fr2, fr3⟩ := PK.out _ HS.out))
  obtain ⟨g, hd⟩ : ∃ d, w1.heap.size = d := ⟨_, rfl⟩
  obtain ⟨w2, hw2⟩ : ∃ w2, w1.alloc (.cells #[.int .i64 xl, .int .i64 xh, .int .i64 xm, .int .i64 xr, .int .i64 a.k] 27) = w2 := ⟨_, rfl⟩
  have U : Hid (Below w1.heap.size w1 w2) := hidA (alloc_is2 hw2)
  have D := row_is2 hw2
  have lg : w.heap.size + 1 + 1 + 1 < g := by rw [← hd]; assumption
  have FG : Hid (∀ i, w2.frozen? ⟨g, i, none⟩ = false) := hidA (by intro i; rw [← hw2, ← hd]; simp [go_sem])
  rw [hw2]
  try rw [hd]
  rw [hd] at D
  clear hw2 hd
  have hs1 := stepA HS.out U.out
  clear U
  clear HS; have HS := hidA hs1; clear hs1 c0 c1 c2 c3 c4 c5 c6 c7 c8 c9 c10 c11 c12 c13 c14 c15 c16 c17 c18 c19 z0 z1 z2 z3 fr2 fr3; obtain ⟨c0, c1, c2, c3, c4, c5, c6, c7, c8, c9, c10, c11, c12, c13, c14, c15, c16, c17, c18, c19, z0, z1, z2, z3, fr2, fr3⟩ := PK.out _ HS.out
  have D0 := hidA (D 0 _ rfl)
  have D1 := hidA (D 1 _ rfl)
  have D2 := hidA (D 2 _ rfl)
  have D3 := hidA (D 3 _ rfl)
  have D4 := hidA (D 4 _ rfl)
  clear D
  have N0 := hidA c0
  have N1 := hidA c1
  have N2 := hidA c2
  have N3 := hidA c3
  have N4 := hidA c4
  have M0 := hidA c5
  have M1 := hidA c6
  have M2 := hidA c7
  have M3 := hidA c8
  have M4 := hidA c9
  have Z0 := hidA c10
  have Z1 := hidA c11
  have Z2 := hidA c12
  have Z3 := hidA c13
  have Z4 := hidA c14
  have V0 := hidA c15
  have V1 := hidA c16
  have V2 := hidA c17
  have V3 := hidA c18
  have V4 := hidA c19
  have FZ := hidA fr2
  have FV := hidA fr3
  clear c0 c1 c2 c3 c4 c5 c6 c7 c8 c9 c10 c11 c12 c13 c14 c15 c16 c17 c18 c19 z0 z1 z2 z3 fr2 fr3
  have BW := hidA (B0.out.trans (HS.out.mono B0.out.size))
  have BN : Hid (Below w.heap.size w w2) := hidA BW.out
  have leW : w.heap.size ≤ w2.heap.size := BN.out.size
  have hszb2 : w.heap.size + 1 + 1 < w2.heap.size := World.block_lt_of_cell? _ _ Z0.out
  have hszb3 : w.heap.size + 1 + 1 + 1 < w2.heap.size := World.block_lt_of_cell? _ _ V0.out
  clear B0 PK HS
  have PK : Hid (∀ V, Below w2.heap.size w2 V → abF V (w.heap.size) a (abF V (w.heap.size + 1) b (V.cell? ⟨w.heap.size + 1 + 1, 0, none⟩ = some (.int .i64 0) ∧ V.cell? ⟨w.heap.size + 1 + 1, 1, none⟩ = some (.int .i64 0) ∧ V.cell? ⟨w.heap.size + 1 + 1, 2, none⟩ = some (.int .i64 0) ∧ V.cell? ⟨w.heap.size + 1 + 1, 3, none⟩ = some (.int .i64 0) ∧ V.cell? ⟨w.heap.size + 1 + 1, 4, none⟩ = some (.int .i64 0) ∧ V.cell? ⟨w.heap.size + 1 + 1 + 1, 0, none⟩ = some (.int .i64 0) ∧ V.cell? ⟨w.heap.size + 1 + 1 + 1, 1, none⟩ = some (.int .i64 0) ∧ V.cell? ⟨w.heap.size + 1 + 1 + 1, 2, none⟩ = some (.int .i64 0) ∧ V.cell? ⟨w.heap.size + 1 + 1 + 1, 3, none⟩ = some (.int .i64 0) ∧ V.cell? ⟨w.heap.size + 1 + 1 + 1, 4, none⟩ = some (.int .i64 0) ∧ V.cell? ⟨g, 0, none⟩ = some (.int .i64 xl) ∧ V.cell? ⟨g, 1, none⟩ = some (.int .i64 xh) ∧ V.cell? ⟨g, 2, none⟩ = some (.int .i64 xm) ∧ V.cell? ⟨g, 3, none⟩ = some (.int .i64 xr) ∧ V.cell? ⟨g, 4, none⟩ = some (.int .i64 a.k) ∧ w.heap.size < V.heap.size ∧ w.heap.size + 1 < V.heap.size ∧ w.heap.size + 1 + 1 < V.heap.size ∧ w.heap.size + 1 + 1 + 1 < V.heap.size ∧ g < V.heap.size ∧ (∀ i, V.frozen? ⟨w.heap.size + 1 + 1, i, none⟩ = false) ∧ (∀ i, V.frozen? ⟨w.heap.size + 1 + 1 + 1, i, none⟩ = false)))) := hidA (fun V hW => ⟨cellA hW N0.out, cellA hW N1.out, cellA hW N2.out, cellA hW N3.out, cellA hW N4.out, cellA hW M0.out, cellA hW M1.out, cellA hW M2.out, cellA hW M3.out, cellA hW M4.out, cellA hW Z0.out, cellA hW Z1.out, cellA hW Z2.out, cellA hW Z3.out, cellA hW Z4.out, cellA hW V0.out, cellA hW V1.out, cellA hW V2.out, cellA hW V3.out, cellA hW V4.out, cellA hW D0.out, cellA hW D1.out, cellA hW D2.out, cellA hW D3.out, cellA hW D4.out, Nat.lt_of_lt_of_le (World.block_lt_of_cell? _ _ N0.out) hW.size, Nat.lt_of_lt_of_le (World.block_lt_of_cell? _ _ M0.out) hW.size, Nat.lt_of_lt_of_le (World.block_lt_of_cell? _ _ Z0.out) hW.size, Nat.lt_of_lt_of_le (World.block_lt_of_cell? _ _ V0.out) hW.size, Nat.lt_of_lt_of_le (World.block_lt_of_cell? _ _ D0.out) hW.size, (fun i => (hW.frozen (p := ⟨w.heap.size + 1 + 1, i, none⟩) (show w.heap.size + 1 + 1 < w2.heap.size from World.block_lt_of_cell? _ _ Z0.out)).trans (FZ.out i)), (fun i => (hW.frozen (p := ⟨w.heap.size + 1 + 1 + 1, i, none⟩) (show w.heap.size + 1 + 1 + 1 < w2.heap.size from World.block_lt_of_cell? _ _ V0.out)).trans (FV.out i))⟩)
  clear N0 N1 N2 N3 N4 M0 M1 M2 M3 M4 Z0 Z1 Z2 Z3 Z4 V0 V1 V2 V3 V4 D0 D1 D2 D3 D4 FZ FV
  have B0 := BN
  clear BN
  have HS : Hid (Below w2.heap.size w2 w2) := hidA (Below.refl _ _)
  generalize w2 = w0 at *
  obtain ⟨c0, c1, c2, c3, c4, c5, c6, c7, c8, c9, c10, c11, c12, c13, c14, c15, c16, c17, c18, c19, c20, c21, c22, c23, c24, z0, z1, z2, z3, z4, fr2, fr3⟩ := PK.out _ HS.out
  clear BW
  go_upto_region 3 with ((go_at_call 97; (with_reducible refine (C2.out _).mono ?_); rintro e w1 ⟨rfl, hb⟩; have hsE := HS.out; have leE := HS.out.size; have hs1 : Below w0.heap.size w0 w1 := stepA (by repeat (first | with_reducible assumption | with_reducible exact Below.refl _ _ | with_reducible refine Below.setCell ?_ (by first | omega | (dsimp only; omega) | (simp; done) | (simp; omega)) _ | with_reducible refine Below.alloc ?_ (by first | omega | (dsimp only; omega) | (simp; done) | (simp; omega)) _ | with_reducible refine Below.drew ?_)) hb; clear hb hsE leE; clear HS; have HS := hidA hs1; clear hs1 c0 c1 c2 c3 c4 c5 c6 c7 c8 c9 c10 c11 c12 c13 c14 c15 c16 c17 c18 c19 c20 c21 c22 c23 c24 z0 z1 z2 z3 z4 fr2 fr3; obtain ⟨c0, c1, c2, c3, c4, c5, c6, c7, c8, c9, c10, c11, c12, c13, c14, c15, c16, c17, c18, c19, c20, c21, c22, c23, c24, z0, z1, z2, z3, z4, fr2, fr3⟩ := PK.out _ HS.out))
  obtain ⟨h, hd⟩ : ∃ d, w1.heap.size = d := ⟨_, rfl⟩
  obtain ⟨w2, hw2⟩ : ∃ w2, w1.alloc (.cells #[.int .i64 yl, .int .i64 yh, .int .i64 ym, .int .i64 yr, .int .i64 b.k] 27) = w2 := ⟨_, rfl⟩
  have U : Hid (Below w1.heap.size w1 w2) := hidA (alloc_is2 hw2)
  have D := row_is2 hw2
  have lh : g < h := by rw [← hd]; assumption
  have FH : Hid (∀ i, w2.frozen? ⟨h, i, none⟩ = false) := hidA (by intro i; rw [← hw2, ← hd]; simp [go_sem])
  rw [hw2]
  try rw [hd]
  rw [hd] at D
  clear hw2 hd
  have hs1 := stepA HS.out U.out
  clear U
  clear HS; have HS := hidA hs1; clear hs1 c0 c1 c2 c3 c4 c5 c6 c7 c8 c9 c10 c11 c12 c13 c14 c15 c16 c17 c18 c19 c20 c21 c22 c23 c24 z0 z1 z2 z3 z4 fr2 fr3; obtain ⟨c0, c1, c2, c3, c4, c5, c6, c7, c8, c9, c10, c11, c12, c13, c14, c15, c16, c17, c18, c19, c20, c21, c22, c23, c24, z0, z1, z2, z3, z4, fr2, fr3⟩ := PK.out _ HS.out
  have D0 := hidA (D 0 _ rfl)
  have D1 := hidA (D 1 _ rfl)
  have D2 := hidA (D 2 _ rfl)
  have D3 := hidA (D 3 _ rfl)
  have D4 := hidA (D 4 _ rfl)
  clear D
  have Z0 := hidA c10
  have Z1 := hidA c11
  have Z2 := hidA c12
  have Z3 := hidA c13
  have Z4 := hidA c14
  have V0 := hidA c15
  have V1 := hidA c16
  have V2 := hidA c17
  have V3 := hidA c18
  have V4 := hidA c19
  have X0 := hidA c20
  have X1 := hidA c21
  have X2 := hidA c22
  have X3 := hidA c23
  have X4 := hidA c24
  have FZ := hidA fr2
  have FV := hidA fr3
  clear c0 c1 c2 c3 c4 c5 c6 c7 c8 c9 c10 c11 c12 c13 c14 c15 c16 c17 c18 c19 c20 c21 c22 c23 c24 z0 z1 z2 z3 z4 fr2 fr3
  have BW := hidA (B0.out.trans (HS.out.mono B0.out.size))
  have BN : Hid (Below w.heap.size w w2) := hidA BW.out
  have leW : w.heap.size ≤ w2.heap.size := BN.out.size
  have hszb0 : w.heap.size + 1 + 1 < w2.heap.size := World.block_lt_of_cell? _ _ Z0.out
  have hszb1 : w.heap.size + 1 + 1 + 1 < w2.heap.size := World.block_lt_of_cell? _ _ V0.out
  clear B0 PK HS
  have PK : Hid (∀ V, Below w2.heap.size w2 V → V.cell? ⟨w.heap.size + 1 + 1, 0, none⟩ = some (.int .i64 0) ∧ V.cell? ⟨w.heap.size + 1 + 1, 1, none⟩ = some (.int .i64 0) ∧ V.cell? ⟨w.heap.size + 1 + 1, 2, none⟩ = some (.int .i64 0) ∧ V.cell? ⟨w.heap.size + 1 + 1, 3, none⟩ = some (.int .i64 0) ∧ V.cell? ⟨w.heap.size + 1 + 1, 4, none⟩ = some (.int .i64 0) ∧ V.cell? ⟨w.heap.size + 1 + 1 + 1, 0, none⟩ = some (.int .i64 0) ∧ V.cell? ⟨w.heap.size + 1 + 1 + 1, 1, none⟩ = some (.int .i64 0) ∧ V.cell? ⟨w.heap.size + 1 + 1 + 1, 2, none⟩ = some (.int .i64 0) ∧ V.cell? ⟨w.heap.size + 1 + 1 + 1, 3, none⟩ = some (.int .i64 0) ∧ V.cell? ⟨w.heap.size + 1 + 1 + 1, 4, none⟩ = some (.int .i64 0) ∧ V.cell? ⟨g, 0, none⟩ = some (.int .i64 xl) ∧ V.cell? ⟨g, 1, none⟩ = some (.int .i64 xh) ∧ V.cell? ⟨g, 2, none⟩ = some (.int .i64 xm) ∧ V.cell? ⟨g, 3, none⟩ = some (.int .i64 xr) ∧ V.cell? ⟨g, 4, none⟩ = some (.int .i64 a.k) ∧ V.cell? ⟨h, 0, none⟩ = some (.int .i64 yl) ∧ V.cell? ⟨h, 1, none⟩ = some (.int .i64 yh) ∧ V.cell? ⟨h, 2, none⟩ = some (.int .i64 ym) ∧ V.cell? ⟨h, 3, none⟩ = some (.int .i64 yr) ∧ V.cell? ⟨h, 4, none⟩ = some (.int .i64 b.k) ∧ w.heap.size + 1 + 1 < V.heap.size ∧ w.heap.size + 1 + 1 + 1 < V.heap.size ∧ g < V.heap.size ∧ h < V.heap.size ∧ (∀ i, V.frozen? ⟨w.heap.size + 1 + 1, i, none⟩ = false) ∧ (∀ i, V.frozen? ⟨w.heap.size + 1 + 1 + 1, i, none⟩ = false)) := hidA (fun V hW => ⟨cellA hW Z0.out, cellA hW Z1.out, cellA hW Z2.out, cellA hW Z3.out, cellA hW Z4.out, cellA hW V0.out, cellA hW V1.out, cellA hW V2.out, cellA hW V3.out, cellA hW V4.out, cellA hW X0.out, cellA hW X1.out, cellA hW X2.out, cellA hW X3.out, cellA hW X4.out, cellA hW D0.out, cellA hW D1.out, cellA hW D2.out, cellA hW D3.out, cellA hW D4.out, Nat.lt_of_lt_of_le (World.block_lt_of_cell? _ _ Z0.out) hW.size, Nat.lt_of_lt_of_le (World.block_lt_of_cell? _ _ V0.out) hW.size, Nat.lt_of_lt_of_le (World.block_lt_of_cell? _ _ X0.out) hW.size, Nat.lt_of_lt_of_le (World.block_lt_of_cell? _ _ D0.out) hW.size, (fun i => (hW.frozen (p := ⟨w.heap.size + 1 + 1, i, none⟩) (show w.heap.size + 1 + 1 < w2.heap.size from World.block_lt_of_cell? _ _ Z0.out)).trans (FZ.out i)), (fun i => (hW.frozen (p := ⟨w.heap.size + 1 + 1 + 1, i, none⟩) (show w.heap.size + 1 + 1 + 1 < w2.heap.size from World.block_lt_of_cell? _ _ V0.out)).trans (FV.out i))⟩)
  clear Z0 Z1 Z2 Z3 Z4 V0 V1 V2 V3 V4 X0 X1 X2 X3 X4 D0 D1 D2 D3 D4 FZ FV
  have B0 := BN
  clear BN
  have HS : Hid (Below w2.heap.size w2 w2) := hidA (Below.refl _ _)
  generalize w2 = w0 at *
  obtain ⟨c0, c1, c2, c3, c4, c5, c6, c7, c8, c9, c10, c11, c12, c13, c14, c15, c16, c17, c18, c19, z0, z1, z2, z3, fr0, fr1⟩ := PK.out _ HS.out
  clear BW
  have n1 : ¬ w.heap.size + 1 + 1 = g := by omega
  have n2 : ¬ g = w.heap.size + 1 + 1 := by omega
  have n3 : ¬ w.heap.size + 1 + 1 + 1 = g := by omega
  have n4 : ¬ g = w.heap.size + 1 + 1 + 1 := by omega
  have n5 : ¬ w.heap.size + 1 + 1 = h := by omega
  have n6 : ¬ h = w.heap.size + 1 + 1 := by omega
  have n7 : ¬ w.heap.size + 1 + 1 + 1 = h := by omega
  have n8 : ¬ h = w.heap.size + 1 + 1 + 1 := by omega
  go_wp2_with fail
  cases i <;> cases j
  all_goals
    go_region
    all_goals
      go_wp2
      first
        | exact bodyPost_ret (v := .tuple #[.agg #[.int .i64 xl, .int .i64 xh, .int .i64 xm, .int .i64 xr, .int .i64 a.k], .agg #[.int .i64 yl, .int .i64 yh, .int .i64 ym, .int .i64 yr, .int .i64 b.k], .bool true]) (by simp [results, Try.results88, go_sem, c0, c1, c2, c3, c4, c5, c6, c7, c8, c9, z0, z1, fr0, fr1, n1, n2, n3, n4, n5, n6, n7, n8]) rfl ⟨by rfl, (by repeat (first | with_reducible exact Below.refl _ _ | with_reducible exact HS.out | with_reducible exact B0.out | with_reducible refine Below.setCell ?_ (by first | omega | (dsimp only; omega) | (simp; done) | (simp; omega)) _ | with_reducible refine Below.alloc ?_ (by first | omega | (dsimp only; omega) | (simp; done) | (simp; omega)) _ | with_reducible refine Below.drew ?_ | with_reducible refine drewnA ?_ _ | with_reducible refine Below.trans ?_ (HS.out.mono (by first | omega | (dsimp only; omega) | (simp; done) | (simp; omega))) | with_reducible refine Below.trans ?_ (B0.out.mono (by first | omega | (dsimp only; omega) | (simp; done) | (simp; omega)))))⟩
        | exact bodyPost_ret (v := .tuple #[.agg #[.int .i64 xl, .int .i64 xh, .int .i64 xm, .int .i64 xr, .int .i64 a.k], .agg #[.int .i64 yl, .int .i64 yh, .int .i64 ym, .int .i64 yr, .int .i64 b.k], .bool false]) (by simp [results, Try.results88, go_sem, c0, c1, c2, c3, c4, c5, c6, c7, c8, c9, z0, z1, fr0, fr1, n1, n2, n3, n4, n5, n6, n7, n8]) rfl ⟨by rfl, (by repeat (first | with_reducible exact Below.refl _ _ | with_reducible exact HS.out | with_reducible exact B0.out | with_reducible refine Below.setCell ?_ (by first | omega | (dsimp only; omega) | (simp; done) | (simp; omega)) _ | with_reducible refine Below.alloc ?_ (by first | omega | (dsimp only; omega) | (simp; done) | (simp; omega)) _ | with_reducible refine Below.drew ?_ | with_reducible refine drewnA ?_ _ | with_reducible refine Below.trans ?_ (HS.out.mono (by first | omega | (dsimp only; omega) | (simp; done) | (simp; omega))) | with_reducible refine Below.trans ?_ (B0.out.mono (by first | omega | (dsimp only; omega) | (simp; done) | (simp; omega)))))⟩
set_option maxRecDepth 100000 in
set_option maxHeartbeats 4000000 in
theorem dif_w (a b : Ab) (i j : Bool) (xl xh xm xr yl yh ym yr : Int) (C1 : Hid (∀ w, Calls Try.prog 98 #[.agg #[.int .i64 a.lo, .int .i64 a.hi, .int .i64 a.m, .int .i64 a.r, .int .i64 a.k], .agg #[.int .i64 b.lo, .int .i64 b.hi, .int .i64 b.m, .int .i64 b.r, .int .i64 b.k]] w fun e w' => e = .returned (.tuple #[.agg #[.int .i64 xl, .int .i64 xh, .int .i64 xm, .int .i64 xr, .int .i64 a.k], .bool i]) ∧ Below w.heap.size w w')) (C2 : Hid (∀ w, Calls Try.prog 98 #[.agg #[.int .i64 b.lo, .int .i64 b.hi, .int .i64 b.m, .int .i64 b.r, .int .i64 b.k], .agg #[.int .i64 xl, .int .i64 xh, .int .i64 xm, .int .i64 xr, .int .i64 a.k]] w fun e w' => e = .returned (.tuple #[.agg #[.int .i64 yl, .int .i64 yh, .int .i64 ym, .int .i64 yr, .int .i64 b.k], .bool j]) ∧ Below w.heap.size w w')) (w : World) :
    Calls Try.prog 90 #[.agg #[.int .i64 a.lo, .int .i64 a.hi, .int .i64 a.m, .int .i64 a.r, .int .i64 a.k], .agg #[.int .i64 b.lo, .int .i64 b.hi, .int .i64 b.m, .int .i64 b.r, .int .i64 b.k]] w fun e w' => e = .returned (.tuple #[.agg #[.int .i64 xl, .int .i64 xh, .int .i64 xm, .int .i64 xr, .int .i64 a.k], .agg #[.int .i64 yl, .int .i64 yh, .int .i64 ym, .int .i64 yr, .int .i64 b.k], .bool (i && j)]) ∧ Below w.heap.size w w' := by
  obtain ⟨w0, hw0⟩ : ∃ w0, ((((w.alloc (.cells #[.int .i64 a.lo, .int .i64 a.hi, .int .i64 a.m, .int .i64 a.r, .int .i64 a.k] 27)).alloc (.cells #[.int .i64 b.lo, .int .i64 b.hi, .int .i64 b.m, .int .i64 b.r, .int .i64 b.k] 27)).alloc (.cells #[.int .i64 0, .int .i64 0, .int .i64 0, .int .i64 0, .int .i64 0] 27)).alloc (.cells #[.int .i64 0, .int .i64 0, .int .i64 0, .int .i64 0, .int .i64 0] 27)) = w0 := ⟨_, rfl⟩
  have B0 : Hid (Below w.heap.size w w0) := hidA (by rw [← hw0]; exact (alA (alA (alA (alA (Below.refl _ _) _) _) _) _))
  have hsz : w.heap.size + 1 + 1 + 1 < w0.heap.size := by rw [← hw0]; simp
  have PK : Hid (∀ W, Below w0.heap.size w0 W → abF W (w.heap.size) a (abF W (w.heap.size + 1) b (W.cell? ⟨w.heap.size + 1 + 1, 0, none⟩ = some (.int .i64 0) ∧ W.cell? ⟨w.heap.size + 1 + 1, 1, none⟩ = some (.int .i64 0) ∧ W.cell? ⟨w.heap.size + 1 + 1, 2, none⟩ = some (.int .i64 0) ∧ W.cell? ⟨w.heap.size + 1 + 1, 3, none⟩ = some (.int .i64 0) ∧ W.cell? ⟨w.heap.size + 1 + 1, 4, none⟩ = some (.int .i64 0) ∧ W.cell? ⟨w.heap.size + 1 + 1 + 1, 0, none⟩ = some (.int .i64 0) ∧ W.cell? ⟨w.heap.size + 1 + 1 + 1, 1, none⟩ = some (.int .i64 0) ∧ W.cell? ⟨w.heap.size + 1 + 1 + 1, 2, none⟩ = some (.int .i64 0) ∧ W.cell? ⟨w.heap.size + 1 + 1 + 1, 3, none⟩ = some (.int .i64 0) ∧ W.cell? ⟨w.heap.size + 1 + 1 + 1, 4, none⟩ = some (.int .i64 0) ∧ w.heap.size < W.heap.size ∧ w.heap.size + 1 < W.heap.size ∧ w.heap.size + 1 + 1 < W.heap.size ∧ w.heap.size + 1 + 1 + 1 < W.heap.size ∧ (∀ i, W.frozen? ⟨w.heap.size + 1 + 1, i, none⟩ = false) ∧ (∀ i, W.frozen? ⟨w.heap.size + 1 + 1 + 1, i, none⟩ = false)))) := hidA (fun W hW => by and_intros <;> first | exact cellA hW (by rw [← hw0]; simp [go_sem]) | exact (by have h0 := hW.size; have h1 := hsz; omega) | exact (fun i => (hW.frozen (p := ⟨w.heap.size + 1 + 1, i, none⟩) (show w.heap.size + 1 + 1 < w0.heap.size by have h1 := hsz; omega)).trans (by rw [← hw0]; simp [go_sem])) | exact (fun i => (hW.frozen (p := ⟨w.heap.size + 1 + 1 + 1, i, none⟩) (show w.heap.size + 1 + 1 + 1 < w0.heap.size by have h1 := hsz; omega)).trans (by rw [← hw0]; simp [go_sem])))
  have Hw := hidA hw0; clear hw0
  go_enter Try.func90, Try.ntmps90
  go_wp2_with fail
  rw [Hw.out]
  clear Hw
  have HS : Hid (Below w0.heap.size w0 w0) := hidA (Below.refl _ _)
  obtain ⟨c0, c1, c2, c3, c4, c5, c6, c7, c8, c9, c10, c11, c12, c13, c14, c15, c16, c17, c18, c19, z0, z1, z2, z3, fr2, fr3⟩ := PK.out _ HS.out
  go_upto_region 2 with ((go_at_call 98; (with_reducible refine (C1.out _).mono ?_); rintro e w1 ⟨rfl, hb⟩; have hsE := HS.out; have leE := HS.out.size; have hs1 : Below w0.heap.size w0 w1 := stepA (by repeat (first | with_reducible assumption | with_reducible exact Below.refl _ _ | with_reducible refine Below.setCell ?_ (by first | omega | (dsimp only; omega) | (simp; done) | (simp; omega)) _ | with_reducible refine Below.alloc ?_ (by first | omega | (dsimp only; omega) | (simp; done) | (simp; omega)) _ | with_reducible refine Below.drew ?_)) hb; clear hb hsE leE; clear HS; have HS := hidA hs1; clear hs1 c0 c1 c2 c3 c4 c5 c6 c7 c8 c9 c10 c11 c12 c13 c14 c15 c16 c17 c18 c19 z0 z1 z2 z3 fr2 fr3; obtain ⟨c0, c1, c2, c3, c4, c5, c6, c7, c8, c9, c10, c11, c12, c13, c14, c15, c16, c17, c18, c19, z0, z1, z2, z3, fr2, fr3⟩ := PK.out _ HS.out))
  obtain ⟨g, hd⟩ : ∃ d, w1.heap.size = d := ⟨_, rfl⟩
  obtain ⟨w2, hw2⟩ : ∃ w2, w1.alloc (.cells #[.int .i64 xl, .int .i64 xh, .int .i64 xm, .int .i64 xr, .int .i64 a.k] 27) = w2 := ⟨_, rfl⟩
  have U : Hid (Below w1.heap.size w1 w2) := hidA (alloc_is2 hw2)
  have D := row_is2 hw2
  have lg : w.heap.size + 1 + 1 + 1 < g := by rw [← hd]; assumption
  have FG : Hid (∀ i, w2.frozen? ⟨g, i, none⟩ = false) := hidA (by intro i; rw [← hw2, ← hd]; simp [go_sem])
  rw [hw2]
  try rw [hd]
  rw [hd] at D
  clear hw2 hd
  have hs1 := stepA HS.out U.out
  clear U
  clear HS; have HS := hidA hs1; clear hs1 c0 c1 c2 c3 c4 c5 c6 c7 c8 c9 c10 c11 c12 c13 c14 c15 c16 c17 c18 c19 z0 z1 z2 z3 fr2 fr3; obtain ⟨c0, c1, c2, c3, c4, c5, c6, c7, c8, c9, c10, c11, c12, c13, c14, c15, c16, c17, c18, c19, z0, z1, z2, z3, fr2, fr3⟩ := PK.out _ HS.out
  have D0 := hidA (D 0 _ rfl)
  have D1 := hidA (D 1 _ rfl)
  have D2 := hidA (D 2 _ rfl)
  have D3 := hidA (D 3 _ rfl)
  have D4 := hidA (D 4 _ rfl)
  clear D
  have N0 := hidA c0
  have N1 := hidA c1
  have N2 := hidA c2
  have N3 := hidA c3
  have N4 := hidA c4
  have M0 := hidA c5
  have M1 := hidA c6
  have M2 := hidA c7
  have M3 := hidA c8
  have M4 := hidA c9
  have Z0 := hidA c10
  have Z1 := hidA c11
  have Z2 := hidA c12
  have Z3 := hidA c13
  have Z4 := hidA c14
  have V0 := hidA c15
  have V1 := hidA c16
  have V2 := hidA c17
  have V3 := hidA c18
  have V4 := hidA c19
  have FZ := hidA fr2
  have FV := hidA fr3
  clear c0 c1 c2 c3 c4 c5 c6 c7 c8 c9 c10 c11 c12 c13 c14 c15 c16 c17 c18 c19 z0 z1 z2 z3 fr2 fr3
  have BW := hidA (B0.out.trans (HS.out.mono B0.out.size))
  have BN : Hid (Below w.heap.size w w2) := hidA BW.out
  have leW : w.heap.size ≤ w2.heap.size := BN.out.size
  have hszb2 : w.heap.size + 1 + 1 < w2.heap.size := World.block_lt_of_cell? _ _ Z0.out
  have hszb3 : w.heap.size + 1 + 1 + 1 < w2.heap.size := World.block_lt_of_cell? _ _ V0.out
  clear B0 PK HS
  have PK : Hid (∀ V, Below w2.heap.size w2 V → abF V (w.heap.size) a (abF V (w.heap.size + 1) b (V.cell? ⟨w.heap.size + 1 + 1, 0, none⟩ = some (.int .i64 0) ∧ V.cell? ⟨w.heap.size + 1 + 1, 1, none⟩ = some (.int .i64 0) ∧ V.cell? ⟨w.heap.size + 1 + 1, 2, none⟩ = some (.int .i64 0) ∧ V.cell? ⟨w.heap.size + 1 + 1, 3, none⟩ = some (.int .i64 0) ∧ V.cell? ⟨w.heap.size + 1 + 1, 4, none⟩ = some (.int .i64 0) ∧ V.cell? ⟨w.heap.size + 1 + 1 + 1, 0, none⟩ = some (.int .i64 0) ∧ V.cell? ⟨w.heap.size + 1 + 1 + 1, 1, none⟩ = some (.int .i64 0) ∧ V.cell? ⟨w.heap.size + 1 + 1 + 1, 2, none⟩ = some (.int .i64 0) ∧ V.cell? ⟨w.heap.size + 1 + 1 + 1, 3, none⟩ = some (.int .i64 0) ∧ V.cell? ⟨w.heap.size + 1 + 1 + 1, 4, none⟩ = some (.int .i64 0) ∧ V.cell? ⟨g, 0, none⟩ = some (.int .i64 xl) ∧ V.cell? ⟨g, 1, none⟩ = some (.int .i64 xh) ∧ V.cell? ⟨g, 2, none⟩ = some (.int .i64 xm) ∧ V.cell? ⟨g, 3, none⟩ = some (.int .i64 xr) ∧ V.cell? ⟨g, 4, none⟩ = some (.int .i64 a.k) ∧ w.heap.size < V.heap.size ∧ w.heap.size + 1 < V.heap.size ∧ w.heap.size + 1 + 1 < V.heap.size ∧ w.heap.size + 1 + 1 + 1 < V.heap.size ∧ g < V.heap.size ∧ (∀ i, V.frozen? ⟨w.heap.size + 1 + 1, i, none⟩ = false) ∧ (∀ i, V.frozen? ⟨w.heap.size + 1 + 1 + 1, i, none⟩ = false)))) := hidA (fun V hW => ⟨cellA hW N0.out, cellA hW N1.out, cellA hW N2.out, cellA hW N3.out, cellA hW N4.out, cellA hW M0.out, cellA hW M1.out, cellA hW M2.out, cellA hW M3.out, cellA hW M4.out, cellA hW Z0.out, cellA hW Z1.out, cellA hW Z2.out, cellA hW Z3.out, cellA hW Z4.out, cellA hW V0.out, cellA hW V1.out, cellA hW V2.out, cellA hW V3.out, cellA hW V4.out, cellA hW D0.out, cellA hW D1.out, cellA hW D2.out, cellA hW D3.out, cellA hW D4.out, Nat.lt_of_lt_of_le (World.block_lt_of_cell? _ _ N0.out) hW.size, Nat.lt_of_lt_of_le (World.block_lt_of_cell? _ _ M0.out) hW.size, Nat.lt_of_lt_of_le (World.block_lt_of_cell? _ _ Z0.out) hW.size, Nat.lt_of_lt_of_le (World.block_lt_of_cell? _ _ V0.out) hW.size, Nat.lt_of_lt_of_le (World.block_lt_of_cell? _ _ D0.out) hW.size, (fun i => (hW.frozen (p := ⟨w.heap.size + 1 + 1, i, none⟩) (show w.heap.size + 1 + 1 < w2.heap.size from World.block_lt_of_cell? _ _ Z0.out)).trans (FZ.out i)), (fun i => (hW.frozen (p := ⟨w.heap.size + 1 + 1 + 1, i, none⟩) (show w.heap.size + 1 + 1 + 1 < w2.heap.size from World.block_lt_of_cell? _ _ V0.out)).trans (FV.out i))⟩)
  clear N0 N1 N2 N3 N4 M0 M1 M2 M3 M4 Z0 Z1 Z2 Z3 Z4 V0 V1 V2 V3 V4 D0 D1 D2 D3 D4 FZ FV
  have B0 := BN
  clear BN
  have HS : Hid (Below w2.heap.size w2 w2) := hidA (Below.refl _ _)
  generalize w2 = w0 at *
  obtain ⟨c0, c1, c2, c3, c4, c5, c6, c7, c8, c9, c10, c11, c12, c13, c14, c15, c16, c17, c18, c19, c20, c21, c22, c23, c24, z0, z1, z2, z3, z4, fr2, fr3⟩ := PK.out _ HS.out
  clear BW
  go_upto_region 3 with ((go_at_call 98; (with_reducible refine (C2.out _).mono ?_); rintro e w1 ⟨rfl, hb⟩; have hsE := HS.out; have leE := HS.out.size; have hs1 : Below w0.heap.size w0 w1 := stepA (by repeat (first | with_reducible assumption | with_reducible exact Below.refl _ _ | with_reducible refine Below.setCell ?_ (by first | omega | (dsimp only; omega) | (simp; done) | (simp; omega)) _ | with_reducible refine Below.alloc ?_ (by first | omega | (dsimp only; omega) | (simp; done) | (simp; omega)) _ | with_reducible refine Below.drew ?_)) hb; clear hb hsE leE; clear HS; have HS := hidA hs1; clear hs1 c0 c1 c2 c3 c4 c5 c6 c7 c8 c9 c10 c11 c12 c13 c14 c15 c16 c17 c18 c19 c20 c21 c22 c23 c24 z0 z1 z2 z3 z4 fr2 fr3; obtain ⟨c0, c1, c2, c3, c4, c5, c6, c7, c8, c9, c10, c11, c12, c13, c14, c15, c16, c17, c18, c19, c20, c21, c22, c23, c24, z0, z1, z2, z3, z4, fr2, fr3⟩ := PK.out _ HS.out))
  obtain ⟨h, hd⟩ : ∃ d, w1.heap.size = d := ⟨_, rfl⟩
  obtain ⟨w2, hw2⟩ : ∃ w2, w1.alloc (.cells #[.int .i64 yl, .int .i64 yh, .int .i64 ym, .int .i64 yr, .int .i64 b.k] 27) = w2 := ⟨_, rfl⟩
  have U : Hid (Below w1.heap.size w1 w2) := hidA (alloc_is2 hw2)
  have D := row_is2 hw2
  have lh : g < h := by rw [← hd]; assumption
  have FH : Hid (∀ i, w2.frozen? ⟨h, i, none⟩ = false) := hidA (by intro i; rw [← hw2, ← hd]; simp [go_sem])
  rw [hw2]
  try rw [hd]
  rw [hd] at D
  clear hw2 hd
  have hs1 := stepA HS.out U.out
  clear U
  clear HS; have HS := hidA hs1; clear hs1 c0 c1 c2 c3 c4 c5 c6 c7 c8 c9 c10 c11 c12 c13 c14 c15 c16 c17 c18 c19 c20 c21 c22 c23 c24 z0 z1 z2 z3 z4 fr2 fr3; obtain ⟨c0, c1, c2, c3, c4, c5, c6, c7, c8, c9, c10, c11, c12, c13, c14, c15, c16, c17, c18, c19, c20, c21, c22, c23, c24, z0, z1, z2, z3, z4, fr2, fr3⟩ := PK.out _ HS.out
  have D0 := hidA (D 0 _ rfl)
  have D1 := hidA (D 1 _ rfl)
  have D2 := hidA (D 2 _ rfl)
  have D3 := hidA (D 3 _ rfl)
  have D4 := hidA (D 4 _ rfl)
  clear D
  have Z0 := hidA c10
  have Z1 := hidA c11
  have Z2 := hidA c12
  have Z3 := hidA c13
  have Z4 := hidA c14
  have V0 := hidA c15
  have V1 := hidA c16
  have V2 := hidA c17
  have V3 := hidA c18
  have V4 := hidA c19
  have X0 := hidA c20
  have X1 := hidA c21
  have X2 := hidA c22
  have X3 := hidA c23
  have X4 := hidA c24
  have FZ := hidA fr2
  have FV := hidA fr3
  clear c0 c1 c2 c3 c4 c5 c6 c7 c8 c9 c10 c11 c12 c13 c14 c15 c16 c17 c18 c19 c20 c21 c22 c23 c24 z0 z1 z2 z3 z4 fr2 fr3
  have BW := hidA (B0.out.trans (HS.out.mono B0.out.size))
  have BN : Hid (Below w.heap.size w w2) := hidA BW.out
  have leW : w.heap.size ≤ w2.heap.size := BN.out.size
  have hszb0 : w.heap.size + 1 + 1 < w2.heap.size := World.block_lt_of_cell? _ _ Z0.out
  have hszb1 : w.heap.size + 1 + 1 + 1 < w2.heap.size := World.block_lt_of_cell? _ _ V0.out
  clear B0 PK HS
  have PK : Hid (∀ V, Below w2.heap.size w2 V → V.cell? ⟨w.heap.size + 1 + 1, 0, none⟩ = some (.int .i64 0) ∧ V.cell? ⟨w.heap.size + 1 + 1, 1, none⟩ = some (.int .i64 0) ∧ V.cell? ⟨w.heap.size + 1 + 1, 2, none⟩ = some (.int .i64 0) ∧ V.cell? ⟨w.heap.size + 1 + 1, 3, none⟩ = some (.int .i64 0) ∧ V.cell? ⟨w.heap.size + 1 + 1, 4, none⟩ = some (.int .i64 0) ∧ V.cell? ⟨w.heap.size + 1 + 1 + 1, 0, none⟩ = some (.int .i64 0) ∧ V.cell? ⟨w.heap.size + 1 + 1 + 1, 1, none⟩ = some (.int .i64 0) ∧ V.cell? ⟨w.heap.size + 1 + 1 + 1, 2, none⟩ = some (.int .i64 0) ∧ V.cell? ⟨w.heap.size + 1 + 1 + 1, 3, none⟩ = some (.int .i64 0) ∧ V.cell? ⟨w.heap.size + 1 + 1 + 1, 4, none⟩ = some (.int .i64 0) ∧ V.cell? ⟨g, 0, none⟩ = some (.int .i64 xl) ∧ V.cell? ⟨g, 1, none⟩ = some (.int .i64 xh) ∧ V.cell? ⟨g, 2, none⟩ = some (.int .i64 xm) ∧ V.cell? ⟨g, 3, none⟩ = some (.int .i64 xr) ∧ V.cell? ⟨g, 4, none⟩ = some (.int .i64 a.k) ∧ V.cell? ⟨h, 0, none⟩ = some (.int .i64 yl) ∧ V.cell? ⟨h, 1, none⟩ = some (.int .i64 yh) ∧ V.cell? ⟨h, 2, none⟩ = some (.int .i64 ym) ∧ V.cell? ⟨h, 3, none⟩ = some (.int .i64 yr) ∧ V.cell? ⟨h, 4, none⟩ = some (.int .i64 b.k) ∧ w.heap.size + 1 + 1 < V.heap.size ∧ w.heap.size + 1 + 1 + 1 < V.heap.size ∧ g < V.heap.size ∧ h < V.heap.size ∧ (∀ i, V.frozen? ⟨w.heap.size + 1 + 1, i, none⟩ = false) ∧ (∀ i, V.frozen? ⟨w.heap.size + 1 + 1 + 1, i, none⟩ = false)) := hidA (fun V hW => ⟨cellA hW Z0.out, cellA hW Z1.out, cellA hW Z2.out, cellA hW Z3.out, cellA hW Z4.out, cellA hW V0.out, cellA hW V1.out, cellA hW V2.out, cellA hW V3.out, cellA hW V4.out, cellA hW X0.out, cellA hW X1.out, cellA hW X2.out, cellA hW X3.out, cellA hW X4.out, cellA hW D0.out, cellA hW D1.out, cellA hW D2.out, cellA hW D3.out, cellA hW D4.out, Nat.lt_of_lt_of_le (World.block_lt_of_cell? _ _ Z0.out) hW.size, Nat.lt_of_lt_of_le (World.block_lt_of_cell? _ _ V0.out) hW.size, Nat.lt_of_lt_of_le (World.block_lt_of_cell? _ _ X0.out) hW.size, Nat.lt_of_lt_of_le (World.block_lt_of_cell? _ _ D0.out) hW.size, (fun i => (hW.frozen (p := ⟨w.heap.size + 1 + 1, i, none⟩) (show w.heap.size + 1 + 1 < w2.heap.size from World.block_lt_of_cell? _ _ Z0.out)).trans (FZ.out i)), (fun i => (hW.frozen (p := ⟨w.heap.size + 1 + 1 + 1, i, none⟩) (show w.heap.size + 1 + 1 + 1 < w2.heap.size from World.block_lt_of_cell? _ _ V0.out)).trans (FV.out i))⟩)
  clear Z0 Z1 Z2 Z3 Z4 V0 V1 V2 V3 V4 X0 X1 X2 X3 X4 D0 D1 D2 D3 D4 FZ FV
  have B0 := BN
  clear BN
  have HS : Hid (Below w2.heap.size w2 w2) := hidA (Below.refl _ _)
  generalize w2 = w0 at *
  obtain ⟨c0, c1, c2, c3, c4, c5, c6, c7, c8, c9, c10, c11, c12, c13, c14, c15, c16, c17, c18, c19, z0, z1, z2, z3, fr0, fr1⟩ := PK.out _ HS.out
  clear BW
  have n1 : ¬ w.heap.size + 1 + 1 = g := by omega
  have n2 : ¬ g = w.heap.size + 1 + 1 := by omega
  have n3 : ¬ w.heap.size + 1 + 1 + 1 = g := by omega
  have n4 : ¬ g = w.heap.size + 1 + 1 + 1 := by omega
  have n5 : ¬ w.heap.size + 1 + 1 = h := by omega
  have n6 : ¬ h = w.heap.size + 1 + 1 := by omega
  have n7 : ¬ w.heap.size + 1 + 1 + 1 = h := by omega
  have n8 : ¬ h = w.heap.size + 1 + 1 + 1 := by omega
  go_wp2_with fail
  cases i <;> cases j
  all_goals
    go_region
    all_goals
      go_wp2
      first
        | exact bodyPost_ret (v := .tuple #[.agg #[.int .i64 xl, .int .i64 xh, .int .i64 xm, .int .i64 xr, .int .i64 a.k], .agg #[.int .i64 yl, .int .i64 yh, .int .i64 ym, .int .i64 yr, .int .i64 b.k], .bool true]) (by simp [results, Try.results90, go_sem, c0, c1, c2, c3, c4, c5, c6, c7, c8, c9, z0, z1, fr0, fr1, n1, n2, n3, n4, n5, n6, n7, n8]) rfl ⟨by rfl, (by repeat (first | with_reducible exact Below.refl _ _ | with_reducible exact HS.out | with_reducible exact B0.out | with_reducible refine Below.setCell ?_ (by first | omega | (dsimp only; omega) | (simp; done) | (simp; omega)) _ | with_reducible refine Below.alloc ?_ (by first | omega | (dsimp only; omega) | (simp; done) | (simp; omega)) _ | with_reducible refine Below.drew ?_ | with_reducible refine drewnA ?_ _ | with_reducible refine Below.trans ?_ (HS.out.mono (by first | omega | (dsimp only; omega) | (simp; done) | (simp; omega))) | with_reducible refine Below.trans ?_ (B0.out.mono (by first | omega | (dsimp only; omega) | (simp; done) | (simp; omega)))))⟩
        | exact bodyPost_ret (v := .tuple #[.agg #[.int .i64 xl, .int .i64 xh, .int .i64 xm, .int .i64 xr, .int .i64 a.k], .agg #[.int .i64 yl, .int .i64 yh, .int .i64 ym, .int .i64 yr, .int .i64 b.k], .bool false]) (by simp [results, Try.results90, go_sem, c0, c1, c2, c3, c4, c5, c6, c7, c8, c9, z0, z1, fr0, fr1, n1, n2, n3, n4, n5, n6, n7, n8]) rfl ⟨by rfl, (by repeat (first | with_reducible exact Below.refl _ _ | with_reducible exact HS.out | with_reducible exact B0.out | with_reducible refine Below.setCell ?_ (by first | omega | (dsimp only; omega) | (simp; done) | (simp; omega)) _ | with_reducible refine Below.alloc ?_ (by first | omega | (dsimp only; omega) | (simp; done) | (simp; omega)) _ | with_reducible refine Below.drew ?_ | with_reducible refine drewnA ?_ _ | with_reducible refine Below.trans ?_ (HS.out.mono (by first | omega | (dsimp only; omega) | (simp; done) | (simp; omega))) | with_reducible refine Below.trans ?_ (B0.out.mono (by first | omega | (dsimp only; omega) | (simp; done) | (simp; omega)))))⟩
set_option maxRecDepth 100000 in
set_option maxHeartbeats 4000000 in
theorem same_w (a b : Ab) (i : Bool) (xl xh xm xr xk : Int) (C1 : Hid (∀ w, Calls Try.prog 52 #[.agg #[.int .i64 a.lo, .int .i64 a.hi, .int .i64 a.m, .int .i64 a.r, .int .i64 a.k], .agg #[.int .i64 b.lo, .int .i64 b.hi, .int .i64 b.m, .int .i64 b.r, .int .i64 b.k]] w fun e w' => e = .returned (.tuple #[.agg #[.int .i64 xl, .int .i64 xh, .int .i64 xm, .int .i64 xr, .int .i64 xk], .bool i]) ∧ Below w.heap.size w w')) (w : World) :
    Calls Try.prog 89 #[.agg #[.int .i64 a.lo, .int .i64 a.hi, .int .i64 a.m, .int .i64 a.r, .int .i64 a.k], .agg #[.int .i64 b.lo, .int .i64 b.hi, .int .i64 b.m, .int .i64 b.r, .int .i64 b.k]] w fun e w' => e = .returned (.tuple #[.agg #[.int .i64 xl, .int .i64 xh, .int .i64 xm, .int .i64 xr, .int .i64 a.k], .agg #[.int .i64 xl, .int .i64 xh, .int .i64 xm, .int .i64 xr, .int .i64 b.k], .bool i]) ∧ Below w.heap.size w w' := by
  obtain ⟨w0, hw0⟩ : ∃ w0, ((((w.alloc (.cells #[.int .i64 a.lo, .int .i64 a.hi, .int .i64 a.m, .int .i64 a.r, .int .i64 a.k] 27)).alloc (.cells #[.int .i64 b.lo, .int .i64 b.hi, .int .i64 b.m, .int .i64 b.r, .int .i64 b.k] 27)).alloc (.cells #[.int .i64 0, .int .i64 0, .int .i64 0, .int .i64 0, .int .i64 0] 27)).alloc (.cells #[.int .i64 0, .int .i64 0, .int .i64 0, .int .i64 0, .int .i64 0] 27)) = w0 := ⟨_, rfl⟩
  have B0 : Hid (Below w.heap.size w w0) := hidA (by rw [← hw0]; exact (alA (alA (alA (alA (Below.refl _ _) _) _) _) _))
  have hsz : w.heap.size + 1 + 1 + 1 < w0.heap.size := by rw [← hw0]; simp
  have PK : Hid (∀ W, Below w0.heap.size w0 W → abF W (w.heap.size) a (abF W (w.heap.size + 1) b (W.cell? ⟨w.heap.size + 1 + 1, 0, none⟩ = some (.int .i64 0) ∧ W.cell? ⟨w.heap.size + 1 + 1, 1, none⟩ = some (.int .i64 0) ∧ W.cell? ⟨w.heap.size + 1 + 1, 2, none⟩ = some (.int .i64 0) ∧ W.cell? ⟨w.heap.size + 1 + 1, 3, none⟩ = some (.int .i64 0) ∧ W.cell? ⟨w.heap.size + 1 + 1, 4, none⟩ = some (.int .i64 0) ∧ W.cell? ⟨w.heap.size + 1 + 1 + 1, 0, none⟩ = some (.int .i64 0) ∧ W.cell? ⟨w.heap.size + 1 + 1 + 1, 1, none⟩ = some (.int .i64 0) ∧ W.cell? ⟨w.heap.size + 1 + 1 + 1, 2, none⟩ = some (.int .i64 0) ∧ W.cell? ⟨w.heap.size + 1 + 1 + 1, 3, none⟩ = some (.int .i64 0) ∧ W.cell? ⟨w.heap.size + 1 + 1 + 1, 4, none⟩ = some (.int .i64 0) ∧ w.heap.size < W.heap.size ∧ w.heap.size + 1 < W.heap.size ∧ w.heap.size + 1 + 1 < W.heap.size ∧ w.heap.size + 1 + 1 + 1 < W.heap.size ∧ (∀ i, W.frozen? ⟨w.heap.size + 1 + 1, i, none⟩ = false) ∧ (∀ i, W.frozen? ⟨w.heap.size + 1 + 1 + 1, i, none⟩ = false)))) := hidA (fun W hW => by and_intros <;> first | exact cellA hW (by rw [← hw0]; simp [go_sem]) | exact (by have h0 := hW.size; have h1 := hsz; omega) | exact (fun i => (hW.frozen (p := ⟨w.heap.size + 1 + 1, i, none⟩) (show w.heap.size + 1 + 1 < w0.heap.size by have h1 := hsz; omega)).trans (by rw [← hw0]; simp [go_sem])) | exact (fun i => (hW.frozen (p := ⟨w.heap.size + 1 + 1 + 1, i, none⟩) (show w.heap.size + 1 + 1 + 1 < w0.heap.size by have h1 := hsz; omega)).trans (by rw [← hw0]; simp [go_sem])))
  have Hw := hidA hw0; clear hw0
  go_enter Try.func89, Try.ntmps89
  go_wp2_with fail
  rw [Hw.out]
  clear Hw
  have HS : Hid (Below w0.heap.size w0 w0) := hidA (Below.refl _ _)
  obtain ⟨c0, c1, c2, c3, c4, c5, c6, c7, c8, c9, c10, c11, c12, c13, c14, c15, c16, c17, c18, c19, z0, z1, z2, z3, fr2, fr3⟩ := PK.out _ HS.out
  go_upto_region 2 with ((go_at_call 52; (with_reducible refine (C1.out _).mono ?_); rintro e w1 ⟨rfl, hb⟩; have hsE := HS.out; have leE := HS.out.size; have hs1 : Below w0.heap.size w0 w1 := stepA (by repeat (first | with_reducible assumption | with_reducible exact Below.refl _ _ | with_reducible refine Below.setCell ?_ (by first | omega | (dsimp only; omega) | (simp; done) | (simp; omega)) _ | with_reducible refine Below.alloc ?_ (by first | omega | (dsimp only; omega) | (simp; done) | (simp; omega)) _ | with_reducible refine Below.drew ?_)) hb; clear hb hsE leE; clear HS; have HS := hidA hs1; clear hs1 c0 c1 c2 c3 c4 c5 c6 c7 c8 c9 c10 c11 c12 c13 c14 c15 c16 c17 c18 c19 z0 z1 z2 z3 fr2 fr3; obtain ⟨c0, c1, c2, c3, c4, c5, c6, c7, c8, c9, c10, c11, c12, c13, c14, c15, c16, c17, c18, c19, z0, z1, z2, z3, fr2, fr3⟩ := PK.out _ HS.out))
  obtain ⟨g, hd⟩ : ∃ d, w1.heap.size = d := ⟨_, rfl⟩
  obtain ⟨w2, hw2⟩ : ∃ w2, w1.alloc (.cells #[.int .i64 xl, .int .i64 xh, .int .i64 xm, .int .i64 xr, .int .i64 xk] 27) = w2 := ⟨_, rfl⟩
  have U : Hid (Below w1.heap.size w1 w2) := hidA (alloc_is2 hw2)
  have D := row_is2 hw2
  have lg : w.heap.size + 1 + 1 + 1 < g := by rw [← hd]; assumption
  have FG : Hid (∀ i, w2.frozen? ⟨g, i, none⟩ = false) := hidA (by intro i; rw [← hw2, ← hd]; simp [go_sem])
  rw [hw2]
  try rw [hd]
  rw [hd] at D
  clear hw2 hd
  have hs1 := stepA HS.out U.out
  clear U
  clear HS; have HS := hidA hs1; clear hs1 c0 c1 c2 c3 c4 c5 c6 c7 c8 c9 c10 c11 c12 c13 c14 c15 c16 c17 c18 c19 z0 z1 z2 z3 fr2 fr3; obtain ⟨c0, c1, c2, c3, c4, c5, c6, c7, c8, c9, c10, c11, c12, c13, c14, c15, c16, c17, c18, c19, z0, z1, z2, z3, fr2, fr3⟩ := PK.out _ HS.out
  have D0 := hidA (D 0 _ rfl)
  have D1 := hidA (D 1 _ rfl)
  have D2 := hidA (D 2 _ rfl)
  have D3 := hidA (D 3 _ rfl)
  have D4 := hidA (D 4 _ rfl)
  clear D
  have N0 := hidA c0
  have N1 := hidA c1
  have N2 := hidA c2
  have N3 := hidA c3
  have N4 := hidA c4
  have M0 := hidA c5
  have M1 := hidA c6
  have M2 := hidA c7
  have M3 := hidA c8
  have M4 := hidA c9
  have Z0 := hidA c10
  have Z1 := hidA c11
  have Z2 := hidA c12
  have Z3 := hidA c13
  have Z4 := hidA c14
  have V0 := hidA c15
  have V1 := hidA c16
  have V2 := hidA c17
  have V3 := hidA c18
  have V4 := hidA c19
  have FZ := hidA fr2
  have FV := hidA fr3
  clear c0 c1 c2 c3 c4 c5 c6 c7 c8 c9 c10 c11 c12 c13 c14 c15 c16 c17 c18 c19 z0 z1 z2 z3 fr2 fr3
  have BW := hidA (B0.out.trans (HS.out.mono B0.out.size))
  have BN : Hid (Below w.heap.size w w2) := hidA BW.out
  have leW : w.heap.size ≤ w2.heap.size := BN.out.size
  have hszb2 : w.heap.size + 1 + 1 < w2.heap.size := World.block_lt_of_cell? _ _ Z0.out
  have hszb3 : w.heap.size + 1 + 1 + 1 < w2.heap.size := World.block_lt_of_cell? _ _ V0.out
  have hszb4 : g < w2.heap.size := World.block_lt_of_cell? _ _ D0.out
  clear B0 PK HS
  have PK : Hid (∀ V, Below w2.heap.size w2 V → abF V (w.heap.size) a (abF V (w.heap.size + 1) b (V.cell? ⟨w.heap.size + 1 + 1, 0, none⟩ = some (.int .i64 0) ∧ V.cell? ⟨w.heap.size + 1 + 1, 1, none⟩ = some (.int .i64 0) ∧ V.cell? ⟨w.heap.size + 1 + 1, 2, none⟩ = some (.int .i64 0) ∧ V.cell? ⟨w.heap.size + 1 + 1, 3, none⟩ = some (.int .i64 0) ∧ V.cell? ⟨w.heap.size + 1 + 1, 4, none⟩ = some (.int .i64 0) ∧ V.cell? ⟨w.heap.size + 1 + 1 + 1, 0, none⟩ = some (.int .i64 0) ∧ V.cell? ⟨w.heap.size + 1 + 1 + 1, 1, none⟩ = some (.int .i64 0) ∧ V.cell? ⟨w.heap.size + 1 + 1 + 1, 2, none⟩ = some (.int .i64 0) ∧ V.cell? ⟨w.heap.size + 1 + 1 + 1, 3, none⟩ = some (.int .i64 0) ∧ V.cell? ⟨w.heap.size + 1 + 1 + 1, 4, none⟩ = some (.int .i64 0) ∧ V.cell? ⟨g, 0, none⟩ = some (.int .i64 xl) ∧ V.cell? ⟨g, 1, none⟩ = some (.int .i64 xh) ∧ V.cell? ⟨g, 2, none⟩ = some (.int .i64 xm) ∧ V.cell? ⟨g, 3, none⟩ = some (.int .i64 xr) ∧ V.cell? ⟨g, 4, none⟩ = some (.int .i64 xk) ∧ w.heap.size < V.heap.size ∧ w.heap.size + 1 < V.heap.size ∧ w.heap.size + 1 + 1 < V.heap.size ∧ w.heap.size + 1 + 1 + 1 < V.heap.size ∧ g < V.heap.size ∧ (∀ i, V.frozen? ⟨w.heap.size + 1 + 1, i, none⟩ = false) ∧ (∀ i, V.frozen? ⟨w.heap.size + 1 + 1 + 1, i, none⟩ = false) ∧ (∀ i, V.frozen? ⟨g, i, none⟩ = false)))) := hidA (fun V hW => ⟨cellA hW N0.out, cellA hW N1.out, cellA hW N2.out, cellA hW N3.out, cellA hW N4.out, cellA hW M0.out, cellA hW M1.out, cellA hW M2.out, cellA hW M3.out, cellA hW M4.out, cellA hW Z0.out, cellA hW Z1.out, cellA hW Z2.out, cellA hW Z3.out, cellA hW Z4.out, cellA hW V0.out, cellA hW V1.out, cellA hW V2.out, cellA hW V3.out, cellA hW V4.out, cellA hW D0.out, cellA hW D1.out, cellA hW D2.out, cellA hW D3.out, cellA hW D4.out, Nat.lt_of_lt_of_le (World.block_lt_of_cell? _ _ N0.out) hW.size, Nat.lt_of_lt_of_le (World.block_lt_of_cell? _ _ M0.out) hW.size, Nat.lt_of_lt_of_le (World.block_lt_of_cell? _ _ Z0.out) hW.size, Nat.lt_of_lt_of_le (World.block_lt_of_cell? _ _ V0.out) hW.size, Nat.lt_of_lt_of_le (World.block_lt_of_cell? _ _ D0.out) hW.size, (fun i => (hW.frozen (p := ⟨w.heap.size + 1 + 1, i, none⟩) (show w.heap.size + 1 + 1 < w2.heap.size from World.block_lt_of_cell? _ _ Z0.out)).trans (FZ.out i)), (fun i => (hW.frozen (p := ⟨w.heap.size + 1 + 1 + 1, i, none⟩) (show w.heap.size + 1 + 1 + 1 < w2.heap.size from World.block_lt_of_cell? _ _ V0.out)).trans (FV.out i)), (fun i => (hW.frozen (p := ⟨g, i, none⟩) (show g < w2.heap.size from World.block_lt_of_cell? _ _ D0.out)).trans (FG.out i))⟩)
  clear N0 N1 N2 N3 N4 M0 M1 M2 M3 M4 Z0 Z1 Z2 Z3 Z4 V0 V1 V2 V3 V4 D0 D1 D2 D3 D4 FZ FV FG
  have B0 := BN
  clear BN
  have HS : Hid (Below w2.heap.size w2 w2) := hidA (Below.refl _ _)
  generalize w2 = w0 at *
  obtain ⟨c0, c1, c2, c3, c4, c5, c6, c7, c8, c9, c10, c11, c12, c13, c14, c15, c16, c17, c18, c19, c20, c21, c22, c23, c24, z0, z1, z2, z3, z4, fr2, fr3, fr4⟩ := PK.out _ HS.out
  clear BW
  go_upto_region 3 with (fail)
  obtain ⟨h, hd⟩ : ∃ d, w0.heap.size = d := ⟨_, rfl⟩
  obtain ⟨w2, hw2⟩ : ∃ w2, w0.alloc (.cells #[.int .i64 xl, .int .i64 xh, .int .i64 xm, .int .i64 xr, .int .i64 xk] 27) = w2 := ⟨_, rfl⟩
  have U : Hid (Below w0.heap.size w0 w2) := hidA (alloc_is2 hw2)
  have D := row_is2 hw2
  have lh : g < h := by rw [← hd]; assumption
  have FH : Hid (∀ i, w2.frozen? ⟨h, i, none⟩ = false) := hidA (by intro i; rw [← hw2, ← hd]; simp [go_sem])
  rw [hw2]
  try rw [hd]
  rw [hd] at D
  clear hw2 hd
  have hs1 := stepA HS.out U.out
  clear U
  clear HS; have HS := hidA hs1; clear hs1 c0 c1 c2 c3 c4 c5 c6 c7 c8 c9 c10 c11 c12 c13 c14 c15 c16 c17 c18 c19 c20 c21 c22 c23 c24 z0 z1 z2 z3 z4 fr2 fr3 fr4; obtain ⟨c0, c1, c2, c3, c4, c5, c6, c7, c8, c9, c10, c11, c12, c13, c14, c15, c16, c17, c18, c19, c20, c21, c22, c23, c24, z0, z1, z2, z3, z4, fr2, fr3, fr4⟩ := PK.out _ HS.out
  have D0 := hidA (D 0 _ rfl)
  have D1 := hidA (D 1 _ rfl)
  have D2 := hidA (D 2 _ rfl)
  have D3 := hidA (D 3 _ rfl)
  have D4 := hidA (D 4 _ rfl)
  clear D
  have N0 := hidA c0
  have N1 := hidA c1
  have N2 := hidA c2
  have N3 := hidA c3
  have N4 := hidA c4
  have M0 := hidA c5
  have M1 := hidA c6
  have M2 := hidA c7
  have M3 := hidA c8
  have M4 := hidA c9
  have Z0 := hidA c10
  have Z1 := hidA c11
  have Z2 := hidA c12
  have Z3 := hidA c13
  have Z4 := hidA c14
  have V0 := hidA c15
  have V1 := hidA c16
  have V2 := hidA c17
  have V3 := hidA c18
  have V4 := hidA c19
  have X0 := hidA c20
  have X1 := hidA c21
  have X2 := hidA c22
  have X3 := hidA c23
  have X4 := hidA c24
  have FZ := hidA fr2
  have FV := hidA fr3
  have FG := hidA fr4
  clear c0 c1 c2 c3 c4 c5 c6 c7 c8 c9 c10 c11 c12 c13 c14 c15 c16 c17 c18 c19 c20 c21 c22 c23 c24 z0 z1 z2 z3 z4 fr2 fr3 fr4
  have BW := hidA (B0.out.trans (HS.out.mono B0.out.size))
  have BN : Hid (Below w.heap.size w w2) := hidA BW.out
  have leW : w.heap.size ≤ w2.heap.size := BN.out.size
  have hszb2 : w.heap.size + 1 + 1 < w2.heap.size := World.block_lt_of_cell? _ _ Z0.out
  have hszb3 : w.heap.size + 1 + 1 + 1 < w2.heap.size := World.block_lt_of_cell? _ _ V0.out
  have hszb4 : g < w2.heap.size := World.block_lt_of_cell? _ _ X0.out
  have hszb5 : h < w2.heap.size := World.block_lt_of_cell? _ _ D0.out
  clear B0 PK HS
  have PK : Hid (∀ V, Below w2.heap.size w2 V → abF V (w.heap.size) a (abF V (w.heap.size + 1) b (V.cell? ⟨w.heap.size + 1 + 1, 0, none⟩ = some (.int .i64 0) ∧ V.cell? ⟨w.heap.size + 1 + 1, 1, none⟩ = some (.int .i64 0) ∧ V.cell? ⟨w.heap.size + 1 + 1, 2, none⟩ = some (.int .i64 0) ∧ V.cell? ⟨w.heap.size + 1 + 1, 3, none⟩ = some (.int .i64 0) ∧ V.cell? ⟨w.heap.size + 1 + 1, 4, none⟩ = some (.int .i64 0) ∧ V.cell? ⟨w.heap.size + 1 + 1 + 1, 0, none⟩ = some (.int .i64 0) ∧ V.cell? ⟨w.heap.size + 1 + 1 + 1, 1, none⟩ = some (.int .i64 0) ∧ V.cell? ⟨w.heap.size + 1 + 1 + 1, 2, none⟩ = some (.int .i64 0) ∧ V.cell? ⟨w.heap.size + 1 + 1 + 1, 3, none⟩ = some (.int .i64 0) ∧ V.cell? ⟨w.heap.size + 1 + 1 + 1, 4, none⟩ = some (.int .i64 0) ∧ V.cell? ⟨g, 0, none⟩ = some (.int .i64 xl) ∧ V.cell? ⟨g, 1, none⟩ = some (.int .i64 xh) ∧ V.cell? ⟨g, 2, none⟩ = some (.int .i64 xm) ∧ V.cell? ⟨g, 3, none⟩ = some (.int .i64 xr) ∧ V.cell? ⟨g, 4, none⟩ = some (.int .i64 xk) ∧ V.cell? ⟨h, 0, none⟩ = some (.int .i64 xl) ∧ V.cell? ⟨h, 1, none⟩ = some (.int .i64 xh) ∧ V.cell? ⟨h, 2, none⟩ = some (.int .i64 xm) ∧ V.cell? ⟨h, 3, none⟩ = some (.int .i64 xr) ∧ V.cell? ⟨h, 4, none⟩ = some (.int .i64 xk) ∧ w.heap.size < V.heap.size ∧ w.heap.size + 1 < V.heap.size ∧ w.heap.size + 1 + 1 < V.heap.size ∧ w.heap.size + 1 + 1 + 1 < V.heap.size ∧ g < V.heap.size ∧ h < V.heap.size ∧ (∀ i, V.frozen? ⟨w.heap.size + 1 + 1, i, none⟩ = false) ∧ (∀ i, V.frozen? ⟨w.heap.size + 1 + 1 + 1, i, none⟩ = false) ∧ (∀ i, V.frozen? ⟨g, i, none⟩ = false) ∧ (∀ i, V.frozen? ⟨h, i, none⟩ = false)))) := hidA (fun V hW => ⟨cellA hW N0.out, cellA hW N1.out, cellA hW N2.out, cellA hW N3.out, cellA hW N4.out, cellA hW M0.out, cellA hW M1.out, cellA hW M2.out, cellA hW M3.out, cellA hW M4.out, cellA hW Z0.out, cellA hW Z1.out, cellA hW Z2.out, cellA hW Z3.out, cellA hW Z4.out, cellA hW V0.out, cellA hW V1.out, cellA hW V2.out, cellA hW V3.out, cellA hW V4.out, cellA hW X0.out, cellA hW X1.out, cellA hW X2.out, cellA hW X3.out, cellA hW X4.out, cellA hW D0.out, cellA hW D1.out, cellA hW D2.out, cellA hW D3.out, cellA hW D4.out, Nat.lt_of_lt_of_le (World.block_lt_of_cell? _ _ N0.out) hW.size, Nat.lt_of_lt_of_le (World.block_lt_of_cell? _ _ M0.out) hW.size, Nat.lt_of_lt_of_le (World.block_lt_of_cell? _ _ Z0.out) hW.size, Nat.lt_of_lt_of_le (World.block_lt_of_cell? _ _ V0.out) hW.size, Nat.lt_of_lt_of_le (World.block_lt_of_cell? _ _ X0.out) hW.size, Nat.lt_of_lt_of_le (World.block_lt_of_cell? _ _ D0.out) hW.size, (fun i => (hW.frozen (p := ⟨w.heap.size + 1 + 1, i, none⟩) (show w.heap.size + 1 + 1 < w2.heap.size from World.block_lt_of_cell? _ _ Z0.out)).trans (FZ.out i)), (fun i => (hW.frozen (p := ⟨w.heap.size + 1 + 1 + 1, i, none⟩) (show w.heap.size + 1 + 1 + 1 < w2.heap.size from World.block_lt_of_cell? _ _ V0.out)).trans (FV.out i)), (fun i => (hW.frozen (p := ⟨g, i, none⟩) (show g < w2.heap.size from World.block_lt_of_cell? _ _ X0.out)).trans (FG.out i)), (fun i => (hW.frozen (p := ⟨h, i, none⟩) (show h < w2.heap.size from World.block_lt_of_cell? _ _ D0.out)).trans (FH.out i))⟩)
  clear N0 N1 N2 N3 N4 M0 M1 M2 M3 M4 Z0 Z1 Z2 Z3 Z4 V0 V1 V2 V3 V4 X0 X1 X2 X3 X4 D0 D1 D2 D3 D4 FZ FV FG FH
  have B0 := BN
  clear BN
  have HS : Hid (Below w2.heap.size w2 w2) := hidA (Below.refl _ _)
  generalize w2 = w0 at *
  obtain ⟨c0, c1, c2, c3, c4, c5, c6, c7, c8, c9, c10, c11, c12, c13, c14, c15, c16, c17, c18, c19, c20, c21, c22, c23, c24, c25, c26, c27, c28, c29, z0, z1, z2, z3, z4, z5, fr2, fr3, fr4, fr5⟩ := PK.out _ HS.out
  clear BW
  have n1 : ¬ w.heap.size + 1 + 1 = g := by omega
  have n2 : ¬ g = w.heap.size + 1 + 1 := by omega
  have n3 : ¬ w.heap.size + 1 + 1 + 1 = g := by omega
  have n4 : ¬ g = w.heap.size + 1 + 1 + 1 := by omega
  have n5 : ¬ w.heap.size + 1 + 1 = h := by omega
  have n6 : ¬ h = w.heap.size + 1 + 1 := by omega
  have n7 : ¬ w.heap.size + 1 + 1 + 1 = h := by omega
  have n8 : ¬ h = w.heap.size + 1 + 1 + 1 := by omega
  have n9 : ¬ g = h := by omega
  have n10 : ¬ h = g := by omega
  have n11 : ¬ w.heap.size = g := by omega
  have n12 : ¬ w.heap.size = h := by omega
  have n13 : ¬ w.heap.size + 1 = g := by omega
  have n14 : ¬ w.heap.size + 1 = h := by omega
  have wg : w.heap.size ≤ g := by omega
  have wh : w.heap.size ≤ h := by omega
  have hB := B0.out.size
  go_cut [4, 5, 7, 8, 9] (fun u v y bb z W => u = .pointer (some ⟨w.heap.size + 1 + 1, 0, none⟩) ∧ v = .pointer (some ⟨w.heap.size + 1 + 1 + 1, 0, none⟩) ∧ y = .pointer (some ⟨g, 0, none⟩) ∧ bb = .bool i ∧ z = .pointer (some ⟨h, 0, none⟩) ∧ Below w.heap.size w W ∧ W.cell? ⟨w.heap.size + 1 + 1, 0, none⟩ = some (.int .i64 0) ∧ W.cell? ⟨w.heap.size + 1 + 1, 1, none⟩ = some (.int .i64 0) ∧ W.cell? ⟨w.heap.size + 1 + 1, 2, none⟩ = some (.int .i64 0) ∧ W.cell? ⟨w.heap.size + 1 + 1, 3, none⟩ = some (.int .i64 0) ∧ W.cell? ⟨w.heap.size + 1 + 1, 4, none⟩ = some (.int .i64 0) ∧ W.cell? ⟨w.heap.size + 1 + 1 + 1, 0, none⟩ = some (.int .i64 0) ∧ W.cell? ⟨w.heap.size + 1 + 1 + 1, 1, none⟩ = some (.int .i64 0) ∧ W.cell? ⟨w.heap.size + 1 + 1 + 1, 2, none⟩ = some (.int .i64 0) ∧ W.cell? ⟨w.heap.size + 1 + 1 + 1, 3, none⟩ = some (.int .i64 0) ∧ W.cell? ⟨w.heap.size + 1 + 1 + 1, 4, none⟩ = some (.int .i64 0) ∧ W.cell? ⟨g, 0, none⟩ = some (.int .i64 xl) ∧ W.cell? ⟨g, 1, none⟩ = some (.int .i64 xh) ∧ W.cell? ⟨g, 2, none⟩ = some (.int .i64 xm) ∧ W.cell? ⟨g, 3, none⟩ = some (.int .i64 xr) ∧ W.cell? ⟨g, 4, none⟩ = some (.int .i64 a.k) ∧ W.cell? ⟨h, 0, none⟩ = some (.int .i64 xl) ∧ W.cell? ⟨h, 1, none⟩ = some (.int .i64 xh) ∧ W.cell? ⟨h, 2, none⟩ = some (.int .i64 xm) ∧ W.cell? ⟨h, 3, none⟩ = some (.int .i64 xr) ∧ W.cell? ⟨h, 4, none⟩ = some (.int .i64 b.k) ∧ (∀ i, W.frozen? ⟨w.heap.size + 1 + 1, i, none⟩ = false) ∧ (∀ i, W.frozen? ⟨w.heap.size + 1 + 1 + 1, i, none⟩ = false))
  case first =>
    go_region
    all_goals
      go_wp2_with fail
      go_meet
      refine ⟨rfl, rfl, rfl, rfl, rfl, (by repeat (first | with_reducible exact Below.refl _ _ | with_reducible exact HS.out | with_reducible exact B0.out | with_reducible refine Below.setCell ?_ (by first | omega | (dsimp only; omega) | (simp; done) | (simp; omega)) _ | with_reducible refine Below.alloc ?_ (by first | omega | (dsimp only; omega) | (simp; done) | (simp; omega)) _ | with_reducible refine Below.drew ?_ | with_reducible refine drewnA ?_ _ | with_reducible refine Below.trans ?_ (HS.out.mono (by first | omega | (dsimp only; omega) | (simp; done) | (simp; omega))) | with_reducible refine Below.trans ?_ (B0.out.mono (by first | omega | (dsimp only; omega) | (simp; done) | (simp; omega))))), (by first | with_reducible assumption | (simp [go_sem, n1, n2, n3, n4, n5, n6, n7, n8, n9, n10, n11, n12, n13, n14, c10, c11, c12, c13, c14, z2]; done)), (by first | with_reducible assumption | (simp [go_sem, n1, n2, n3, n4, n5, n6, n7, n8, n9, n10, n11, n12, n13, n14, c10, c11, c12, c13, c14, z2]; done)), (by first | with_reducible assumption | (simp [go_sem, n1, n2, n3, n4, n5, n6, n7, n8, n9, n10, n11, n12, n13, n14, c10, c11, c12, c13, c14, z2]; done)), (by first | with_reducible assumption | (simp [go_sem, n1, n2, n3, n4, n5, n6, n7, n8, n9, n10, n11, n12, n13, n14, c10, c11, c12, c13, c14, z2]; done)), (by first | with_reducible assumption | (simp [go_sem, n1, n2, n3, n4, n5, n6, n7, n8, n9, n10, n11, n12, n13, n14, c10, c11, c12, c13, c14, z2]; done)), (by first | with_reducible assumption | (simp [go_sem, n1, n2, n3, n4, n5, n6, n7, n8, n9, n10, n11, n12, n13, n14, c15, c16, c17, c18, c19, z3]; done)), (by first | with_reducible assumption | (simp [go_sem, n1, n2, n3, n4, n5, n6, n7, n8, n9, n10, n11, n12, n13, n14, c15, c16, c17, c18, c19, z3]; done)), (by first | with_reducible assumption | (simp [go_sem, n1, n2, n3, n4, n5, n6, n7, n8, n9, n10, n11, n12, n13, n14, c15, c16, c17, c18, c19, z3]; done)), (by first | with_reducible assumption | (simp [go_sem, n1, n2, n3, n4, n5, n6, n7, n8, n9, n10, n11, n12, n13, n14, c15, c16, c17, c18, c19, z3]; done)), (by first | with_reducible assumption | (simp [go_sem, n1, n2, n3, n4, n5, n6, n7, n8, n9, n10, n11, n12, n13, n14, c15, c16, c17, c18, c19, z3]; done)), (by first | with_reducible assumption | (simp [go_sem, n1, n2, n3, n4, n5, n6, n7, n8, n9, n10, n11, n12, n13, n14, c20, c21, c22, c23, c24, z4]; done)), (by first | with_reducible assumption | (simp [go_sem, n1, n2, n3, n4, n5, n6, n7, n8, n9, n10, n11, n12, n13, n14, c20, c21, c22, c23, c24, z4]; done)), (by first | with_reducible assumption | (simp [go_sem, n1, n2, n3, n4, n5, n6, n7, n8, n9, n10, n11, n12, n13, n14, c20, c21, c22, c23, c24, z4]; done)), (by first | with_reducible assumption | (simp [go_sem, n1, n2, n3, n4, n5, n6, n7, n8, n9, n10, n11, n12, n13, n14, c20, c21, c22, c23, c24, z4]; done)), (by first | with_reducible assumption | (simp [go_sem, n1, n2, n3, n4, n5, n6, n7, n8, n9, n10, n11, n12, n13, n14, c20, c21, c22, c23, c24, z4]; done)), (by first | with_reducible assumption | (simp [go_sem, n1, n2, n3, n4, n5, n6, n7, n8, n9, n10, n11, n12, n13, n14, c25, c26, c27, c28, c29, z5]; done)), (by first | with_reducible assumption | (simp [go_sem, n1, n2, n3, n4, n5, n6, n7, n8, n9, n10, n11, n12, n13, n14, c25, c26, c27, c28, c29, z5]; done)), (by first | with_reducible assumption | (simp [go_sem, n1, n2, n3, n4, n5, n6, n7, n8, n9, n10, n11, n12, n13, n14, c25, c26, c27, c28, c29, z5]; done)), (by first | with_reducible assumption | (simp [go_sem, n1, n2, n3, n4, n5, n6, n7, n8, n9, n10, n11, n12, n13, n14, c25, c26, c27, c28, c29, z5]; done)), (by first | with_reducible assumption | (simp [go_sem, n1, n2, n3, n4, n5, n6, n7, n8, n9, n10, n11, n12, n13, n14, c25, c26, c27, c28, c29, z5]; done)), (fun i => by first | with_reducible exact fr2 i | simp [go_sem, n1, n2, n3, n4, n5, n6, n7, n8, n9, n10, n11, n12, n13, n14, fr2]), (fun i => by first | with_reducible exact fr3 i | simp [go_sem, n1, n2, n3, n4, n5, n6, n7, n8, n9, n10, n11, n12, n13, n14, fr3])⟩
  case rest =>
    obtain ⟨rfl, rfl, rfl, rfl, rfl, hB3, r0, r1, r2, r3, r4, q0, q1, q2, q3, q4, o0, o1, o2, o3, o4, p0, p1, p2, p3, p4, fz, fv⟩ := hcut
    clear c0 c1 c2 c3 c4 c5 c6 c7 c8 c9 c10 c11 c12 c13 c14 c15 c16 c17 c18 c19 c20 c21 c22 c23 c24 c25 c26 c27 c28 c29 z0 z1 z2 z3 z4 z5 fr2 fr3 fr4 fr5
    have B3 := hidA hB3
    clear hB3 hB
    have R0 := hidA r0
    have R1 := hidA r1
    have R2 := hidA r2
    have R3 := hidA r3
    have R4 := hidA r4
    have Q0 := hidA q0
    have Q1 := hidA q1
    have Q2 := hidA q2
    have Q3 := hidA q3
    have Q4 := hidA q4
    have O0 := hidA o0
    have O1 := hidA o1
    have O2 := hidA o2
    have O3 := hidA o3
    have O4 := hidA o4
    have P0 := hidA p0
    have P1 := hidA p1
    have P2 := hidA p2
    have P3 := hidA p3
    have P4 := hidA p4
    have FZ := hidA fz
    have FV := hidA fv
    clear fz fv r0 r1 r2 r3 r4 q0 q1 q2 q3 q4 o0 o1 o2 o3 o4 p0 p1 p2 p3 p4
    have BN : Hid (Below w.heap.size w wc) := hidA B3.out
    have leW : w.heap.size ≤ wc.heap.size := BN.out.size
    have hszb0 : w.heap.size + 1 + 1 < wc.heap.size := World.block_lt_of_cell? _ _ R0.out
    have hszb1 : w.heap.size + 1 + 1 + 1 < wc.heap.size := World.block_lt_of_cell? _ _ Q0.out
    clear B0 PK HS
    have PK : Hid (∀ V, Below wc.heap.size wc V → V.cell? ⟨w.heap.size + 1 + 1, 0, none⟩ = some (.int .i64 0) ∧ V.cell? ⟨w.heap.size + 1 + 1, 1, none⟩ = some (.int .i64 0) ∧ V.cell? ⟨w.heap.size + 1 + 1, 2, none⟩ = some (.int .i64 0) ∧ V.cell? ⟨w.heap.size + 1 + 1, 3, none⟩ = some (.int .i64 0) ∧ V.cell? ⟨w.heap.size + 1 + 1, 4, none⟩ = some (.int .i64 0) ∧ V.cell? ⟨w.heap.size + 1 + 1 + 1, 0, none⟩ = some (.int .i64 0) ∧ V.cell? ⟨w.heap.size + 1 + 1 + 1, 1, none⟩ = some (.int .i64 0) ∧ V.cell? ⟨w.heap.size + 1 + 1 + 1, 2, none⟩ = some (.int .i64 0) ∧ V.cell? ⟨w.heap.size + 1 + 1 + 1, 3, none⟩ = some (.int .i64 0) ∧ V.cell? ⟨w.heap.size + 1 + 1 + 1, 4, none⟩ = some (.int .i64 0) ∧ V.cell? ⟨g, 0, none⟩ = some (.int .i64 xl) ∧ V.cell? ⟨g, 1, none⟩ = some (.int .i64 xh) ∧ V.cell? ⟨g, 2, none⟩ = some (.int .i64 xm) ∧ V.cell? ⟨g, 3, none⟩ = some (.int .i64 xr) ∧ V.cell? ⟨g, 4, none⟩ = some (.int .i64 a.k) ∧ V.cell? ⟨h, 0, none⟩ = some (.int .i64 xl) ∧ V.cell? ⟨h, 1, none⟩ = some (.int .i64 xh) ∧ V.cell? ⟨h, 2, none⟩ = some (.int .i64 xm) ∧ V.cell? ⟨h, 3, none⟩ = some (.int .i64 xr) ∧ V.cell? ⟨h, 4, none⟩ = some (.int .i64 b.k) ∧ w.heap.size + 1 + 1 < V.heap.size ∧ w.heap.size + 1 + 1 + 1 < V.heap.size ∧ g < V.heap.size ∧ h < V.heap.size ∧ (∀ i, V.frozen? ⟨w.heap.size + 1 + 1, i, none⟩ = false) ∧ (∀ i, V.frozen? ⟨w.heap.size + 1 + 1 + 1, i, none⟩ = false)) := hidA (fun V hW => ⟨cellA hW R0.out, cellA hW R1.out, cellA hW R2.out, cellA hW R3.out, cellA hW R4.out, cellA hW Q0.out, cellA hW Q1.out, cellA hW Q2.out, cellA hW Q3.out, cellA hW Q4.out, cellA hW O0.out, cellA hW O1.out, cellA hW O2.out, cellA hW O3.out, cellA hW O4.out, cellA hW P0.out, cellA hW P1.out, cellA hW P2.out, cellA hW P3.out, cellA hW P4.out, Nat.lt_of_lt_of_le (World.block_lt_of_cell? _ _ R0.out) hW.size, Nat.lt_of_lt_of_le (World.block_lt_of_cell? _ _ Q0.out) hW.size, Nat.lt_of_lt_of_le (World.block_lt_of_cell? _ _ O0.out) hW.size, Nat.lt_of_lt_of_le (World.block_lt_of_cell? _ _ P0.out) hW.size, (fun i => (hW.frozen (p := ⟨w.heap.size + 1 + 1, i, none⟩) (show w.heap.size + 1 + 1 < wc.heap.size from World.block_lt_of_cell? _ _ R0.out)).trans (FZ.out i)), (fun i => (hW.frozen (p := ⟨w.heap.size + 1 + 1 + 1, i, none⟩) (show w.heap.size + 1 + 1 + 1 < wc.heap.size from World.block_lt_of_cell? _ _ Q0.out)).trans (FV.out i))⟩)
    clear R0 R1 R2 R3 R4 Q0 Q1 Q2 Q3 Q4 O0 O1 O2 O3 O4 P0 P1 P2 P3 P4 FZ FV
    have B0 := BN
    clear BN
    have HS : Hid (Below wc.heap.size wc wc) := hidA (Below.refl _ _)
    generalize wc = w0 at *
    obtain ⟨c0, c1, c2, c3, c4, c5, c6, c7, c8, c9, c10, c11, c12, c13, c14, c15, c16, c17, c18, c19, z0, z1, z2, z3, fr0, fr1⟩ := PK.out _ HS.out
    go_wp2_with fail
    go_region
    all_goals
      go_wp2
      exact bodyPost_ret (v := .tuple #[.agg #[.int .i64 xl, .int .i64 xh, .int .i64 xm, .int .i64 xr, .int .i64 a.k], .agg #[.int .i64 xl, .int .i64 xh, .int .i64 xm, .int .i64 xr, .int .i64 b.k], .bool i]) (by simp [results, Try.results89, go_sem, c0, c1, c2, c3, c4, c5, c6, c7, c8, c9, z0, z1, fr0, fr1, n1, n2, n3, n4, n5, n6, n7, n8]) rfl ⟨by rfl, (by repeat (first | with_reducible exact Below.refl _ _ | with_reducible exact HS.out | with_reducible exact B0.out | with_reducible refine Below.setCell ?_ (by first | omega | (dsimp only; omega) | (simp; done) | (simp; omega)) _ | with_reducible refine Below.alloc ?_ (by first | omega | (dsimp only; omega) | (simp; done) | (simp; omega)) _ | with_reducible refine Below.drew ?_ | with_reducible refine drewnA ?_ _ | with_reducible refine Below.trans ?_ (HS.out.mono (by first | omega | (dsimp only; omega) | (simp; done) | (simp; omega))) | with_reducible refine Below.trans ?_ (B0.out.mono (by first | omega | (dsimp only; omega) | (simp; done) | (simp; omega)))))⟩
end

section
open Go.RowKit Go.Instr Sp
set_option linter.unusedVariables false
set_option linter.unusedSimpArgs false

/-! span's comparisons. -/
set_option maxRecDepth 100000 in
set_option maxHeartbeats 16000000 in
theorem rf_cmp (a b : Ab) (ok : Bool) (xl xh xm xr yl yh ym yr xk yk n : Int) (holds : Bool) (hc : (n = 2 ∧ holds = true ∧ Hid (∀ w, Calls Try.prog 88 #[.agg #[.int .i64 a.lo, .int .i64 a.hi, .int .i64 a.m, .int .i64 a.r, .int .i64 a.k], .agg #[.int .i64 b.lo, .int .i64 b.hi, .int .i64 b.m, .int .i64 b.r, .int .i64 b.k], .int .i64 1] w fun e w' => e = .returned (.tuple #[.agg #[.int .i64 xl, .int .i64 xh, .int .i64 xm, .int .i64 xr, .int .i64 xk], .agg #[.int .i64 yl, .int .i64 yh, .int .i64 ym, .int .i64 yr, .int .i64 yk], .bool ok]) ∧ Below w.heap.size w w')) ∨ (n = 2 ∧ holds = false ∧ Hid (∀ w, Calls Try.prog 88 #[.agg #[.int .i64 b.lo, .int .i64 b.hi, .int .i64 b.m, .int .i64 b.r, .int .i64 b.k], .agg #[.int .i64 a.lo, .int .i64 a.hi, .int .i64 a.m, .int .i64 a.r, .int .i64 a.k], .int .i64 0] w fun e w' => e = .returned (.tuple #[.agg #[.int .i64 yl, .int .i64 yh, .int .i64 ym, .int .i64 yr, .int .i64 yk], .agg #[.int .i64 xl, .int .i64 xh, .int .i64 xm, .int .i64 xr, .int .i64 xk], .bool ok]) ∧ Below w.heap.size w w')) ∨ (n = 3 ∧ holds = true ∧ Hid (∀ w, Calls Try.prog 88 #[.agg #[.int .i64 a.lo, .int .i64 a.hi, .int .i64 a.m, .int .i64 a.r, .int .i64 a.k], .agg #[.int .i64 b.lo, .int .i64 b.hi, .int .i64 b.m, .int .i64 b.r, .int .i64 b.k], .int .i64 0] w fun e w' => e = .returned (.tuple #[.agg #[.int .i64 xl, .int .i64 xh, .int .i64 xm, .int .i64 xr, .int .i64 xk], .agg #[.int .i64 yl, .int .i64 yh, .int .i64 ym, .int .i64 yr, .int .i64 yk], .bool ok]) ∧ Below w.heap.size w w')) ∨ (n = 3 ∧ holds = false ∧ Hid (∀ w, Calls Try.prog 88 #[.agg #[.int .i64 b.lo, .int .i64 b.hi, .int .i64 b.m, .int .i64 b.r, .int .i64 b.k], .agg #[.int .i64 a.lo, .int .i64 a.hi, .int .i64 a.m, .int .i64 a.r, .int .i64 a.k], .int .i64 1] w fun e w' => e = .returned (.tuple #[.agg #[.int .i64 yl, .int .i64 yh, .int .i64 ym, .int .i64 yr, .int .i64 yk], .agg #[.int .i64 xl, .int .i64 xh, .int .i64 xm, .int .i64 xr, .int .i64 xk], .bool ok]) ∧ Below w.heap.size w w')) ∨ (n = 4 ∧ holds = true ∧ Hid (∀ w, Calls Try.prog 89 #[.agg #[.int .i64 a.lo, .int .i64 a.hi, .int .i64 a.m, .int .i64 a.r, .int .i64 a.k], .agg #[.int .i64 b.lo, .int .i64 b.hi, .int .i64 b.m, .int .i64 b.r, .int .i64 b.k]] w fun e w' => e = .returned (.tuple #[.agg #[.int .i64 xl, .int .i64 xh, .int .i64 xm, .int .i64 xr, .int .i64 xk], .agg #[.int .i64 yl, .int .i64 yh, .int .i64 ym, .int .i64 yr, .int .i64 yk], .bool ok]) ∧ Below w.heap.size w w')) ∨ (n = 4 ∧ holds = false ∧ Hid (∀ w, Calls Try.prog 90 #[.agg #[.int .i64 a.lo, .int .i64 a.hi, .int .i64 a.m, .int .i64 a.r, .int .i64 a.k], .agg #[.int .i64 b.lo, .int .i64 b.hi, .int .i64 b.m, .int .i64 b.r, .int .i64 b.k]] w fun e w' => e = .returned (.tuple #[.agg #[.int .i64 xl, .int .i64 xh, .int .i64 xm, .int .i64 xr, .int .i64 xk], .agg #[.int .i64 yl, .int .i64 yh, .int .i64 ym, .int .i64 yr, .int .i64 yk], .bool ok]) ∧ Below w.heap.size w w'))) (w : World) :
    Calls Try.prog 63 #[.int .i64 n, .bool holds, .agg #[.int .i64 a.lo, .int .i64 a.hi, .int .i64 a.m, .int .i64 a.r, .int .i64 a.k], .agg #[.int .i64 b.lo, .int .i64 b.hi, .int .i64 b.m, .int .i64 b.r, .int .i64 b.k]] w fun e w' => e = .returned ((if ok then .tuple #[.agg #[.int .i64 xl, .int .i64 xh, .int .i64 xm, .int .i64 xr, .int .i64 xk], .agg #[.int .i64 yl, .int .i64 yh, .int .i64 ym, .int .i64 yr, .int .i64 yk], .bool true] else .tuple #[.agg #[.int .i64 0, .int .i64 0, .int .i64 0, .int .i64 0, .int .i64 0], .agg #[.int .i64 0, .int .i64 0, .int .i64 0, .int .i64 0, .int .i64 0], .bool false])) ∧ Below w.heap.size w w' := by
  rcases hc with ⟨rfl, rfl, C1⟩ | ⟨rfl, rfl, C1⟩ | ⟨rfl, rfl, C1⟩ | ⟨rfl, rfl, C1⟩ | ⟨rfl, rfl, C1⟩ | ⟨rfl, rfl, C1⟩
  all_goals
    obtain ⟨w0, hw0⟩ : ∃ w0, ((((w.alloc (.cells #[.int .i64 a.lo, .int .i64 a.hi, .int .i64 a.m, .int .i64 a.r, .int .i64 a.k] 27)).alloc (.cells #[.int .i64 b.lo, .int .i64 b.hi, .int .i64 b.m, .int .i64 b.r, .int .i64 b.k] 27)).alloc (.cells #[.int .i64 0, .int .i64 0, .int .i64 0, .int .i64 0, .int .i64 0] 27)).alloc (.cells #[.int .i64 0, .int .i64 0, .int .i64 0, .int .i64 0, .int .i64 0] 27)) = w0 := ⟨_, rfl⟩
    have B0 : Hid (Below w.heap.size w w0) := hidA (by rw [← hw0]; exact (alA (alA (alA (alA (Below.refl _ _) _) _) _) _))
    have hsz : w.heap.size + 1 + 1 + 1 < w0.heap.size := by rw [← hw0]; simp
    have PK : Hid (∀ W, Below w0.heap.size w0 W → abF W (w.heap.size) a (abF W (w.heap.size + 1) b (W.cell? ⟨w.heap.size + 1 + 1, 0, none⟩ = some (.int .i64 0) ∧ W.cell? ⟨w.heap.size + 1 + 1, 1, none⟩ = some (.int .i64 0) ∧ W.cell? ⟨w.heap.size + 1 + 1, 2, none⟩ = some (.int .i64 0) ∧ W.cell? ⟨w.heap.size + 1 + 1, 3, none⟩ = some (.int .i64 0) ∧ W.cell? ⟨w.heap.size + 1 + 1, 4, none⟩ = some (.int .i64 0) ∧ W.cell? ⟨w.heap.size + 1 + 1 + 1, 0, none⟩ = some (.int .i64 0) ∧ W.cell? ⟨w.heap.size + 1 + 1 + 1, 1, none⟩ = some (.int .i64 0) ∧ W.cell? ⟨w.heap.size + 1 + 1 + 1, 2, none⟩ = some (.int .i64 0) ∧ W.cell? ⟨w.heap.size + 1 + 1 + 1, 3, none⟩ = some (.int .i64 0) ∧ W.cell? ⟨w.heap.size + 1 + 1 + 1, 4, none⟩ = some (.int .i64 0) ∧ w.heap.size < W.heap.size ∧ w.heap.size + 1 < W.heap.size ∧ w.heap.size + 1 + 1 < W.heap.size ∧ w.heap.size + 1 + 1 + 1 < W.heap.size ∧ (∀ i, W.frozen? ⟨w.heap.size + 1 + 1, i, none⟩ = false) ∧ (∀ i, W.frozen? ⟨w.heap.size + 1 + 1 + 1, i, none⟩ = false)))) := hidA (fun W hW => by and_intros <;> first | exact cellA hW (by rw [← hw0]; simp [go_sem]) | exact (by have h0 := hW.size; have h1 := hsz; omega) | exact (fun i => (hW.frozen (p := ⟨w.heap.size + 1 + 1, i, none⟩) (show w.heap.size + 1 + 1 < w0.heap.size by have h1 := hsz; omega)).trans (by rw [← hw0]; simp [go_sem])) | exact (fun i => (hW.frozen (p := ⟨w.heap.size + 1 + 1 + 1, i, none⟩) (show w.heap.size + 1 + 1 + 1 < w0.heap.size by have h1 := hsz; omega)).trans (by rw [← hw0]; simp [go_sem])))
    have Hw := hidA hw0; clear hw0
    go_enter Try.func63, Try.ntmps63
    go_wp2_with fail
    rw [Hw.out]
    clear Hw
    have HS : Hid (Below w0.heap.size w0 w0) := hidA (Below.refl _ _)
    obtain ⟨c0, c1, c2, c3, c4, c5, c6, c7, c8, c9, c10, c11, c12, c13, c14, c15, c16, c17, c18, c19, z0, z1, z2, z3, fr2, fr3⟩ := PK.out _ HS.out
    go_cut [11, 12, 13] (fun u v z W => ∃ g h : Nat, u = .pointer (some ⟨g, 0, none⟩) ∧ v = .pointer (some ⟨h, 0, none⟩) ∧ z = .bool true ∧ Below w0.heap.size w0 W ∧ w0.heap.size ≤ g ∧ w0.heap.size ≤ h ∧ ¬ g = h ∧ W.cell? ⟨g, 0, none⟩ = some (.int .i64 a.lo) ∧ W.cell? ⟨g, 1, none⟩ = some (.int .i64 a.hi) ∧ W.cell? ⟨g, 2, none⟩ = some (.int .i64 a.m) ∧ W.cell? ⟨g, 3, none⟩ = some (.int .i64 a.r) ∧ W.cell? ⟨g, 4, none⟩ = some (.int .i64 a.k) ∧ W.cell? ⟨h, 0, none⟩ = some (.int .i64 b.lo) ∧ W.cell? ⟨h, 1, none⟩ = some (.int .i64 b.hi) ∧ W.cell? ⟨h, 2, none⟩ = some (.int .i64 b.m) ∧ W.cell? ⟨h, 3, none⟩ = some (.int .i64 b.r) ∧ W.cell? ⟨h, 4, none⟩ = some (.int .i64 b.k) ∧ (∀ i, W.frozen? ⟨g, i, none⟩ = false) ∧ (∀ i, W.frozen? ⟨h, i, none⟩ = false))
    case first =>
      have hsD := HS.out.drew
      have leD : w0.heap.size ≤ w0.heap.size := Nat.le_refl _
      go_region_held3 (fun w' => w'.cell? ⟨w.heap.size, 0, none⟩ = some (.int .i64 a.lo) ∧ w'.cell? ⟨w.heap.size, 1, none⟩ = some (.int .i64 a.hi) ∧ w'.cell? ⟨w.heap.size, 2, none⟩ = some (.int .i64 a.m) ∧ w'.cell? ⟨w.heap.size, 3, none⟩ = some (.int .i64 a.r) ∧ w'.cell? ⟨w.heap.size, 4, none⟩ = some (.int .i64 a.k) ∧ w'.cell? ⟨w.heap.size + 1, 0, none⟩ = some (.int .i64 b.lo) ∧ w'.cell? ⟨w.heap.size + 1, 1, none⟩ = some (.int .i64 b.hi) ∧ w'.cell? ⟨w.heap.size + 1, 2, none⟩ = some (.int .i64 b.m) ∧ w'.cell? ⟨w.heap.size + 1, 3, none⟩ = some (.int .i64 b.r) ∧ w'.cell? ⟨w.heap.size + 1, 4, none⟩ = some (.int .i64 b.k) ∧ Below w0.heap.size w0 w')
        ((refine (fun hB => ⟨(PK.out _ hB).1, (PK.out _ hB).2.1, (PK.out _ hB).2.2.1, (PK.out _ hB).2.2.2.1, (PK.out _ hB).2.2.2.2.1, (PK.out _ hB).2.2.2.2.2.1, (PK.out _ hB).2.2.2.2.2.2.1, (PK.out _ hB).2.2.2.2.2.2.2.1, (PK.out _ hB).2.2.2.2.2.2.2.2.1, (PK.out _ hB).2.2.2.2.2.2.2.2.2.1, hB⟩) (?_ : Below w0.heap.size w0 _); exact (by repeat (first | with_reducible assumption | with_reducible exact Below.refl _ _ | with_reducible refine Below.setCell ?_ (by first | omega | (dsimp only; omega) | (simp; done) | (simp; omega)) _ | with_reducible refine Below.alloc ?_ (by first | omega | (dsimp only; omega) | (simp; done) | (simp; omega)) _ | with_reducible refine Below.drew ?_))))
        (first
          | fail)
      all_goals
        go_wp2_with fail
        go_meet
        exact ⟨_, _, rfl, rfl, rfl, (by repeat (first | with_reducible assumption | with_reducible exact Below.refl _ _ | with_reducible refine Below.setCell ?_ (by first | omega | (dsimp only; omega) | (simp; done) | (simp; omega)) _ | with_reducible refine Below.alloc ?_ (by first | omega | (dsimp only; omega) | (simp; done) | (simp; omega)) _ | with_reducible refine Below.drew ?_)), (by first | omega | (dsimp only; omega) | (simp; done) | (simp; omega)), (by first | omega | (dsimp only; omega) | (simp; done) | (simp; omega)), (by first | omega | (simp; done) | (simp; omega)), (by first | (simp [go_sem, *]; done) | ((try simp [go_sem, *]); exact World.cell?_setCell_same _ _ _ (show _ = some (.int .i64 0) by first | (simp [go_sem, *]; done) | exact (hc2 _ _ (by simp)).trans (by simp [go_sem]) | exact (hc2 _ _ (by simp; omega)).trans ((hc1 _ _ (by simp)).trans (by simp [go_sem]))))), (by first | (simp [go_sem, *]; done) | ((try simp [go_sem, *]); exact World.cell?_setCell_same _ _ _ (show _ = some (.int .i64 0) by first | (simp [go_sem, *]; done) | exact (hc2 _ _ (by simp)).trans (by simp [go_sem]) | exact (hc2 _ _ (by simp; omega)).trans ((hc1 _ _ (by simp)).trans (by simp [go_sem]))))), (by first | (simp [go_sem, *]; done) | ((try simp [go_sem, *]); exact World.cell?_setCell_same _ _ _ (show _ = some (.int .i64 0) by first | (simp [go_sem, *]; done) | exact (hc2 _ _ (by simp)).trans (by simp [go_sem]) | exact (hc2 _ _ (by simp; omega)).trans ((hc1 _ _ (by simp)).trans (by simp [go_sem]))))), (by first | (simp [go_sem, *]; done) | ((try simp [go_sem, *]); exact World.cell?_setCell_same _ _ _ (show _ = some (.int .i64 0) by first | (simp [go_sem, *]; done) | exact (hc2 _ _ (by simp)).trans (by simp [go_sem]) | exact (hc2 _ _ (by simp; omega)).trans ((hc1 _ _ (by simp)).trans (by simp [go_sem]))))), (by first | (simp [go_sem, *]; done) | ((try simp [go_sem, *]); exact World.cell?_setCell_same _ _ _ (show _ = some (.int .i64 0) by first | (simp [go_sem, *]; done) | exact (hc2 _ _ (by simp)).trans (by simp [go_sem]) | exact (hc2 _ _ (by simp; omega)).trans ((hc1 _ _ (by simp)).trans (by simp [go_sem]))))), (by first | (simp [go_sem, *]; done) | ((try simp [go_sem, *]); exact World.cell?_setCell_same _ _ _ (show _ = some (.int .i64 0) by first | (simp [go_sem, *]; done) | exact (hc2 _ _ (by simp)).trans (by simp [go_sem]) | exact (hc2 _ _ (by simp; omega)).trans ((hc1 _ _ (by simp)).trans (by simp [go_sem]))))), (by first | (simp [go_sem, *]; done) | ((try simp [go_sem, *]); exact World.cell?_setCell_same _ _ _ (show _ = some (.int .i64 0) by first | (simp [go_sem, *]; done) | exact (hc2 _ _ (by simp)).trans (by simp [go_sem]) | exact (hc2 _ _ (by simp; omega)).trans ((hc1 _ _ (by simp)).trans (by simp [go_sem]))))), (by first | (simp [go_sem, *]; done) | ((try simp [go_sem, *]); exact World.cell?_setCell_same _ _ _ (show _ = some (.int .i64 0) by first | (simp [go_sem, *]; done) | exact (hc2 _ _ (by simp)).trans (by simp [go_sem]) | exact (hc2 _ _ (by simp; omega)).trans ((hc1 _ _ (by simp)).trans (by simp [go_sem]))))), (by first | (simp [go_sem, *]; done) | ((try simp [go_sem, *]); exact World.cell?_setCell_same _ _ _ (show _ = some (.int .i64 0) by first | (simp [go_sem, *]; done) | exact (hc2 _ _ (by simp)).trans (by simp [go_sem]) | exact (hc2 _ _ (by simp; omega)).trans ((hc1 _ _ (by simp)).trans (by simp [go_sem]))))), (by first | (simp [go_sem, *]; done) | ((try simp [go_sem, *]); exact World.cell?_setCell_same _ _ _ (show _ = some (.int .i64 0) by first | (simp [go_sem, *]; done) | exact (hc2 _ _ (by simp)).trans (by simp [go_sem]) | exact (hc2 _ _ (by simp; omega)).trans ((hc1 _ _ (by simp)).trans (by simp [go_sem]))))), (fun i => by simp [go_sem]), (fun i => by simp [go_sem])⟩
    case rest =>
      obtain ⟨g, h, rfl, rfl, rfl, hs1, lg, lh, ngh, y0, y1, y2, y3, y4, x0, x1, x2, x3, x4, fg, fh⟩ := hcut
      have n1 : ¬ w.heap.size + 1 + 1 = g := by omega
      have n2 : ¬ g = w.heap.size + 1 + 1 := by omega
      have n3 : ¬ w.heap.size + 1 + 1 = h := by omega
      have n4 : ¬ h = w.heap.size + 1 + 1 := by omega
      have n5 : ¬ w.heap.size + 1 + 1 + 1 = g := by omega
      have n6 : ¬ g = w.heap.size + 1 + 1 + 1 := by omega
      have n7 : ¬ w.heap.size + 1 + 1 + 1 = h := by omega
      have n8 : ¬ h = w.heap.size + 1 + 1 + 1 := by omega
      have ngh2 : ¬ h = g := fun e => ngh e.symm
      have wg : w.heap.size ≤ g := by omega
      have wh : w.heap.size ≤ h := by omega
      clear lg lh
      have Y0 := hidA y0
      have Y1 := hidA y1
      have Y2 := hidA y2
      have Y3 := hidA y3
      have Y4 := hidA y4
      have X0 := hidA x0
      have X1 := hidA x1
      have X2 := hidA x2
      have X3 := hidA x3
      have X4 := hidA x4
      have FG := hidA fg
      have FH := hidA fh
      clear fg fh y0 y1 y2 y3 y4 x0 x1 x2 x3 x4
      clear HS; have HS := hidA hs1; clear hs1 c0 c1 c2 c3 c4 c5 c6 c7 c8 c9 c10 c11 c12 c13 c14 c15 c16 c17 c18 c19 z0 z1 z2 z3 fr2 fr3; obtain ⟨c0, c1, c2, c3, c4, c5, c6, c7, c8, c9, c10, c11, c12, c13, c14, c15, c16, c17, c18, c19, z0, z1, z2, z3, fr2, fr3⟩ := PK.out _ HS.out
      have N0 := hidA c0
      have N1 := hidA c1
      have N2 := hidA c2
      have N3 := hidA c3
      have N4 := hidA c4
      have M0 := hidA c5
      have M1 := hidA c6
      have M2 := hidA c7
      have M3 := hidA c8
      have M4 := hidA c9
      have Z0 := hidA c10
      have Z1 := hidA c11
      have Z2 := hidA c12
      have Z3 := hidA c13
      have Z4 := hidA c14
      have V0 := hidA c15
      have V1 := hidA c16
      have V2 := hidA c17
      have V3 := hidA c18
      have V4 := hidA c19
      have FZ := hidA fr2
      have FV := hidA fr3
      clear c0 c1 c2 c3 c4 c5 c6 c7 c8 c9 c10 c11 c12 c13 c14 c15 c16 c17 c18 c19 z0 z1 z2 z3 fr2 fr3
      have BW := hidA (B0.out.trans (HS.out.mono B0.out.size))
      have BN : Hid (Below w.heap.size w wc) := hidA BW.out
      have leW : w.heap.size ≤ wc.heap.size := BN.out.size
      have hszb2 : w.heap.size + 1 + 1 < wc.heap.size := World.block_lt_of_cell? _ _ Z0.out
      have hszb3 : w.heap.size + 1 + 1 + 1 < wc.heap.size := World.block_lt_of_cell? _ _ V0.out
      have hszb4 : g < wc.heap.size := World.block_lt_of_cell? _ _ Y0.out
      have hszb5 : h < wc.heap.size := World.block_lt_of_cell? _ _ X0.out
      clear B0 PK HS
      have PK : Hid (∀ V, Below wc.heap.size wc V → abF V (w.heap.size) a (abF V (w.heap.size + 1) b (V.cell? ⟨w.heap.size + 1 + 1, 0, none⟩ = some (.int .i64 0) ∧ V.cell? ⟨w.heap.size + 1 + 1, 1, none⟩ = some (.int .i64 0) ∧ V.cell? ⟨w.heap.size + 1 + 1, 2, none⟩ = some (.int .i64 0) ∧ V.cell? ⟨w.heap.size + 1 + 1, 3, none⟩ = some (.int .i64 0) ∧ V.cell? ⟨w.heap.size + 1 + 1, 4, none⟩ = some (.int .i64 0) ∧ V.cell? ⟨w.heap.size + 1 + 1 + 1, 0, none⟩ = some (.int .i64 0) ∧ V.cell? ⟨w.heap.size + 1 + 1 + 1, 1, none⟩ = some (.int .i64 0) ∧ V.cell? ⟨w.heap.size + 1 + 1 + 1, 2, none⟩ = some (.int .i64 0) ∧ V.cell? ⟨w.heap.size + 1 + 1 + 1, 3, none⟩ = some (.int .i64 0) ∧ V.cell? ⟨w.heap.size + 1 + 1 + 1, 4, none⟩ = some (.int .i64 0) ∧ abF V g a (abF V h b (w.heap.size < V.heap.size ∧ w.heap.size + 1 < V.heap.size ∧ w.heap.size + 1 + 1 < V.heap.size ∧ w.heap.size + 1 + 1 + 1 < V.heap.size ∧ g < V.heap.size ∧ h < V.heap.size ∧ (∀ i, V.frozen? ⟨w.heap.size + 1 + 1, i, none⟩ = false) ∧ (∀ i, V.frozen? ⟨w.heap.size + 1 + 1 + 1, i, none⟩ = false) ∧ (∀ i, V.frozen? ⟨g, i, none⟩ = false) ∧ (∀ i, V.frozen? ⟨h, i, none⟩ = false)))))) := hidA (fun V hW => ⟨cellA hW N0.out, cellA hW N1.out, cellA hW N2.out, cellA hW N3.out, cellA hW N4.out, cellA hW M0.out, cellA hW M1.out, cellA hW M2.out, cellA hW M3.out, cellA hW M4.out, cellA hW Z0.out, cellA hW Z1.out, cellA hW Z2.out, cellA hW Z3.out, cellA hW Z4.out, cellA hW V0.out, cellA hW V1.out, cellA hW V2.out, cellA hW V3.out, cellA hW V4.out, cellA hW Y0.out, cellA hW Y1.out, cellA hW Y2.out, cellA hW Y3.out, cellA hW Y4.out, cellA hW X0.out, cellA hW X1.out, cellA hW X2.out, cellA hW X3.out, cellA hW X4.out, Nat.lt_of_lt_of_le (World.block_lt_of_cell? _ _ N0.out) hW.size, Nat.lt_of_lt_of_le (World.block_lt_of_cell? _ _ M0.out) hW.size, Nat.lt_of_lt_of_le (World.block_lt_of_cell? _ _ Z0.out) hW.size, Nat.lt_of_lt_of_le (World.block_lt_of_cell? _ _ V0.out) hW.size, Nat.lt_of_lt_of_le (World.block_lt_of_cell? _ _ Y0.out) hW.size, Nat.lt_of_lt_of_le (World.block_lt_of_cell? _ _ X0.out) hW.size, (fun i => (hW.frozen (p := ⟨w.heap.size + 1 + 1, i, none⟩) (show w.heap.size + 1 + 1 < wc.heap.size from World.block_lt_of_cell? _ _ Z0.out)).trans (FZ.out i)), (fun i => (hW.frozen (p := ⟨w.heap.size + 1 + 1 + 1, i, none⟩) (show w.heap.size + 1 + 1 + 1 < wc.heap.size from World.block_lt_of_cell? _ _ V0.out)).trans (FV.out i)), (fun i => (hW.frozen (p := ⟨g, i, none⟩) (show g < wc.heap.size from World.block_lt_of_cell? _ _ Y0.out)).trans (FG.out i)), (fun i => (hW.frozen (p := ⟨h, i, none⟩) (show h < wc.heap.size from World.block_lt_of_cell? _ _ X0.out)).trans (FH.out i))⟩)
      clear N0 N1 N2 N3 N4 M0 M1 M2 M3 M4 Z0 Z1 Z2 Z3 Z4 V0 V1 V2 V3 V4 Y0 Y1 Y2 Y3 Y4 X0 X1 X2 X3 X4 FZ FV FG FH
      have B0 := BN
      clear BN
      have HS : Hid (Below wc.heap.size wc wc) := hidA (Below.refl _ _)
      generalize wc = w0 at *
      obtain ⟨c0, c1, c2, c3, c4, c5, c6, c7, c8, c9, c10, c11, c12, c13, c14, c15, c16, c17, c18, c19, c20, c21, c22, c23, c24, c25, c26, c27, c28, c29, z0, z1, z2, z3, z4, z5, fr2, fr3, fr4, fr5⟩ := PK.out _ HS.out
      clear BW
      have hB := B0.out.size
      go_upto_region 14 with (first | (go_at_call 88; (with_reducible refine (C1.out _).mono ?_); rintro e w1 ⟨rfl, hb⟩; have hsE := HS.out; have leE := HS.out.size; have hs1 : Below w0.heap.size w0 w1 := stepA (by repeat (first | with_reducible assumption | with_reducible exact Below.refl _ _ | with_reducible refine Below.setCell ?_ (by first | omega | (dsimp only; omega) | (simp; done) | (simp; omega)) _ | with_reducible refine Below.alloc ?_ (by first | omega | (dsimp only; omega) | (simp; done) | (simp; omega)) _ | with_reducible refine Below.drew ?_)) hb; clear hb hsE leE; clear HS; have HS := hidA hs1; clear hs1 c0 c1 c2 c3 c4 c5 c6 c7 c8 c9 c10 c11 c12 c13 c14 c15 c16 c17 c18 c19 c20 c21 c22 c23 c24 c25 c26 c27 c28 c29 z0 z1 z2 z3 z4 z5 fr2 fr3 fr4 fr5; obtain ⟨c0, c1, c2, c3, c4, c5, c6, c7, c8, c9, c10, c11, c12, c13, c14, c15, c16, c17, c18, c19, c20, c21, c22, c23, c24, c25, c26, c27, c28, c29, z0, z1, z2, z3, z4, z5, fr2, fr3, fr4, fr5⟩ := PK.out _ HS.out) | (go_at_call 89; (with_reducible refine (C1.out _).mono ?_); rintro e w1 ⟨rfl, hb⟩; have hsE := HS.out; have leE := HS.out.size; have hs1 : Below w0.heap.size w0 w1 := stepA (by repeat (first | with_reducible assumption | with_reducible exact Below.refl _ _ | with_reducible refine Below.setCell ?_ (by first | omega | (dsimp only; omega) | (simp; done) | (simp; omega)) _ | with_reducible refine Below.alloc ?_ (by first | omega | (dsimp only; omega) | (simp; done) | (simp; omega)) _ | with_reducible refine Below.drew ?_)) hb; clear hb hsE leE; clear HS; have HS := hidA hs1; clear hs1 c0 c1 c2 c3 c4 c5 c6 c7 c8 c9 c10 c11 c12 c13 c14 c15 c16 c17 c18 c19 c20 c21 c22 c23 c24 c25 c26 c27 c28 c29 z0 z1 z2 z3 z4 z5 fr2 fr3 fr4 fr5; obtain ⟨c0, c1, c2, c3, c4, c5, c6, c7, c8, c9, c10, c11, c12, c13, c14, c15, c16, c17, c18, c19, c20, c21, c22, c23, c24, c25, c26, c27, c28, c29, z0, z1, z2, z3, z4, z5, fr2, fr3, fr4, fr5⟩ := PK.out _ HS.out) | (go_at_call 90; (with_reducible refine (C1.out _).mono ?_); rintro e w1 ⟨rfl, hb⟩; have hsE := HS.out; have leE := HS.out.size; have hs1 : Below w0.heap.size w0 w1 := stepA (by repeat (first | with_reducible assumption | with_reducible exact Below.refl _ _ | with_reducible refine Below.setCell ?_ (by first | omega | (dsimp only; omega) | (simp; done) | (simp; omega)) _ | with_reducible refine Below.alloc ?_ (by first | omega | (dsimp only; omega) | (simp; done) | (simp; omega)) _ | with_reducible refine Below.drew ?_)) hb; clear hb hsE leE; clear HS; have HS := hidA hs1; clear hs1 c0 c1 c2 c3 c4 c5 c6 c7 c8 c9 c10 c11 c12 c13 c14 c15 c16 c17 c18 c19 c20 c21 c22 c23 c24 c25 c26 c27 c28 c29 z0 z1 z2 z3 z4 z5 fr2 fr3 fr4 fr5; obtain ⟨c0, c1, c2, c3, c4, c5, c6, c7, c8, c9, c10, c11, c12, c13, c14, c15, c16, c17, c18, c19, c20, c21, c22, c23, c24, c25, c26, c27, c28, c29, z0, z1, z2, z3, z4, z5, fr2, fr3, fr4, fr5⟩ := PK.out _ HS.out))
      first
        | (obtain ⟨u0, hu0⟩ : ∃ u0, ((((((((((w1.setCell ⟨g, 0, none⟩ (.int .i64 xl)).setCell ⟨g, 1, none⟩ (.int .i64 xh)).setCell ⟨g, 2, none⟩ (.int .i64 xm)).setCell ⟨g, 3, none⟩ (.int .i64 xr)).setCell ⟨g, 4, none⟩ (.int .i64 xk)).setCell ⟨h, 0, none⟩ (.int .i64 yl)).setCell ⟨h, 1, none⟩ (.int .i64 yh)).setCell ⟨h, 2, none⟩ (.int .i64 ym)).setCell ⟨h, 3, none⟩ (.int .i64 yr)).setCell ⟨h, 4, none⟩ (.int .i64 yk)) = u0 := ⟨_, rfl⟩; rw [hu0])
        | (obtain ⟨u0, hu0⟩ : ∃ u0, ((((((((((w1.setCell ⟨h, 0, none⟩ (.int .i64 yl)).setCell ⟨h, 1, none⟩ (.int .i64 yh)).setCell ⟨h, 2, none⟩ (.int .i64 ym)).setCell ⟨h, 3, none⟩ (.int .i64 yr)).setCell ⟨h, 4, none⟩ (.int .i64 yk)).setCell ⟨g, 0, none⟩ (.int .i64 xl)).setCell ⟨g, 1, none⟩ (.int .i64 xh)).setCell ⟨g, 2, none⟩ (.int .i64 xm)).setCell ⟨g, 3, none⟩ (.int .i64 xr)).setCell ⟨g, 4, none⟩ (.int .i64 xk)) = u0 := ⟨_, rfl⟩; rw [hu0])
      have B3 : Hid (Below w.heap.size w u0) := hidA (by rw [← hu0]; exact (by repeat (first | with_reducible exact Below.refl _ _ | with_reducible exact HS.out | with_reducible exact B0.out | with_reducible refine Below.setCell ?_ (by first | omega | (dsimp only; omega) | (simp; done) | (simp; omega)) _ | with_reducible refine Below.alloc ?_ (by first | omega | (dsimp only; omega) | (simp; done) | (simp; omega)) _ | with_reducible refine Below.drew ?_ | with_reducible refine drewnA ?_ _ | with_reducible refine Below.trans ?_ (HS.out.mono (by first | omega | (dsimp only; omega) | (simp; done) | (simp; omega))) | with_reducible refine Below.trans ?_ (B0.out.mono (by first | omega | (dsimp only; omega) | (simp; done) | (simp; omega))))))
      have R0 : Hid (u0.cell? ⟨w.heap.size + 1 + 1, 0, none⟩ = some (.int .i64 0)) := hidA (by rw [← hu0]; simp [go_sem, n1, n2, n3, n4, n5, n6, n7, n8, ngh, ngh2, c10, c11, c12, c13, c14, z2])
      have R1 : Hid (u0.cell? ⟨w.heap.size + 1 + 1, 1, none⟩ = some (.int .i64 0)) := hidA (by rw [← hu0]; simp [go_sem, n1, n2, n3, n4, n5, n6, n7, n8, ngh, ngh2, c10, c11, c12, c13, c14, z2])
      have R2 : Hid (u0.cell? ⟨w.heap.size + 1 + 1, 2, none⟩ = some (.int .i64 0)) := hidA (by rw [← hu0]; simp [go_sem, n1, n2, n3, n4, n5, n6, n7, n8, ngh, ngh2, c10, c11, c12, c13, c14, z2])
      have R3 : Hid (u0.cell? ⟨w.heap.size + 1 + 1, 3, none⟩ = some (.int .i64 0)) := hidA (by rw [← hu0]; simp [go_sem, n1, n2, n3, n4, n5, n6, n7, n8, ngh, ngh2, c10, c11, c12, c13, c14, z2])
      have R4 : Hid (u0.cell? ⟨w.heap.size + 1 + 1, 4, none⟩ = some (.int .i64 0)) := hidA (by rw [← hu0]; simp [go_sem, n1, n2, n3, n4, n5, n6, n7, n8, ngh, ngh2, c10, c11, c12, c13, c14, z2])
      have Q0 : Hid (u0.cell? ⟨w.heap.size + 1 + 1 + 1, 0, none⟩ = some (.int .i64 0)) := hidA (by rw [← hu0]; simp [go_sem, n1, n2, n3, n4, n5, n6, n7, n8, ngh, ngh2, c15, c16, c17, c18, c19, z3])
      have Q1 : Hid (u0.cell? ⟨w.heap.size + 1 + 1 + 1, 1, none⟩ = some (.int .i64 0)) := hidA (by rw [← hu0]; simp [go_sem, n1, n2, n3, n4, n5, n6, n7, n8, ngh, ngh2, c15, c16, c17, c18, c19, z3])
      have Q2 : Hid (u0.cell? ⟨w.heap.size + 1 + 1 + 1, 2, none⟩ = some (.int .i64 0)) := hidA (by rw [← hu0]; simp [go_sem, n1, n2, n3, n4, n5, n6, n7, n8, ngh, ngh2, c15, c16, c17, c18, c19, z3])
      have Q3 : Hid (u0.cell? ⟨w.heap.size + 1 + 1 + 1, 3, none⟩ = some (.int .i64 0)) := hidA (by rw [← hu0]; simp [go_sem, n1, n2, n3, n4, n5, n6, n7, n8, ngh, ngh2, c15, c16, c17, c18, c19, z3])
      have Q4 : Hid (u0.cell? ⟨w.heap.size + 1 + 1 + 1, 4, none⟩ = some (.int .i64 0)) := hidA (by rw [← hu0]; simp [go_sem, n1, n2, n3, n4, n5, n6, n7, n8, ngh, ngh2, c15, c16, c17, c18, c19, z3])
      have O0 : Hid (u0.cell? ⟨g, 0, none⟩ = some (.int .i64 xl)) := hidA (by rw [← hu0]; simp [go_sem, n1, n2, n3, n4, n5, n6, n7, n8, ngh, ngh2, c20, c21, c22, c23, c24, z4])
      have O1 : Hid (u0.cell? ⟨g, 1, none⟩ = some (.int .i64 xh)) := hidA (by rw [← hu0]; simp [go_sem, n1, n2, n3, n4, n5, n6, n7, n8, ngh, ngh2, c20, c21, c22, c23, c24, z4])
      have O2 : Hid (u0.cell? ⟨g, 2, none⟩ = some (.int .i64 xm)) := hidA (by rw [← hu0]; simp [go_sem, n1, n2, n3, n4, n5, n6, n7, n8, ngh, ngh2, c20, c21, c22, c23, c24, z4])
      have O3 : Hid (u0.cell? ⟨g, 3, none⟩ = some (.int .i64 xr)) := hidA (by rw [← hu0]; simp [go_sem, n1, n2, n3, n4, n5, n6, n7, n8, ngh, ngh2, c20, c21, c22, c23, c24, z4])
      have O4 : Hid (u0.cell? ⟨g, 4, none⟩ = some (.int .i64 xk)) := hidA (by rw [← hu0]; simp [go_sem, n1, n2, n3, n4, n5, n6, n7, n8, ngh, ngh2, c20, c21, c22, c23, c24, z4])
      have P0 : Hid (u0.cell? ⟨h, 0, none⟩ = some (.int .i64 yl)) := hidA (by rw [← hu0]; simp [go_sem, n1, n2, n3, n4, n5, n6, n7, n8, ngh, ngh2, c25, c26, c27, c28, c29, z5])
      have P1 : Hid (u0.cell? ⟨h, 1, none⟩ = some (.int .i64 yh)) := hidA (by rw [← hu0]; simp [go_sem, n1, n2, n3, n4, n5, n6, n7, n8, ngh, ngh2, c25, c26, c27, c28, c29, z5])
      have P2 : Hid (u0.cell? ⟨h, 2, none⟩ = some (.int .i64 ym)) := hidA (by rw [← hu0]; simp [go_sem, n1, n2, n3, n4, n5, n6, n7, n8, ngh, ngh2, c25, c26, c27, c28, c29, z5])
      have P3 : Hid (u0.cell? ⟨h, 3, none⟩ = some (.int .i64 yr)) := hidA (by rw [← hu0]; simp [go_sem, n1, n2, n3, n4, n5, n6, n7, n8, ngh, ngh2, c25, c26, c27, c28, c29, z5])
      have P4 : Hid (u0.cell? ⟨h, 4, none⟩ = some (.int .i64 yk)) := hidA (by rw [← hu0]; simp [go_sem, n1, n2, n3, n4, n5, n6, n7, n8, ngh, ngh2, c25, c26, c27, c28, c29, z5])
      have FZ : Hid (∀ i, u0.frozen? ⟨w.heap.size + 1 + 1, i, none⟩ = false) := hidA (by intro i; rw [← hu0]; simp [go_sem, n1, n2, n3, n4, n5, n6, n7, n8, ngh, ngh2, fr2])
      have FV : Hid (∀ i, u0.frozen? ⟨w.heap.size + 1 + 1 + 1, i, none⟩ = false) := hidA (by intro i; rw [← hu0]; simp [go_sem, n1, n2, n3, n4, n5, n6, n7, n8, ngh, ngh2, fr3])
      clear hu0 hB
      clear c0 c1 c2 c3 c4 c5 c6 c7 c8 c9 c10 c11 c12 c13 c14 c15 c16 c17 c18 c19 c20 c21 c22 c23 c24 c25 c26 c27 c28 c29 z0 z1 z2 z3 z4 z5 fr2 fr3 fr4 fr5
      have BN : Hid (Below w.heap.size w u0) := hidA B3.out
      have leW : w.heap.size ≤ u0.heap.size := BN.out.size
      have hszb0 : w.heap.size + 1 + 1 < u0.heap.size := World.block_lt_of_cell? _ _ R0.out
      have hszb1 : w.heap.size + 1 + 1 + 1 < u0.heap.size := World.block_lt_of_cell? _ _ Q0.out
      clear B0 PK HS
      have PK : Hid (∀ V, Below u0.heap.size u0 V → V.cell? ⟨w.heap.size + 1 + 1, 0, none⟩ = some (.int .i64 0) ∧ V.cell? ⟨w.heap.size + 1 + 1, 1, none⟩ = some (.int .i64 0) ∧ V.cell? ⟨w.heap.size + 1 + 1, 2, none⟩ = some (.int .i64 0) ∧ V.cell? ⟨w.heap.size + 1 + 1, 3, none⟩ = some (.int .i64 0) ∧ V.cell? ⟨w.heap.size + 1 + 1, 4, none⟩ = some (.int .i64 0) ∧ V.cell? ⟨w.heap.size + 1 + 1 + 1, 0, none⟩ = some (.int .i64 0) ∧ V.cell? ⟨w.heap.size + 1 + 1 + 1, 1, none⟩ = some (.int .i64 0) ∧ V.cell? ⟨w.heap.size + 1 + 1 + 1, 2, none⟩ = some (.int .i64 0) ∧ V.cell? ⟨w.heap.size + 1 + 1 + 1, 3, none⟩ = some (.int .i64 0) ∧ V.cell? ⟨w.heap.size + 1 + 1 + 1, 4, none⟩ = some (.int .i64 0) ∧ V.cell? ⟨g, 0, none⟩ = some (.int .i64 xl) ∧ V.cell? ⟨g, 1, none⟩ = some (.int .i64 xh) ∧ V.cell? ⟨g, 2, none⟩ = some (.int .i64 xm) ∧ V.cell? ⟨g, 3, none⟩ = some (.int .i64 xr) ∧ V.cell? ⟨g, 4, none⟩ = some (.int .i64 xk) ∧ V.cell? ⟨h, 0, none⟩ = some (.int .i64 yl) ∧ V.cell? ⟨h, 1, none⟩ = some (.int .i64 yh) ∧ V.cell? ⟨h, 2, none⟩ = some (.int .i64 ym) ∧ V.cell? ⟨h, 3, none⟩ = some (.int .i64 yr) ∧ V.cell? ⟨h, 4, none⟩ = some (.int .i64 yk) ∧ w.heap.size + 1 + 1 < V.heap.size ∧ w.heap.size + 1 + 1 + 1 < V.heap.size ∧ g < V.heap.size ∧ h < V.heap.size ∧ (∀ i, V.frozen? ⟨w.heap.size + 1 + 1, i, none⟩ = false) ∧ (∀ i, V.frozen? ⟨w.heap.size + 1 + 1 + 1, i, none⟩ = false)) := hidA (fun V hW => ⟨cellA hW R0.out, cellA hW R1.out, cellA hW R2.out, cellA hW R3.out, cellA hW R4.out, cellA hW Q0.out, cellA hW Q1.out, cellA hW Q2.out, cellA hW Q3.out, cellA hW Q4.out, cellA hW O0.out, cellA hW O1.out, cellA hW O2.out, cellA hW O3.out, cellA hW O4.out, cellA hW P0.out, cellA hW P1.out, cellA hW P2.out, cellA hW P3.out, cellA hW P4.out, Nat.lt_of_lt_of_le (World.block_lt_of_cell? _ _ R0.out) hW.size, Nat.lt_of_lt_of_le (World.block_lt_of_cell? _ _ Q0.out) hW.size, Nat.lt_of_lt_of_le (World.block_lt_of_cell? _ _ O0.out) hW.size, Nat.lt_of_lt_of_le (World.block_lt_of_cell? _ _ P0.out) hW.size, (fun i => (hW.frozen (p := ⟨w.heap.size + 1 + 1, i, none⟩) (show w.heap.size + 1 + 1 < u0.heap.size from World.block_lt_of_cell? _ _ R0.out)).trans (FZ.out i)), (fun i => (hW.frozen (p := ⟨w.heap.size + 1 + 1 + 1, i, none⟩) (show w.heap.size + 1 + 1 + 1 < u0.heap.size from World.block_lt_of_cell? _ _ Q0.out)).trans (FV.out i))⟩)
      clear R0 R1 R2 R3 R4 Q0 Q1 Q2 Q3 Q4 O0 O1 O2 O3 O4 P0 P1 P2 P3 P4 FZ FV
      have B0 := BN
      clear BN
      have HS : Hid (Below u0.heap.size u0 u0) := hidA (Below.refl _ _)
      generalize u0 = w0 at *
      obtain ⟨c0, c1, c2, c3, c4, c5, c6, c7, c8, c9, c10, c11, c12, c13, c14, c15, c16, c17, c18, c19, z0, z1, z2, z3, fr0, fr1⟩ := PK.out _ HS.out
      cases ok
      · go_wp2_with fail
        exact bodyPost_ret (v := .tuple #[.agg #[.int .i64 0, .int .i64 0, .int .i64 0, .int .i64 0, .int .i64 0], .agg #[.int .i64 0, .int .i64 0, .int .i64 0, .int .i64 0, .int .i64 0], .bool false]) (by simp [results, Try.results63, go_sem, c0, c1, c2, c3, c4, c5, c6, c7, c8, c9, z0, z1, fr0, fr1, n1, n2, n3, n4, n5, n6, n7, n8]) rfl ⟨by rfl, (by repeat (first | with_reducible exact Below.refl _ _ | with_reducible exact HS.out | with_reducible exact B0.out | with_reducible refine Below.setCell ?_ (by first | omega | (dsimp only; omega) | (simp; done) | (simp; omega)) _ | with_reducible refine Below.alloc ?_ (by first | omega | (dsimp only; omega) | (simp; done) | (simp; omega)) _ | with_reducible refine Below.drew ?_ | with_reducible refine drewnA ?_ _ | with_reducible refine Below.trans ?_ (HS.out.mono (by first | omega | (dsimp only; omega) | (simp; done) | (simp; omega))) | with_reducible refine Below.trans ?_ (B0.out.mono (by first | omega | (dsimp only; omega) | (simp; done) | (simp; omega)))))⟩
      · go_wp2_with fail
        go_region
        all_goals
          go_wp2
          exact bodyPost_ret (v := .tuple #[.agg #[.int .i64 xl, .int .i64 xh, .int .i64 xm, .int .i64 xr, .int .i64 xk], .agg #[.int .i64 yl, .int .i64 yh, .int .i64 ym, .int .i64 yr, .int .i64 yk], .bool true]) (by simp [results, Try.results63, go_sem, c0, c1, c2, c3, c4, c5, c6, c7, c8, c9, z0, z1, fr0, fr1, n1, n2, n3, n4, n5, n6, n7, n8]) rfl ⟨by rfl, (by repeat (first | with_reducible exact Below.refl _ _ | with_reducible exact HS.out | with_reducible exact B0.out | with_reducible refine Below.setCell ?_ (by first | omega | (dsimp only; omega) | (simp; done) | (simp; omega)) _ | with_reducible refine Below.alloc ?_ (by first | omega | (dsimp only; omega) | (simp; done) | (simp; omega)) _ | with_reducible refine Below.drew ?_ | with_reducible refine drewnA ?_ _ | with_reducible refine Below.trans ?_ (HS.out.mono (by first | omega | (dsimp only; omega) | (simp; done) | (simp; omega))) | with_reducible refine Below.trans ?_ (B0.out.mono (by first | omega | (dsimp only; omega) | (simp; done) | (simp; omega)))))⟩
set_option maxRecDepth 100000 in
set_option maxHeartbeats 4000000 in
theorem rf_no (a b : Ab) (n : Int) (holds : Bool) (h2 : (n == 2) = false) (h3 : (n == 3) = false) (h4 : (n == 4) = false)  (w : World) :
    Calls Try.prog 63 #[.int .i64 n, .bool holds, .agg #[.int .i64 a.lo, .int .i64 a.hi, .int .i64 a.m, .int .i64 a.r, .int .i64 a.k], .agg #[.int .i64 b.lo, .int .i64 b.hi, .int .i64 b.m, .int .i64 b.r, .int .i64 b.k]] w fun e w' => e = .returned (.tuple #[.agg #[.int .i64 a.lo, .int .i64 a.hi, .int .i64 a.m, .int .i64 a.r, .int .i64 a.k], .agg #[.int .i64 b.lo, .int .i64 b.hi, .int .i64 b.m, .int .i64 b.r, .int .i64 b.k], .bool true]) ∧ Below w.heap.size w w' := by
  obtain ⟨w0, hw0⟩ : ∃ w0, ((((w.alloc (.cells #[.int .i64 a.lo, .int .i64 a.hi, .int .i64 a.m, .int .i64 a.r, .int .i64 a.k] 27)).alloc (.cells #[.int .i64 b.lo, .int .i64 b.hi, .int .i64 b.m, .int .i64 b.r, .int .i64 b.k] 27)).alloc (.cells #[.int .i64 0, .int .i64 0, .int .i64 0, .int .i64 0, .int .i64 0] 27)).alloc (.cells #[.int .i64 0, .int .i64 0, .int .i64 0, .int .i64 0, .int .i64 0] 27)) = w0 := ⟨_, rfl⟩
  have B0 : Hid (Below w.heap.size w w0) := hidA (by rw [← hw0]; exact (alA (alA (alA (alA (Below.refl _ _) _) _) _) _))
  have hsz : w.heap.size + 1 + 1 + 1 < w0.heap.size := by rw [← hw0]; simp
  have PK : Hid (∀ W, Below w0.heap.size w0 W → abF W (w.heap.size) a (abF W (w.heap.size + 1) b (W.cell? ⟨w.heap.size + 1 + 1, 0, none⟩ = some (.int .i64 0) ∧ W.cell? ⟨w.heap.size + 1 + 1, 1, none⟩ = some (.int .i64 0) ∧ W.cell? ⟨w.heap.size + 1 + 1, 2, none⟩ = some (.int .i64 0) ∧ W.cell? ⟨w.heap.size + 1 + 1, 3, none⟩ = some (.int .i64 0) ∧ W.cell? ⟨w.heap.size + 1 + 1, 4, none⟩ = some (.int .i64 0) ∧ W.cell? ⟨w.heap.size + 1 + 1 + 1, 0, none⟩ = some (.int .i64 0) ∧ W.cell? ⟨w.heap.size + 1 + 1 + 1, 1, none⟩ = some (.int .i64 0) ∧ W.cell? ⟨w.heap.size + 1 + 1 + 1, 2, none⟩ = some (.int .i64 0) ∧ W.cell? ⟨w.heap.size + 1 + 1 + 1, 3, none⟩ = some (.int .i64 0) ∧ W.cell? ⟨w.heap.size + 1 + 1 + 1, 4, none⟩ = some (.int .i64 0) ∧ w.heap.size < W.heap.size ∧ w.heap.size + 1 < W.heap.size ∧ w.heap.size + 1 + 1 < W.heap.size ∧ w.heap.size + 1 + 1 + 1 < W.heap.size ∧ (∀ i, W.frozen? ⟨w.heap.size + 1 + 1, i, none⟩ = false) ∧ (∀ i, W.frozen? ⟨w.heap.size + 1 + 1 + 1, i, none⟩ = false)))) := hidA (fun W hW => by and_intros <;> first | exact cellA hW (by rw [← hw0]; simp [go_sem]) | exact (by have h0 := hW.size; have h1 := hsz; omega) | exact (fun i => (hW.frozen (p := ⟨w.heap.size + 1 + 1, i, none⟩) (show w.heap.size + 1 + 1 < w0.heap.size by have h1 := hsz; omega)).trans (by rw [← hw0]; simp [go_sem])) | exact (fun i => (hW.frozen (p := ⟨w.heap.size + 1 + 1 + 1, i, none⟩) (show w.heap.size + 1 + 1 + 1 < w0.heap.size by have h1 := hsz; omega)).trans (by rw [← hw0]; simp [go_sem])))
  have Hw := hidA hw0; clear hw0
  go_enter Try.func63, Try.ntmps63
  go_wp2_with fail
  rw [Hw.out]
  clear Hw
  have HS : Hid (Below w0.heap.size w0 w0) := hidA (Below.refl _ _)
  obtain ⟨c0, c1, c2, c3, c4, c5, c6, c7, c8, c9, c10, c11, c12, c13, c14, c15, c16, c17, c18, c19, z0, z1, z2, z3, fr2, fr3⟩ := PK.out _ HS.out
  go_cut [11, 12, 13] (fun u v z W => ∃ g h : Nat, u = .pointer (some ⟨g, 0, none⟩) ∧ v = .pointer (some ⟨h, 0, none⟩) ∧ z = .bool true ∧ Below w0.heap.size w0 W ∧ w0.heap.size ≤ g ∧ w0.heap.size ≤ h ∧ ¬ g = h ∧ W.cell? ⟨g, 0, none⟩ = some (.int .i64 a.lo) ∧ W.cell? ⟨g, 1, none⟩ = some (.int .i64 a.hi) ∧ W.cell? ⟨g, 2, none⟩ = some (.int .i64 a.m) ∧ W.cell? ⟨g, 3, none⟩ = some (.int .i64 a.r) ∧ W.cell? ⟨g, 4, none⟩ = some (.int .i64 a.k) ∧ W.cell? ⟨h, 0, none⟩ = some (.int .i64 b.lo) ∧ W.cell? ⟨h, 1, none⟩ = some (.int .i64 b.hi) ∧ W.cell? ⟨h, 2, none⟩ = some (.int .i64 b.m) ∧ W.cell? ⟨h, 3, none⟩ = some (.int .i64 b.r) ∧ W.cell? ⟨h, 4, none⟩ = some (.int .i64 b.k) ∧ (∀ i, W.frozen? ⟨g, i, none⟩ = false) ∧ (∀ i, W.frozen? ⟨h, i, none⟩ = false))
  case first =>
    have hsD := HS.out.drew
    have leD : w0.heap.size ≤ w0.heap.size := Nat.le_refl _
    go_region_held3 (fun w' => w'.cell? ⟨w.heap.size, 0, none⟩ = some (.int .i64 a.lo) ∧ w'.cell? ⟨w.heap.size, 1, none⟩ = some (.int .i64 a.hi) ∧ w'.cell? ⟨w.heap.size, 2, none⟩ = some (.int .i64 a.m) ∧ w'.cell? ⟨w.heap.size, 3, none⟩ = some (.int .i64 a.r) ∧ w'.cell? ⟨w.heap.size, 4, none⟩ = some (.int .i64 a.k) ∧ w'.cell? ⟨w.heap.size + 1, 0, none⟩ = some (.int .i64 b.lo) ∧ w'.cell? ⟨w.heap.size + 1, 1, none⟩ = some (.int .i64 b.hi) ∧ w'.cell? ⟨w.heap.size + 1, 2, none⟩ = some (.int .i64 b.m) ∧ w'.cell? ⟨w.heap.size + 1, 3, none⟩ = some (.int .i64 b.r) ∧ w'.cell? ⟨w.heap.size + 1, 4, none⟩ = some (.int .i64 b.k) ∧ Below w0.heap.size w0 w')
      ((refine (fun hB => ⟨(PK.out _ hB).1, (PK.out _ hB).2.1, (PK.out _ hB).2.2.1, (PK.out _ hB).2.2.2.1, (PK.out _ hB).2.2.2.2.1, (PK.out _ hB).2.2.2.2.2.1, (PK.out _ hB).2.2.2.2.2.2.1, (PK.out _ hB).2.2.2.2.2.2.2.1, (PK.out _ hB).2.2.2.2.2.2.2.2.1, (PK.out _ hB).2.2.2.2.2.2.2.2.2.1, hB⟩) (?_ : Below w0.heap.size w0 _); exact (by repeat (first | with_reducible assumption | with_reducible exact Below.refl _ _ | with_reducible refine Below.setCell ?_ (by first | omega | (dsimp only; omega) | (simp; done) | (simp; omega)) _ | with_reducible refine Below.alloc ?_ (by first | omega | (dsimp only; omega) | (simp; done) | (simp; omega)) _ | with_reducible refine Below.drew ?_))))
      (first
        | fail)
    all_goals
      go_wp2_with fail
      go_meet
      exact ⟨_, _, rfl, rfl, rfl, (by repeat (first | with_reducible assumption | with_reducible exact Below.refl _ _ | with_reducible refine Below.setCell ?_ (by first | omega | (dsimp only; omega) | (simp; done) | (simp; omega)) _ | with_reducible refine Below.alloc ?_ (by first | omega | (dsimp only; omega) | (simp; done) | (simp; omega)) _ | with_reducible refine Below.drew ?_)), (by first | omega | (dsimp only; omega) | (simp; done) | (simp; omega)), (by first | omega | (dsimp only; omega) | (simp; done) | (simp; omega)), (by first | omega | (simp; done) | (simp; omega)), (by first | (simp [go_sem, *]; done) | ((try simp [go_sem, *]); exact World.cell?_setCell_same _ _ _ (show _ = some (.int .i64 0) by first | (simp [go_sem, *]; done) | exact (hc2 _ _ (by simp)).trans (by simp [go_sem]) | exact (hc2 _ _ (by simp; omega)).trans ((hc1 _ _ (by simp)).trans (by simp [go_sem]))))), (by first | (simp [go_sem, *]; done) | ((try simp [go_sem, *]); exact World.cell?_setCell_same _ _ _ (show _ = some (.int .i64 0) by first | (simp [go_sem, *]; done) | exact (hc2 _ _ (by simp)).trans (by simp [go_sem]) | exact (hc2 _ _ (by simp; omega)).trans ((hc1 _ _ (by simp)).trans (by simp [go_sem]))))), (by first | (simp [go_sem, *]; done) | ((try simp [go_sem, *]); exact World.cell?_setCell_same _ _ _ (show _ = some (.int .i64 0) by first | (simp [go_sem, *]; done) | exact (hc2 _ _ (by simp)).trans (by simp [go_sem]) | exact (hc2 _ _ (by simp; omega)).trans ((hc1 _ _ (by simp)).trans (by simp [go_sem]))))), (by first | (simp [go_sem, *]; done) | ((try simp [go_sem, *]); exact World.cell?_setCell_same _ _ _ (show _ = some (.int .i64 0) by first | (simp [go_sem, *]; done) | exact (hc2 _ _ (by simp)).trans (by simp [go_sem]) | exact (hc2 _ _ (by simp; omega)).trans ((hc1 _ _ (by simp)).trans (by simp [go_sem]))))), (by first | (simp [go_sem, *]; done) | ((try simp [go_sem, *]); exact World.cell?_setCell_same _ _ _ (show _ = some (.int .i64 0) by first | (simp [go_sem, *]; done) | exact (hc2 _ _ (by simp)).trans (by simp [go_sem]) | exact (hc2 _ _ (by simp; omega)).trans ((hc1 _ _ (by simp)).trans (by simp [go_sem]))))), (by first | (simp [go_sem, *]; done) | ((try simp [go_sem, *]); exact World.cell?_setCell_same _ _ _ (show _ = some (.int .i64 0) by first | (simp [go_sem, *]; done) | exact (hc2 _ _ (by simp)).trans (by simp [go_sem]) | exact (hc2 _ _ (by simp; omega)).trans ((hc1 _ _ (by simp)).trans (by simp [go_sem]))))), (by first | (simp [go_sem, *]; done) | ((try simp [go_sem, *]); exact World.cell?_setCell_same _ _ _ (show _ = some (.int .i64 0) by first | (simp [go_sem, *]; done) | exact (hc2 _ _ (by simp)).trans (by simp [go_sem]) | exact (hc2 _ _ (by simp; omega)).trans ((hc1 _ _ (by simp)).trans (by simp [go_sem]))))), (by first | (simp [go_sem, *]; done) | ((try simp [go_sem, *]); exact World.cell?_setCell_same _ _ _ (show _ = some (.int .i64 0) by first | (simp [go_sem, *]; done) | exact (hc2 _ _ (by simp)).trans (by simp [go_sem]) | exact (hc2 _ _ (by simp; omega)).trans ((hc1 _ _ (by simp)).trans (by simp [go_sem]))))), (by first | (simp [go_sem, *]; done) | ((try simp [go_sem, *]); exact World.cell?_setCell_same _ _ _ (show _ = some (.int .i64 0) by first | (simp [go_sem, *]; done) | exact (hc2 _ _ (by simp)).trans (by simp [go_sem]) | exact (hc2 _ _ (by simp; omega)).trans ((hc1 _ _ (by simp)).trans (by simp [go_sem]))))), (by first | (simp [go_sem, *]; done) | ((try simp [go_sem, *]); exact World.cell?_setCell_same _ _ _ (show _ = some (.int .i64 0) by first | (simp [go_sem, *]; done) | exact (hc2 _ _ (by simp)).trans (by simp [go_sem]) | exact (hc2 _ _ (by simp; omega)).trans ((hc1 _ _ (by simp)).trans (by simp [go_sem]))))), (fun i => by simp [go_sem]), (fun i => by simp [go_sem])⟩
  case rest =>
    obtain ⟨g, h, rfl, rfl, rfl, hs1, lg, lh, ngh, y0, y1, y2, y3, y4, x0, x1, x2, x3, x4, fg, fh⟩ := hcut
    have n1 : ¬ w.heap.size + 1 + 1 = g := by omega
    have n2 : ¬ g = w.heap.size + 1 + 1 := by omega
    have n3 : ¬ w.heap.size + 1 + 1 = h := by omega
    have n4 : ¬ h = w.heap.size + 1 + 1 := by omega
    have n5 : ¬ w.heap.size + 1 + 1 + 1 = g := by omega
    have n6 : ¬ g = w.heap.size + 1 + 1 + 1 := by omega
    have n7 : ¬ w.heap.size + 1 + 1 + 1 = h := by omega
    have n8 : ¬ h = w.heap.size + 1 + 1 + 1 := by omega
    have ngh2 : ¬ h = g := fun e => ngh e.symm
    have wg : w.heap.size ≤ g := by omega
    have wh : w.heap.size ≤ h := by omega
    clear lg lh
    have Y0 := hidA y0
    have Y1 := hidA y1
    have Y2 := hidA y2
    have Y3 := hidA y3
    have Y4 := hidA y4
    have X0 := hidA x0
    have X1 := hidA x1
    have X2 := hidA x2
    have X3 := hidA x3
    have X4 := hidA x4
    have FG := hidA fg
    have FH := hidA fh
    clear fg fh y0 y1 y2 y3 y4 x0 x1 x2 x3 x4
    clear HS; have HS := hidA hs1; clear hs1 c0 c1 c2 c3 c4 c5 c6 c7 c8 c9 c10 c11 c12 c13 c14 c15 c16 c17 c18 c19 z0 z1 z2 z3 fr2 fr3; obtain ⟨c0, c1, c2, c3, c4, c5, c6, c7, c8, c9, c10, c11, c12, c13, c14, c15, c16, c17, c18, c19, z0, z1, z2, z3, fr2, fr3⟩ := PK.out _ HS.out
    have N0 := hidA c0
    have N1 := hidA c1
    have N2 := hidA c2
    have N3 := hidA c3
    have N4 := hidA c4
    have M0 := hidA c5
    have M1 := hidA c6
    have M2 := hidA c7
    have M3 := hidA c8
    have M4 := hidA c9
    have Z0 := hidA c10
    have Z1 := hidA c11
    have Z2 := hidA c12
    have Z3 := hidA c13
    have Z4 := hidA c14
    have V0 := hidA c15
    have V1 := hidA c16
    have V2 := hidA c17
    have V3 := hidA c18
    have V4 := hidA c19
    have FZ := hidA fr2
    have FV := hidA fr3
    clear c0 c1 c2 c3 c4 c5 c6 c7 c8 c9 c10 c11 c12 c13 c14 c15 c16 c17 c18 c19 z0 z1 z2 z3 fr2 fr3
    have BW := hidA (B0.out.trans (HS.out.mono B0.out.size))
    have BN : Hid (Below w.heap.size w wc) := hidA BW.out
    have leW : w.heap.size ≤ wc.heap.size := BN.out.size
    have hszb2 : w.heap.size + 1 + 1 < wc.heap.size := World.block_lt_of_cell? _ _ Z0.out
    have hszb3 : w.heap.size + 1 + 1 + 1 < wc.heap.size := World.block_lt_of_cell? _ _ V0.out
    have hszb4 : g < wc.heap.size := World.block_lt_of_cell? _ _ Y0.out
    have hszb5 : h < wc.heap.size := World.block_lt_of_cell? _ _ X0.out
    clear B0 PK HS
    have PK : Hid (∀ V, Below wc.heap.size wc V → abF V (w.heap.size) a (abF V (w.heap.size + 1) b (V.cell? ⟨w.heap.size + 1 + 1, 0, none⟩ = some (.int .i64 0) ∧ V.cell? ⟨w.heap.size + 1 + 1, 1, none⟩ = some (.int .i64 0) ∧ V.cell? ⟨w.heap.size + 1 + 1, 2, none⟩ = some (.int .i64 0) ∧ V.cell? ⟨w.heap.size + 1 + 1, 3, none⟩ = some (.int .i64 0) ∧ V.cell? ⟨w.heap.size + 1 + 1, 4, none⟩ = some (.int .i64 0) ∧ V.cell? ⟨w.heap.size + 1 + 1 + 1, 0, none⟩ = some (.int .i64 0) ∧ V.cell? ⟨w.heap.size + 1 + 1 + 1, 1, none⟩ = some (.int .i64 0) ∧ V.cell? ⟨w.heap.size + 1 + 1 + 1, 2, none⟩ = some (.int .i64 0) ∧ V.cell? ⟨w.heap.size + 1 + 1 + 1, 3, none⟩ = some (.int .i64 0) ∧ V.cell? ⟨w.heap.size + 1 + 1 + 1, 4, none⟩ = some (.int .i64 0) ∧ abF V g a (abF V h b (w.heap.size < V.heap.size ∧ w.heap.size + 1 < V.heap.size ∧ w.heap.size + 1 + 1 < V.heap.size ∧ w.heap.size + 1 + 1 + 1 < V.heap.size ∧ g < V.heap.size ∧ h < V.heap.size ∧ (∀ i, V.frozen? ⟨w.heap.size + 1 + 1, i, none⟩ = false) ∧ (∀ i, V.frozen? ⟨w.heap.size + 1 + 1 + 1, i, none⟩ = false) ∧ (∀ i, V.frozen? ⟨g, i, none⟩ = false) ∧ (∀ i, V.frozen? ⟨h, i, none⟩ = false)))))) := hidA (fun V hW => ⟨cellA hW N0.out, cellA hW N1.out, cellA hW N2.out, cellA hW N3.out, cellA hW N4.out, cellA hW M0.out, cellA hW M1.out, cellA hW M2.out, cellA hW M3.out, cellA hW M4.out, cellA hW Z0.out, cellA hW Z1.out, cellA hW Z2.out, cellA hW Z3.out, cellA hW Z4.out, cellA hW V0.out, cellA hW V1.out, cellA hW V2.out, cellA hW V3.out, cellA hW V4.out, cellA hW Y0.out, cellA hW Y1.out, cellA hW Y2.out, cellA hW Y3.out, cellA hW Y4.out, cellA hW X0.out, cellA hW X1.out, cellA hW X2.out, cellA hW X3.out, cellA hW X4.out, Nat.lt_of_lt_of_le (World.block_lt_of_cell? _ _ N0.out) hW.size, Nat.lt_of_lt_of_le (World.block_lt_of_cell? _ _ M0.out) hW.size, Nat.lt_of_lt_of_le (World.block_lt_of_cell? _ _ Z0.out) hW.size, Nat.lt_of_lt_of_le (World.block_lt_of_cell? _ _ V0.out) hW.size, Nat.lt_of_lt_of_le (World.block_lt_of_cell? _ _ Y0.out) hW.size, Nat.lt_of_lt_of_le (World.block_lt_of_cell? _ _ X0.out) hW.size, (fun i => (hW.frozen (p := ⟨w.heap.size + 1 + 1, i, none⟩) (show w.heap.size + 1 + 1 < wc.heap.size from World.block_lt_of_cell? _ _ Z0.out)).trans (FZ.out i)), (fun i => (hW.frozen (p := ⟨w.heap.size + 1 + 1 + 1, i, none⟩) (show w.heap.size + 1 + 1 + 1 < wc.heap.size from World.block_lt_of_cell? _ _ V0.out)).trans (FV.out i)), (fun i => (hW.frozen (p := ⟨g, i, none⟩) (show g < wc.heap.size from World.block_lt_of_cell? _ _ Y0.out)).trans (FG.out i)), (fun i => (hW.frozen (p := ⟨h, i, none⟩) (show h < wc.heap.size from World.block_lt_of_cell? _ _ X0.out)).trans (FH.out i))⟩)
    clear N0 N1 N2 N3 N4 M0 M1 M2 M3 M4 Z0 Z1 Z2 Z3 Z4 V0 V1 V2 V3 V4 Y0 Y1 Y2 Y3 Y4 X0 X1 X2 X3 X4 FZ FV FG FH
    have B0 := BN
    clear BN
    have HS : Hid (Below wc.heap.size wc wc) := hidA (Below.refl _ _)
    generalize wc = w0 at *
    obtain ⟨c0, c1, c2, c3, c4, c5, c6, c7, c8, c9, c10, c11, c12, c13, c14, c15, c16, c17, c18, c19, c20, c21, c22, c23, c24, c25, c26, c27, c28, c29, z0, z1, z2, z3, z4, z5, fr2, fr3, fr4, fr5⟩ := PK.out _ HS.out
    clear BW
    go_upto_region 14 with (fail)
    have R0 := hidA c10
    have R1 := hidA c11
    have R2 := hidA c12
    have R3 := hidA c13
    have R4 := hidA c14
    have Q0 := hidA c15
    have Q1 := hidA c16
    have Q2 := hidA c17
    have Q3 := hidA c18
    have Q4 := hidA c19
    have O0 := hidA c20
    have O1 := hidA c21
    have O2 := hidA c22
    have O3 := hidA c23
    have O4 := hidA c24
    have P0 := hidA c25
    have P1 := hidA c26
    have P2 := hidA c27
    have P3 := hidA c28
    have P4 := hidA c29
    have FZ := hidA fr2
    have FV := hidA fr3
    clear c0 c1 c2 c3 c4 c5 c6 c7 c8 c9 c10 c11 c12 c13 c14 c15 c16 c17 c18 c19 c20 c21 c22 c23 c24 c25 c26 c27 c28 c29 z0 z1 z2 z3 z4 z5 fr2 fr3 fr4 fr5
    have BW := hidA (B0.out.trans (HS.out.mono B0.out.size))
    obtain ⟨wc, hwc⟩ : ∃ wc, w0 = wc := ⟨_, rfl⟩
    subst hwc
    have BN : Hid (Below w.heap.size w w0) := hidA BW.out
    have leW : w.heap.size ≤ w0.heap.size := BN.out.size
    have hszb0 : w.heap.size + 1 + 1 < w0.heap.size := World.block_lt_of_cell? _ _ R0.out
    have hszb1 : w.heap.size + 1 + 1 + 1 < w0.heap.size := World.block_lt_of_cell? _ _ Q0.out
    clear B0 PK HS
    have PK : Hid (∀ V, Below w0.heap.size w0 V → V.cell? ⟨w.heap.size + 1 + 1, 0, none⟩ = some (.int .i64 0) ∧ V.cell? ⟨w.heap.size + 1 + 1, 1, none⟩ = some (.int .i64 0) ∧ V.cell? ⟨w.heap.size + 1 + 1, 2, none⟩ = some (.int .i64 0) ∧ V.cell? ⟨w.heap.size + 1 + 1, 3, none⟩ = some (.int .i64 0) ∧ V.cell? ⟨w.heap.size + 1 + 1, 4, none⟩ = some (.int .i64 0) ∧ V.cell? ⟨w.heap.size + 1 + 1 + 1, 0, none⟩ = some (.int .i64 0) ∧ V.cell? ⟨w.heap.size + 1 + 1 + 1, 1, none⟩ = some (.int .i64 0) ∧ V.cell? ⟨w.heap.size + 1 + 1 + 1, 2, none⟩ = some (.int .i64 0) ∧ V.cell? ⟨w.heap.size + 1 + 1 + 1, 3, none⟩ = some (.int .i64 0) ∧ V.cell? ⟨w.heap.size + 1 + 1 + 1, 4, none⟩ = some (.int .i64 0) ∧ abF V g a (abF V h b (w.heap.size + 1 + 1 < V.heap.size ∧ w.heap.size + 1 + 1 + 1 < V.heap.size ∧ g < V.heap.size ∧ h < V.heap.size ∧ (∀ i, V.frozen? ⟨w.heap.size + 1 + 1, i, none⟩ = false) ∧ (∀ i, V.frozen? ⟨w.heap.size + 1 + 1 + 1, i, none⟩ = false)))) := hidA (fun V hW => ⟨cellA hW R0.out, cellA hW R1.out, cellA hW R2.out, cellA hW R3.out, cellA hW R4.out, cellA hW Q0.out, cellA hW Q1.out, cellA hW Q2.out, cellA hW Q3.out, cellA hW Q4.out, cellA hW O0.out, cellA hW O1.out, cellA hW O2.out, cellA hW O3.out, cellA hW O4.out, cellA hW P0.out, cellA hW P1.out, cellA hW P2.out, cellA hW P3.out, cellA hW P4.out, Nat.lt_of_lt_of_le (World.block_lt_of_cell? _ _ R0.out) hW.size, Nat.lt_of_lt_of_le (World.block_lt_of_cell? _ _ Q0.out) hW.size, Nat.lt_of_lt_of_le (World.block_lt_of_cell? _ _ O0.out) hW.size, Nat.lt_of_lt_of_le (World.block_lt_of_cell? _ _ P0.out) hW.size, (fun i => (hW.frozen (p := ⟨w.heap.size + 1 + 1, i, none⟩) (show w.heap.size + 1 + 1 < w0.heap.size from World.block_lt_of_cell? _ _ R0.out)).trans (FZ.out i)), (fun i => (hW.frozen (p := ⟨w.heap.size + 1 + 1 + 1, i, none⟩) (show w.heap.size + 1 + 1 + 1 < w0.heap.size from World.block_lt_of_cell? _ _ Q0.out)).trans (FV.out i))⟩)
    clear R0 R1 R2 R3 R4 Q0 Q1 Q2 Q3 Q4 O0 O1 O2 O3 O4 P0 P1 P2 P3 P4 FZ FV
    have B0 := BN
    clear BN
    have HS : Hid (Below w0.heap.size w0 w0) := hidA (Below.refl _ _)
    skip
    obtain ⟨c0, c1, c2, c3, c4, c5, c6, c7, c8, c9, c10, c11, c12, c13, c14, c15, c16, c17, c18, c19, z0, z1, z2, z3, fr0, fr1⟩ := PK.out _ HS.out
    go_wp2_with fail
    go_region
    all_goals
      go_wp2
      exact bodyPost_ret (v := .tuple #[.agg #[.int .i64 a.lo, .int .i64 a.hi, .int .i64 a.m, .int .i64 a.r, .int .i64 a.k], .agg #[.int .i64 b.lo, .int .i64 b.hi, .int .i64 b.m, .int .i64 b.r, .int .i64 b.k], .bool true]) (by simp [results, Try.results63, go_sem, c0, c1, c2, c3, c4, c5, c6, c7, c8, c9, z0, z1, fr0, fr1, n1, n2, n3, n4, n5, n6, n7, n8]) rfl ⟨by rfl, (by repeat (first | with_reducible exact Below.refl _ _ | with_reducible exact HS.out | with_reducible exact B0.out | with_reducible refine Below.setCell ?_ (by first | omega | (dsimp only; omega) | (simp; done) | (simp; omega)) _ | with_reducible refine Below.alloc ?_ (by first | omega | (dsimp only; omega) | (simp; done) | (simp; omega)) _ | with_reducible refine Below.drew ?_ | with_reducible refine drewnA ?_ _ | with_reducible refine Below.trans ?_ (HS.out.mono (by first | omega | (dsimp only; omega) | (simp; done) | (simp; omega))) | with_reducible refine Below.trans ?_ (B0.out.mono (by first | omega | (dsimp only; omega) | (simp; done) | (simp; omega)))))⟩
end
end Go.Proofs.Ytdopjadlbhacfaa

import Derived.Test.YtdopjadlbhacfaaBv
import Derived.Deep.Cut
import Derived.Deep.DeepCutAuto
namespace Go.Proofs.Ytdopjadlbhacfaa
section
open Go.RowKit Go.Instr Sp
set_option linter.unusedVariables false
set_option linter.unusedSimpArgs false

/-! The reference's meets: the walk. -/
set_option maxRecDepth 100000 in
set_option maxHeartbeats 4000000 in
theorem rmeet_1 (a b x : Ab) (is : Bool) (am1 : (a.m == 0) = false) (am2 : (a.m != 0) = true) (am3 : ¬ a.m = 0) (bm1 : (b.m == 0) = false) (bm2 : (b.m != 0) = true) (bm3 : ¬ b.m = 0) (K d1 q1 : Int) (mk : bits .and .i64 (a.k : Int) (b.k : Int) = K) (e1 : IntKind.i64.wrap (a.hi - a.lo) = d1) (e2 : IntKind.i64.wrap (d1.tdiv a.m) = q1) (c1 : q1 < 64) (CF : Hid (∀ w, Calls Try.prog 53 #[.agg #[.int .i64 a.lo, .int .i64 a.hi, .int .i64 a.m, .int .i64 a.r, .int .i64 a.k], .agg #[.int .i64 b.lo, .int .i64 b.hi, .int .i64 b.m, .int .i64 b.r, .int .i64 b.k], .int .i64 K] w fun e w' => e = .returned (.agg #[.int .i64 x.lo, .int .i64 x.hi, .int .i64 x.m, .int .i64 x.r, .int .i64 x.k, .bool is]) ∧ Below w.heap.size w w')) (w : World) :
    Calls Try.prog 21 #[.agg #[.int .i64 a.lo, .int .i64 a.hi, .int .i64 a.m, .int .i64 a.r, .int .i64 a.k], .agg #[.int .i64 b.lo, .int .i64 b.hi, .int .i64 b.m, .int .i64 b.r, .int .i64 b.k]] w fun e w' => e = .returned (.agg #[.int .i64 x.lo, .int .i64 x.hi, .int .i64 x.m, .int .i64 x.r, .int .i64 x.k, .bool is]) ∧ Below w.heap.size w w' := by
  obtain ⟨w0, hw0⟩ : ∃ w0, (((w.alloc (.cells #[.int .i64 a.lo, .int .i64 a.hi, .int .i64 a.m, .int .i64 a.r, .int .i64 a.k] 27)).alloc (.cells #[.int .i64 b.lo, .int .i64 b.hi, .int .i64 b.m, .int .i64 b.r, .int .i64 b.k] 27)).alloc (.cells #[.int .i64 0, .int .i64 0, .int .i64 0, .int .i64 0, .int .i64 0, .bool false] 37)) = w0 := ⟨_, rfl⟩
  have B0 : Hid (Below w.heap.size w w0) := hidA (by rw [← hw0]; exact (alA (alA (alA (Below.refl _ _) _) _) _))
  have hsz : w.heap.size + 1 + 1 < w0.heap.size := by rw [← hw0]; simp
  have PK : Hid (∀ W, Below w0.heap.size w0 W → abF W (w.heap.size) a (abF W (w.heap.size + 1) b (W.cell? ⟨w.heap.size + 1 + 1, 0, none⟩ = some (.int .i64 0) ∧ W.cell? ⟨w.heap.size + 1 + 1, 1, none⟩ = some (.int .i64 0) ∧ W.cell? ⟨w.heap.size + 1 + 1, 2, none⟩ = some (.int .i64 0) ∧ W.cell? ⟨w.heap.size + 1 + 1, 3, none⟩ = some (.int .i64 0) ∧ W.cell? ⟨w.heap.size + 1 + 1, 4, none⟩ = some (.int .i64 0) ∧ W.cell? ⟨w.heap.size + 1 + 1, 5, none⟩ = some (.bool false) ∧ w.heap.size < W.heap.size ∧ w.heap.size + 1 < W.heap.size ∧ w.heap.size + 1 + 1 < W.heap.size ∧ (∀ i, W.frozen? ⟨w.heap.size + 1 + 1, i, none⟩ = false)))) := hidA (fun W hW => by and_intros <;> first | exact cellA hW (by rw [← hw0]; simp [go_sem]) | exact (by have h0 := hW.size; have h1 := hsz; omega) | exact (fun i => (hW.frozen (p := ⟨w.heap.size + 1 + 1, i, none⟩) (show w.heap.size + 1 + 1 < w0.heap.size by have h1 := hsz; omega)).trans (by rw [← hw0]; simp [go_sem])))
  have Hw := hidA hw0; clear hw0
  go_enter Try.func21, Try.ntmps21
  go_wp2_with fail
  rw [Hw.out]
  clear Hw
  have HS : Hid (Below w0.heap.size w0 w0) := hidA (Below.refl _ _)
  obtain ⟨c0, c1, c2, c3, c4, c5, c6, c7, c8, c9, c10, c11, c12, c13, c14, c15, z0, z1, z2, fr2⟩ := PK.out _ HS.out
  go_wp2_with ((go_at_call 53; (with_reducible refine (CF.out _).mono ?_); rintro e w1 ⟨rfl, hb⟩; have hsE := HS.out; have leE := HS.out.size; have hs1 : Below w0.heap.size w0 w1 := stepA (by repeat (first | with_reducible assumption | with_reducible exact Below.refl _ _ | with_reducible refine Below.setCell ?_ (by first | omega | (dsimp only; omega) | (simp; done) | (simp; omega)) _ | with_reducible refine Below.alloc ?_ (by first | omega | (dsimp only; omega) | (simp; done) | (simp; omega)) _ | with_reducible refine Below.drew ?_)) hb; clear hb hsE leE; clear HS; have HS := hidA hs1; clear hs1 c0 c1 c2 c3 c4 c5 c6 c7 c8 c9 c10 c11 c12 c13 c14 c15 z0 z1 z2 fr2; obtain ⟨c0, c1, c2, c3, c4, c5, c6, c7, c8, c9, c10, c11, c12, c13, c14, c15, z0, z1, z2, fr2⟩ := PK.out _ HS.out))
  exact bodyPost_ret (v := .agg #[.int .i64 x.lo, .int .i64 x.hi, .int .i64 x.m, .int .i64 x.r, .int .i64 x.k, .bool is]) (by simp [results, Try.results21, go_sem, c10, c11, c12, c13, c14, c15, z2, fr2]) rfl ⟨by rfl, (by repeat (first | with_reducible exact Below.refl _ _ | with_reducible exact HS.out | with_reducible exact B0.out | with_reducible refine Below.setCell ?_ (by first | omega | (dsimp only; omega) | (simp; done) | (simp; omega)) _ | with_reducible refine Below.alloc ?_ (by first | omega | (dsimp only; omega) | (simp; done) | (simp; omega)) _ | with_reducible refine Below.drew ?_ | with_reducible refine drewnA ?_ _ | with_reducible refine Below.trans ?_ (HS.out.mono (by first | omega | (dsimp only; omega) | (simp; done) | (simp; omega))) | with_reducible refine Below.trans ?_ (B0.out.mono (by first | omega | (dsimp only; omega) | (simp; done) | (simp; omega)))))⟩
set_option maxRecDepth 100000 in
set_option maxHeartbeats 4000000 in
theorem rmeet_2 (a b x : Ab) (is : Bool) (am1 : (a.m == 0) = false) (am2 : (a.m != 0) = true) (am3 : ¬ a.m = 0) (bm1 : (b.m == 0) = false) (bm2 : (b.m != 0) = true) (bm3 : ¬ b.m = 0) (K d1 q1 : Int) (mk : bits .and .i64 (a.k : Int) (b.k : Int) = K) (e1 : IntKind.i64.wrap (a.hi - a.lo) = d1) (e2 : IntKind.i64.wrap (d1.tdiv a.m) = q1) (d2 q2 : Int) (e3 : IntKind.i64.wrap (b.hi - b.lo) = d2) (e4 : IntKind.i64.wrap (d2.tdiv b.m) = q2) (c1 : ¬ q1 < 64) (c2 : q2 < 64) (CF : Hid (∀ w, Calls Try.prog 53 #[.agg #[.int .i64 b.lo, .int .i64 b.hi, .int .i64 b.m, .int .i64 b.r, .int .i64 b.k], .agg #[.int .i64 a.lo, .int .i64 a.hi, .int .i64 a.m, .int .i64 a.r, .int .i64 a.k], .int .i64 K] w fun e w' => e = .returned (.agg #[.int .i64 x.lo, .int .i64 x.hi, .int .i64 x.m, .int .i64 x.r, .int .i64 x.k, .bool is]) ∧ Below w.heap.size w w')) (w : World) :
    Calls Try.prog 21 #[.agg #[.int .i64 a.lo, .int .i64 a.hi, .int .i64 a.m, .int .i64 a.r, .int .i64 a.k], .agg #[.int .i64 b.lo, .int .i64 b.hi, .int .i64 b.m, .int .i64 b.r, .int .i64 b.k]] w fun e w' => e = .returned (.agg #[.int .i64 x.lo, .int .i64 x.hi, .int .i64 x.m, .int .i64 x.r, .int .i64 x.k, .bool is]) ∧ Below w.heap.size w w' := by
  obtain ⟨w0, hw0⟩ : ∃ w0, (((w.alloc (.cells #[.int .i64 a.lo, .int .i64 a.hi, .int .i64 a.m, .int .i64 a.r, .int .i64 a.k] 27)).alloc (.cells #[.int .i64 b.lo, .int .i64 b.hi, .int .i64 b.m, .int .i64 b.r, .int .i64 b.k] 27)).alloc (.cells #[.int .i64 0, .int .i64 0, .int .i64 0, .int .i64 0, .int .i64 0, .bool false] 37)) = w0 := ⟨_, rfl⟩
  have B0 : Hid (Below w.heap.size w w0) := hidA (by rw [← hw0]; exact (alA (alA (alA (Below.refl _ _) _) _) _))
  have hsz : w.heap.size + 1 + 1 < w0.heap.size := by rw [← hw0]; simp
  have PK : Hid (∀ W, Below w0.heap.size w0 W → abF W (w.heap.size) a (abF W (w.heap.size + 1) b (W.cell? ⟨w.heap.size + 1 + 1, 0, none⟩ = some (.int .i64 0) ∧ W.cell? ⟨w.heap.size + 1 + 1, 1, none⟩ = some (.int .i64 0) ∧ W.cell? ⟨w.heap.size + 1 + 1, 2, none⟩ = some (.int .i64 0) ∧ W.cell? ⟨w.heap.size + 1 + 1, 3, none⟩ = some (.int .i64 0) ∧ W.cell? ⟨w.heap.size + 1 + 1, 4, none⟩ = some (.int .i64 0) ∧ W.cell? ⟨w.heap.size + 1 + 1, 5, none⟩ = some (.bool false) ∧ w.heap.size < W.heap.size ∧ w.heap.size + 1 < W.heap.size ∧ w.heap.size + 1 + 1 < W.heap.size ∧ (∀ i, W.frozen? ⟨w.heap.size + 1 + 1, i, none⟩ = false)))) := hidA (fun W hW => by and_intros <;> first | exact cellA hW (by rw [← hw0]; simp [go_sem]) | exact (by have h0 := hW.size; have h1 := hsz; omega) | exact (fun i => (hW.frozen (p := ⟨w.heap.size + 1 + 1, i, none⟩) (show w.heap.size + 1 + 1 < w0.heap.size by have h1 := hsz; omega)).trans (by rw [← hw0]; simp [go_sem])))
  have Hw := hidA hw0; clear hw0
  go_enter Try.func21, Try.ntmps21
  go_wp2_with fail
  rw [Hw.out]
  clear Hw
  have HS : Hid (Below w0.heap.size w0 w0) := hidA (Below.refl _ _)
  obtain ⟨c0, c1, c2, c3, c4, c5, c6, c7, c8, c9, c10, c11, c12, c13, c14, c15, z0, z1, z2, fr2⟩ := PK.out _ HS.out
  go_wp2_with ((go_at_call 53; (with_reducible refine (CF.out _).mono ?_); rintro e w1 ⟨rfl, hb⟩; have hsE := HS.out; have leE := HS.out.size; have hs1 : Below w0.heap.size w0 w1 := stepA (by repeat (first | with_reducible assumption | with_reducible exact Below.refl _ _ | with_reducible refine Below.setCell ?_ (by first | omega | (dsimp only; omega) | (simp; done) | (simp; omega)) _ | with_reducible refine Below.alloc ?_ (by first | omega | (dsimp only; omega) | (simp; done) | (simp; omega)) _ | with_reducible refine Below.drew ?_)) hb; clear hb hsE leE; clear HS; have HS := hidA hs1; clear hs1 c0 c1 c2 c3 c4 c5 c6 c7 c8 c9 c10 c11 c12 c13 c14 c15 z0 z1 z2 fr2; obtain ⟨c0, c1, c2, c3, c4, c5, c6, c7, c8, c9, c10, c11, c12, c13, c14, c15, z0, z1, z2, fr2⟩ := PK.out _ HS.out))
  exact bodyPost_ret (v := .agg #[.int .i64 x.lo, .int .i64 x.hi, .int .i64 x.m, .int .i64 x.r, .int .i64 x.k, .bool is]) (by simp [results, Try.results21, go_sem, c10, c11, c12, c13, c14, c15, z2, fr2]) rfl ⟨by rfl, (by repeat (first | with_reducible exact Below.refl _ _ | with_reducible exact HS.out | with_reducible exact B0.out | with_reducible refine Below.setCell ?_ (by first | omega | (dsimp only; omega) | (simp; done) | (simp; omega)) _ | with_reducible refine Below.alloc ?_ (by first | omega | (dsimp only; omega) | (simp; done) | (simp; omega)) _ | with_reducible refine Below.drew ?_ | with_reducible refine drewnA ?_ _ | with_reducible refine Below.trans ?_ (HS.out.mono (by first | omega | (dsimp only; omega) | (simp; done) | (simp; omega))) | with_reducible refine Below.trans ?_ (B0.out.mono (by first | omega | (dsimp only; omega) | (simp; done) | (simp; omega)))))⟩
set_option maxRecDepth 100000 in
set_option maxHeartbeats 4000000 in
theorem rmeet_3 (a b : Ab) (am1 : (a.m == 0) = false) (am2 : (a.m != 0) = true) (am3 : ¬ a.m = 0) (bm1 : (b.m == 0) = false) (bm2 : (b.m != 0) = true) (bm3 : ¬ b.m = 0) (K d1 q1 : Int) (mk : bits .and .i64 (a.k : Int) (b.k : Int) = K) (e1 : IntKind.i64.wrap (a.hi - a.lo) = d1) (e2 : IntKind.i64.wrap (d1.tdiv a.m) = q1) (d2 q2 : Int) (e3 : IntKind.i64.wrap (b.hi - b.lo) = d2) (e4 : IntKind.i64.wrap (d2.tdiv b.m) = q2) (c1 : ¬ q1 < 64) (c2 : ¬ q2 < 64) (g e r0 : Int) (CG : Hid (∀ w, Calls Try.prog 49 #[.int .i64 a.m, .int .i64 b.m] w fun e w' => e = .returned (.int .i64 g) ∧ Below w.heap.size w w')) (e5 : IntKind.i64.wrap (a.lo - b.lo) = e) (CM1 : Hid (∀ w, Calls Try.prog 42 #[.int .i64 e, .int .i64 g] w fun e w' => e = .returned (.int .i64 r0) ∧ w = w')) (t1 : (r0 == 0) = false) (t2 : (r0 != 0) = true) (w : World) :
    Calls Try.prog 21 #[.agg #[.int .i64 a.lo, .int .i64 a.hi, .int .i64 a.m, .int .i64 a.r, .int .i64 a.k], .agg #[.int .i64 b.lo, .int .i64 b.hi, .int .i64 b.m, .int .i64 b.r, .int .i64 b.k]] w fun e w' => e = .returned (.agg #[.int .i64 0, .int .i64 0, .int .i64 0, .int .i64 0, .int .i64 0, .bool false]) ∧ Below w.heap.size w w' := by
  obtain ⟨w0, hw0⟩ : ∃ w0, (((w.alloc (.cells #[.int .i64 a.lo, .int .i64 a.hi, .int .i64 a.m, .int .i64 a.r, .int .i64 a.k] 27)).alloc (.cells #[.int .i64 b.lo, .int .i64 b.hi, .int .i64 b.m, .int .i64 b.r, .int .i64 b.k] 27)).alloc (.cells #[.int .i64 0, .int .i64 0, .int .i64 0, .int .i64 0, .int .i64 0, .bool false] 37)) = w0 := ⟨_, rfl⟩
  have B0 : Hid (Below w.heap.size w w0) := hidA (by rw [← hw0]; exact (alA (alA (alA (Below.refl _ _) _) _) _))
  have hsz : w.heap.size + 1 + 1 < w0.heap.size := by rw [← hw0]; simp
  have PK : Hid (∀ W, Below w0.heap.size w0 W → abF W (w.heap.size) a (abF W (w.heap.size + 1) b (W.cell? ⟨w.heap.size + 1 + 1, 0, none⟩ = some (.int .i64 0) ∧ W.cell? ⟨w.heap.size + 1 + 1, 1, none⟩ = some (.int .i64 0) ∧ W.cell? ⟨w.heap.size + 1 + 1, 2, none⟩ = some (.int .i64 0) ∧ W.cell? ⟨w.heap.size + 1 + 1, 3, none⟩ = some (.int .i64 0) ∧ W.cell? ⟨w.heap.size + 1 + 1, 4, none⟩ = some (.int .i64 0) ∧ W.cell? ⟨w.heap.size + 1 + 1, 5, none⟩ = some (.bool false) ∧ w.heap.size < W.heap.size ∧ w.heap.size + 1 < W.heap.size ∧ w.heap.size + 1 + 1 < W.heap.size ∧ (∀ i, W.frozen? ⟨w.heap.size + 1 + 1, i, none⟩ = false)))) := hidA (fun W hW => by and_intros <;> first | exact cellA hW (by rw [← hw0]; simp [go_sem]) | exact (by have h0 := hW.size; have h1 := hsz; omega) | exact (fun i => (hW.frozen (p := ⟨w.heap.size + 1 + 1, i, none⟩) (show w.heap.size + 1 + 1 < w0.heap.size by have h1 := hsz; omega)).trans (by rw [← hw0]; simp [go_sem])))
  have Hw := hidA hw0; clear hw0
  go_enter Try.func21, Try.ntmps21
  go_wp2_with fail
  rw [Hw.out]
  clear Hw
  have HS : Hid (Below w0.heap.size w0 w0) := hidA (Below.refl _ _)
  obtain ⟨c0, c1, c2, c3, c4, c5, c6, c7, c8, c9, c10, c11, c12, c13, c14, c15, z0, z1, z2, fr2⟩ := PK.out _ HS.out
  go_quiet (fail)
  have hs1 := drewnA HS.out nq
  generalize w0.drewN nq = wd at *
  clear HS; have HS := hidA hs1; clear hs1 c0 c1 c2 c3 c4 c5 c6 c7 c8 c9 c10 c11 c12 c13 c14 c15 z0 z1 z2 fr2; obtain ⟨c0, c1, c2, c3, c4, c5, c6, c7, c8, c9, c10, c11, c12, c13, c14, c15, z0, z1, z2, fr2⟩ := PK.out _ HS.out
  go_wp2_with (first | (go_at_call 49; (with_reducible refine (CG.out _).mono ?_); rintro e w1 ⟨rfl, hb⟩; have hsE := HS.out; have leE := HS.out.size; have hs1 : Below w0.heap.size w0 w1 := stepA (by repeat (first | with_reducible assumption | with_reducible exact Below.refl _ _ | with_reducible refine Below.setCell ?_ (by first | omega | (dsimp only; omega) | (simp; done) | (simp; omega)) _ | with_reducible refine Below.alloc ?_ (by first | omega | (dsimp only; omega) | (simp; done) | (simp; omega)) _ | with_reducible refine Below.drew ?_)) hb; clear hb hsE leE; clear HS; have HS := hidA hs1; clear hs1 c0 c1 c2 c3 c4 c5 c6 c7 c8 c9 c10 c11 c12 c13 c14 c15 z0 z1 z2 fr2; obtain ⟨c0, c1, c2, c3, c4, c5, c6, c7, c8, c9, c10, c11, c12, c13, c14, c15, z0, z1, z2, fr2⟩ := PK.out _ HS.out) | (go_at_call 42; refine (CM1.out _).mono ?_; rintro e w1 ⟨rfl, rfl⟩))
  exact bodyPost_ret (v := .agg #[.int .i64 0, .int .i64 0, .int .i64 0, .int .i64 0, .int .i64 0, .bool false]) (by simp [results, Try.results21, go_sem, c10, c11, c12, c13, c14, c15, z2, fr2]) rfl ⟨by rfl, (by repeat (first | with_reducible exact Below.refl _ _ | with_reducible exact HS.out | with_reducible exact B0.out | with_reducible refine Below.setCell ?_ (by first | omega | (dsimp only; omega) | (simp; done) | (simp; omega)) _ | with_reducible refine Below.alloc ?_ (by first | omega | (dsimp only; omega) | (simp; done) | (simp; omega)) _ | with_reducible refine Below.drew ?_ | with_reducible refine drewnA ?_ _ | with_reducible refine Below.trans ?_ (HS.out.mono (by first | omega | (dsimp only; omega) | (simp; done) | (simp; omega))) | with_reducible refine Below.trans ?_ (B0.out.mono (by first | omega | (dsimp only; omega) | (simp; done) | (simp; omega)))))⟩
set_option maxRecDepth 100000 in
set_option maxHeartbeats 8000000 in
theorem rmeet_4 (a b : Ab) (am1 : (a.m == 0) = false) (am2 : (a.m != 0) = true) (am3 : ¬ a.m = 0) (bm1 : (b.m == 0) = false) (bm2 : (b.m != 0) = true) (bm3 : ¬ b.m = 0) (K d1 q1 : Int) (mk : bits .and .i64 (a.k : Int) (b.k : Int) = K) (e1 : IntKind.i64.wrap (a.hi - a.lo) = d1) (e2 : IntKind.i64.wrap (d1.tdiv a.m) = q1) (d2 q2 : Int) (e3 : IntKind.i64.wrap (b.hi - b.lo) = d2) (e4 : IntKind.i64.wrap (d2.tdiv b.m) = q2) (c1 : ¬ q1 < 64) (c2 : ¬ q2 < 64) (g e r0 : Int) (CG : Hid (∀ w, Calls Try.prog 49 #[.int .i64 a.m, .int .i64 b.m] w fun e w' => e = .returned (.int .i64 g) ∧ Below w.heap.size w w')) (e5 : IntKind.i64.wrap (a.lo - b.lo) = e) (CM1 : Hid (∀ w, Calls Try.prog 42 #[.int .i64 e, .int .i64 g] w fun e w' => e = .returned (.int .i64 r0) ∧ w = w')) (t1 : (r0 == 0) = true) (t2 : (r0 != 0) = false) (g1 : (g == 0) = false) (g2 : (g != 0) = true) (g3 : ¬ g = 0) (d q n sg u v x1 k y1 f L lo hi z z2 F : Int) (h1 : IntKind.i64.wrap (b.lo - a.lo) = d) (h2 : IntKind.i64.wrap (d.tdiv g) = q) (h3 : IntKind.i64.wrap (b.m.tdiv g) = n) (h4 : IntKind.i64.wrap (a.m.tdiv g) = sg) (CM2 : Hid (∀ w, Calls Try.prog 42 #[.int .i64 q, .int .i64 n] w fun e w' => e = .returned (.int .i64 u) ∧ w = w')) (CI : Hid (∀ w, Calls Try.prog 54 #[.int .i64 sg, .int .i64 n] w fun e w' => e = .returned (.int .i64 v) ∧ w = w')) (h5 : IntKind.i64.wrap (u * v) = x1) (CM3 : Hid (∀ w, Calls Try.prog 42 #[.int .i64 x1, .int .i64 n] w fun e w' => e = .returned (.int .i64 k) ∧ w = w')) (h6 : IntKind.i64.wrap (a.m * k) = y1) (h7 : IntKind.i64.wrap (a.lo + y1) = f) (h8 : IntKind.i64.wrap (sg * b.m) = L) (h9 : (if a.lo < b.lo then b.lo else a.lo) = lo) (h10 : (if b.hi < a.hi then b.hi else a.hi) = hi) (h11 : IntKind.i64.wrap (f - lo) = z) (CM4 : Hid (∀ w, Calls Try.prog 42 #[.int .i64 z, .int .i64 L] w fun e w' => e = .returned (.int .i64 z2) ∧ w = w')) (h12 : IntKind.i64.wrap (lo + z2) = F) (c3 : hi < F) (w : World) :
    Calls Try.prog 21 #[.agg #[.int .i64 a.lo, .int .i64 a.hi, .int .i64 a.m, .int .i64 a.r, .int .i64 a.k], .agg #[.int .i64 b.lo, .int .i64 b.hi, .int .i64 b.m, .int .i64 b.r, .int .i64 b.k]] w fun e w' => e = .returned (.agg #[.int .i64 0, .int .i64 0, .int .i64 0, .int .i64 0, .int .i64 0, .bool false]) ∧ Below w.heap.size w w' := by
  obtain ⟨w0, hw0⟩ : ∃ w0, (((w.alloc (.cells #[.int .i64 a.lo, .int .i64 a.hi, .int .i64 a.m, .int .i64 a.r, .int .i64 a.k] 27)).alloc (.cells #[.int .i64 b.lo, .int .i64 b.hi, .int .i64 b.m, .int .i64 b.r, .int .i64 b.k] 27)).alloc (.cells #[.int .i64 0, .int .i64 0, .int .i64 0, .int .i64 0, .int .i64 0, .bool false] 37)) = w0 := ⟨_, rfl⟩
  have B0 : Hid (Below w.heap.size w w0) := hidA (by rw [← hw0]; exact (alA (alA (alA (Below.refl _ _) _) _) _))
  have hsz : w.heap.size + 1 + 1 < w0.heap.size := by rw [← hw0]; simp
  have PK : Hid (∀ W, Below w0.heap.size w0 W → abF W (w.heap.size) a (abF W (w.heap.size + 1) b (W.cell? ⟨w.heap.size + 1 + 1, 0, none⟩ = some (.int .i64 0) ∧ W.cell? ⟨w.heap.size + 1 + 1, 1, none⟩ = some (.int .i64 0) ∧ W.cell? ⟨w.heap.size + 1 + 1, 2, none⟩ = some (.int .i64 0) ∧ W.cell? ⟨w.heap.size + 1 + 1, 3, none⟩ = some (.int .i64 0) ∧ W.cell? ⟨w.heap.size + 1 + 1, 4, none⟩ = some (.int .i64 0) ∧ W.cell? ⟨w.heap.size + 1 + 1, 5, none⟩ = some (.bool false) ∧ w.heap.size < W.heap.size ∧ w.heap.size + 1 < W.heap.size ∧ w.heap.size + 1 + 1 < W.heap.size ∧ (∀ i, W.frozen? ⟨w.heap.size + 1 + 1, i, none⟩ = false)))) := hidA (fun W hW => by and_intros <;> first | exact cellA hW (by rw [← hw0]; simp [go_sem]) | exact (by have h0 := hW.size; have h1 := hsz; omega) | exact (fun i => (hW.frozen (p := ⟨w.heap.size + 1 + 1, i, none⟩) (show w.heap.size + 1 + 1 < w0.heap.size by have h1 := hsz; omega)).trans (by rw [← hw0]; simp [go_sem])))
  have Hw := hidA hw0; clear hw0
  go_enter Try.func21, Try.ntmps21
  go_wp2_with fail
  rw [Hw.out]
  clear Hw
  have HS : Hid (Below w0.heap.size w0 w0) := hidA (Below.refl _ _)
  obtain ⟨c0, c1, c2, c3, c4, c5, c6, c7, c8, c9, c10, c11, c12, c13, c14, c15, z0, z1, z2, fr2⟩ := PK.out _ HS.out
  go_quiet (fail)
  have hs1 := drewnA HS.out nq
  generalize w0.drewN nq = wd at *
  clear HS; have HS := hidA hs1; clear hs1 c0 c1 c2 c3 c4 c5 c6 c7 c8 c9 c10 c11 c12 c13 c14 c15 z0 z1 z2 fr2; obtain ⟨c0, c1, c2, c3, c4, c5, c6, c7, c8, c9, c10, c11, c12, c13, c14, c15, z0, z1, z2, fr2⟩ := PK.out _ HS.out
  go_wp2_with (first | (go_at_call 49; (with_reducible refine (CG.out _).mono ?_); rintro e w1 ⟨rfl, hb⟩; have hsE := HS.out; have leE := HS.out.size; have hs1 : Below w0.heap.size w0 w1 := stepA (by repeat (first | with_reducible assumption | with_reducible exact Below.refl _ _ | with_reducible refine Below.setCell ?_ (by first | omega | (dsimp only; omega) | (simp; done) | (simp; omega)) _ | with_reducible refine Below.alloc ?_ (by first | omega | (dsimp only; omega) | (simp; done) | (simp; omega)) _ | with_reducible refine Below.drew ?_)) hb; clear hb hsE leE; clear HS; have HS := hidA hs1; clear hs1 c0 c1 c2 c3 c4 c5 c6 c7 c8 c9 c10 c11 c12 c13 c14 c15 z0 z1 z2 fr2; obtain ⟨c0, c1, c2, c3, c4, c5, c6, c7, c8, c9, c10, c11, c12, c13, c14, c15, z0, z1, z2, fr2⟩ := PK.out _ HS.out) | (go_at_call 42; refine (CM1.out _).mono ?_; rintro e w1 ⟨rfl, rfl⟩))
  refine' wp_region_det (by kernel_rfl) [_, _, _, _, _, _, _, _, _, _, _, _, _, _, _, _, _, _, _, _, _, _, _, _, _, _, _, _, _] (fun W => Below w0.heap.size w0 W) (by kernel_rfl) HS.out.drew ?steps1 ?rest1
  case steps1 =>
    simp only [putAll, Act.put, List.setIfInBounds_toArray, List.set_cons_zero, List.set_cons_succ]
    refine detSteps_cons ?_ ?_
    · (refine det_run [2] (by kernel_rfl) (by rfl) (fun a ha W hW => ?_); have g2 : a.tmps[2]? = some _ := (ha 2 rfl).trans rfl; clear ha; go_simp; first  | (refine yield1_value ?_ hW; exact rfl))
    refine detSteps_cons ?_ ?_
    · (refine det_run [60] (by kernel_rfl) (by rfl) (fun a ha W hW => ?_); have g60 : a.tmps[60]? = some _ := (ha 60 rfl).trans rfl; clear ha; obtain ⟨c0, c1, c2, c3, c4, c5, c6, c7, c8, c9, c10, c11, c12, c13, c14, c15, z0, z1, z2, fr2⟩ := PK.out _ hW; go_simp; first  | (refine yield1_value ?_ hW; exact rfl))
    refine detSteps_cons ?_ ?_
    · (refine det_run [6] (by kernel_rfl) (by rfl) (fun a ha W hW => ?_); have g6 : a.tmps[6]? = some _ := (ha 6 rfl).trans rfl; clear ha; go_simp; first  | (refine yield1_value ?_ hW; exact rfl))
    refine detSteps_cons ?_ ?_
    · (refine det_run [3] (by kernel_rfl) (by rfl) (fun a ha W hW => ?_); have g3 : a.tmps[3]? = some _ := (ha 3 rfl).trans rfl; clear ha; go_simp; first  | (refine yield1_value ?_ hW; exact rfl))
    refine detSteps_cons ?_ ?_
    · (refine det_run [63] (by kernel_rfl) (by rfl) (fun a ha W hW => ?_); have g63 : a.tmps[63]? = some _ := (ha 63 rfl).trans rfl; clear ha; obtain ⟨c0, c1, c2, c3, c4, c5, c6, c7, c8, c9, c10, c11, c12, c13, c14, c15, z0, z1, z2, fr2⟩ := PK.out _ hW; go_simp; first  | (refine yield1_value ?_ hW; exact rfl))
    refine detSteps_cons ?_ ?_
    · (refine det_run [2] (by kernel_rfl) (by rfl) (fun a ha W hW => ?_); have g2 : a.tmps[2]? = some _ := (ha 2 rfl).trans rfl; clear ha; go_simp; first  | (refine yield1_value ?_ hW; exact rfl))
    refine detSteps_cons ?_ ?_
    · (refine det_run [65] (by kernel_rfl) (by rfl) (fun a ha W hW => ?_); have g65 : a.tmps[65]? = some _ := (ha 65 rfl).trans rfl; clear ha; obtain ⟨c0, c1, c2, c3, c4, c5, c6, c7, c8, c9, c10, c11, c12, c13, c14, c15, z0, z1, z2, fr2⟩ := PK.out _ hW; go_simp; first  | (refine yield1_value ?_ hW; exact rfl))
    refine detSteps_cons ?_ ?_
    · (refine det_run [64, 66] (by kernel_rfl) (by rfl) (fun a ha W hW => ?_); have g64 : a.tmps[64]? = some _ := (ha 64 rfl).trans rfl; have g66 : a.tmps[66]? = some _ := (ha 66 rfl).trans rfl; clear ha; go_simp; first  | (refine yield1_value ?_ hW; exact rfl))
    refine detSteps_cons ?_ ?_
    · (refine det_run [8] (by kernel_rfl) (by rfl) (fun a ha W hW => ?_); have g8 : a.tmps[8]? = some _ := (ha 8 rfl).trans rfl; clear ha; go_simp; first  | (refine yield1_value ?_ hW; exact rfl))
    refine detSteps_cons ?_ ?_
    · (refine det_run [67, 68] (by kernel_rfl) (by rfl) (fun a ha W hW => ?_); have g67 : a.tmps[67]? = some _ := (ha 67 rfl).trans rfl; have g68 : a.tmps[68]? = some _ := (ha 68 rfl).trans rfl; clear ha; go_simp; first  | (refine yield1_value ?_ hW; exact rfl))
    refine detSteps_cons ?_ ?_
    · (refine det_run [7] (by kernel_rfl) (by rfl) (fun a ha W hW => ?_); have g7 : a.tmps[7]? = some _ := (ha 7 rfl).trans rfl; clear ha; go_simp; first  | (refine yield1_value ?_ hW; exact rfl))
    refine detSteps_cons ?_ ?_
    · (refine det_run [8] (by kernel_rfl) (by rfl) (fun a ha W hW => ?_); have g8 : a.tmps[8]? = some _ := (ha 8 rfl).trans rfl; clear ha; go_simp; first  | (refine yield1_value ?_ hW; exact rfl))
    refine detSteps_cons ?_ ?_
    · (refine det_run [70, 71] (by kernel_rfl) (by rfl) (fun a ha W hW => ?_); have g70 : a.tmps[70]? = some _ := (ha 70 rfl).trans rfl; have g71 : a.tmps[71]? = some _ := (ha 71 rfl).trans rfl; clear ha; go_simp; first  | (refine yield1_value ?_ hW; exact rfl))
    refine detSteps_cons ?_ ?_
    · (refine det_run [69, 72] (by kernel_rfl) (by rfl) (fun a ha W hW => ?_); have g69 : a.tmps[69]? = some _ := (ha 69 rfl).trans rfl; have g72 : a.tmps[72]? = some _ := (ha 72 rfl).trans rfl; clear ha; go_simp; first  | (refine yield1_enter ?_; go_at_call 42; (with_reducible refine (CM2.out _).mono ?_); rintro e w1 ⟨rfl, rfl⟩; (refine And.intro ?_ hW); exact rfl) | (refine yield1_enter ?_; go_at_call 42; (with_reducible refine (CM3.out _).mono ?_); rintro e w1 ⟨rfl, rfl⟩; (refine And.intro ?_ hW); exact rfl) | (refine yield1_enter ?_; go_at_call 54; (with_reducible refine (CI.out _).mono ?_); rintro e w1 ⟨rfl, rfl⟩; (refine And.intro ?_ hW); exact rfl) | (refine yield1_value ?_ hW; exact rfl))
    refine detSteps_cons ?_ ?_
    · (refine det_run [6] (by kernel_rfl) (by rfl) (fun a ha W hW => ?_); have g6 : a.tmps[6]? = some _ := (ha 6 rfl).trans rfl; clear ha; go_simp; first  | (refine yield1_value ?_ hW; exact rfl))
    refine detSteps_cons ?_ ?_
    · (refine det_run [8] (by kernel_rfl) (by rfl) (fun a ha W hW => ?_); have g8 : a.tmps[8]? = some _ := (ha 8 rfl).trans rfl; clear ha; go_simp; first  | (refine yield1_value ?_ hW; exact rfl))
    refine detSteps_cons ?_ ?_
    · (refine det_run [74, 75] (by kernel_rfl) (by rfl) (fun a ha W hW => ?_); have g74 : a.tmps[74]? = some _ := (ha 74 rfl).trans rfl; have g75 : a.tmps[75]? = some _ := (ha 75 rfl).trans rfl; clear ha; go_simp; first  | (refine yield1_value ?_ hW; exact rfl))
    refine detSteps_cons ?_ ?_
    · (refine det_run [7] (by kernel_rfl) (by rfl) (fun a ha W hW => ?_); have g7 : a.tmps[7]? = some _ := (ha 7 rfl).trans rfl; clear ha; go_simp; first  | (refine yield1_value ?_ hW; exact rfl))
    refine detSteps_cons ?_ ?_
    · (refine det_run [8] (by kernel_rfl) (by rfl) (fun a ha W hW => ?_); have g8 : a.tmps[8]? = some _ := (ha 8 rfl).trans rfl; clear ha; go_simp; first  | (refine yield1_value ?_ hW; exact rfl))
    refine detSteps_cons ?_ ?_
    · (refine det_run [77, 78] (by kernel_rfl) (by rfl) (fun a ha W hW => ?_); have g77 : a.tmps[77]? = some _ := (ha 77 rfl).trans rfl; have g78 : a.tmps[78]? = some _ := (ha 78 rfl).trans rfl; clear ha; go_simp; first  | (refine yield1_value ?_ hW; exact rfl))
    refine detSteps_cons ?_ ?_
    · (refine det_run [76, 79] (by kernel_rfl) (by rfl) (fun a ha W hW => ?_); have g76 : a.tmps[76]? = some _ := (ha 76 rfl).trans rfl; have g79 : a.tmps[79]? = some _ := (ha 79 rfl).trans rfl; clear ha; go_simp; first  | (refine yield1_enter ?_; go_at_call 42; (with_reducible refine (CM2.out _).mono ?_); rintro e w1 ⟨rfl, rfl⟩; (refine And.intro ?_ hW); exact rfl) | (refine yield1_enter ?_; go_at_call 42; (with_reducible refine (CM3.out _).mono ?_); rintro e w1 ⟨rfl, rfl⟩; (refine And.intro ?_ hW); exact rfl) | (refine yield1_enter ?_; go_at_call 54; (with_reducible refine (CI.out _).mono ?_); rintro e w1 ⟨rfl, rfl⟩; (refine And.intro ?_ hW); exact rfl) | (refine yield1_value ?_ hW; exact rfl))
    refine detSteps_cons ?_ ?_
    · (refine det_run [73, 80] (by kernel_rfl) (by rfl) (fun a ha W hW => ?_); have g73 : a.tmps[73]? = some _ := (ha 73 rfl).trans rfl; have g80 : a.tmps[80]? = some _ := (ha 80 rfl).trans rfl; clear ha; go_simp; first  | (refine yield1_value ?_ hW; exact rfl))
    refine detSteps_cons ?_ ?_
    · (refine det_run [7] (by kernel_rfl) (by rfl) (fun a ha W hW => ?_); have g7 : a.tmps[7]? = some _ := (ha 7 rfl).trans rfl; clear ha; go_simp; first  | (refine yield1_value ?_ hW; exact rfl))
    refine detSteps_cons ?_ ?_
    · (refine det_run [8] (by kernel_rfl) (by rfl) (fun a ha W hW => ?_); have g8 : a.tmps[8]? = some _ := (ha 8 rfl).trans rfl; clear ha; go_simp; first  | (refine yield1_value ?_ hW; exact rfl))
    refine detSteps_cons ?_ ?_
    · (refine det_run [82, 83] (by kernel_rfl) (by rfl) (fun a ha W hW => ?_); have g82 : a.tmps[82]? = some _ := (ha 82 rfl).trans rfl; have g83 : a.tmps[83]? = some _ := (ha 83 rfl).trans rfl; clear ha; go_simp; first  | (refine yield1_value ?_ hW; exact rfl))
    refine detSteps_cons ?_ ?_
    · (refine det_run [81, 84] (by kernel_rfl) (by rfl) (fun a ha W hW => ?_); have g81 : a.tmps[81]? = some _ := (ha 81 rfl).trans rfl; have g84 : a.tmps[84]? = some _ := (ha 84 rfl).trans rfl; clear ha; go_simp; first  | (refine yield1_enter ?_; go_at_call 42; (with_reducible refine (CM2.out _).mono ?_); rintro e w1 ⟨rfl, rfl⟩; (refine And.intro ?_ hW); exact rfl) | (refine yield1_enter ?_; go_at_call 42; (with_reducible refine (CM3.out _).mono ?_); rintro e w1 ⟨rfl, rfl⟩; (refine And.intro ?_ hW); exact rfl) | (refine yield1_enter ?_; go_at_call 54; (with_reducible refine (CI.out _).mono ?_); rintro e w1 ⟨rfl, rfl⟩; (refine And.intro ?_ hW); exact rfl) | (refine yield1_value ?_ hW; exact rfl))
    refine detSteps_cons ?_ ?_
    · (refine det_run [62, 85] (by kernel_rfl) (by rfl) (fun a ha W hW => ?_); have g62 : a.tmps[62]? = some _ := (ha 62 rfl).trans rfl; have g85 : a.tmps[85]? = some _ := (ha 85 rfl).trans rfl; clear ha; go_simp; first  | (refine yield1_value ?_ hW; exact rfl))
    refine detSteps_cons ?_ ?_
    · (refine det_run [61, 86] (by kernel_rfl) (by rfl) (fun a ha W hW => ?_); have g61 : a.tmps[61]? = some _ := (ha 61 rfl).trans rfl; have g86 : a.tmps[86]? = some _ := (ha 86 rfl).trans rfl; clear ha; go_simp; first  | (refine yield1_value ?_ hW; exact rfl))
    refine detSteps_cons ?_ ?_
    · (refine det_run [87] (by kernel_rfl) (by rfl) (fun a ha W hW => ?_); have g87 : a.tmps[87]? = some _ := (ha 87 rfl).trans rfl; clear ha; go_simp; first  | (refine yield1_value ?_ hW; exact rfl))
    exact detSteps_nil
  case rest1 =>
    intro w1 hs1
    simp only [putAll, Act.put, List.setIfInBounds_toArray, List.set_cons_zero, List.set_cons_succ]
    clear HS; have HS := hidA hs1; clear hs1 c0 c1 c2 c3 c4 c5 c6 c7 c8 c9 c10 c11 c12 c13 c14 c15 z0 z1 z2 fr2; obtain ⟨c0, c1, c2, c3, c4, c5, c6, c7, c8, c9, c10, c11, c12, c13, c14, c15, z0, z1, z2, fr2⟩ := PK.out _ HS.out
    go_wp2_with fail
    go_quiet (fail)
    have hs1 := drewnA HS.out nq
    generalize w1.drewN nq = wd2 at *
    clear HS; have HS := hidA hs1; clear hs1 c0 c1 c2 c3 c4 c5 c6 c7 c8 c9 c10 c11 c12 c13 c14 c15 z0 z1 z2 fr2; obtain ⟨c0, c1, c2, c3, c4, c5, c6, c7, c8, c9, c10, c11, c12, c13, c14, c15, z0, z1, z2, fr2⟩ := PK.out _ HS.out
    go_wp2_with (first | (go_at_call 42; refine (CM4.out _).mono ?_; rintro e w1 ⟨rfl, rfl⟩))
    exact bodyPost_ret (v := .agg #[.int .i64 0, .int .i64 0, .int .i64 0, .int .i64 0, .int .i64 0, .bool false]) (by simp [results, Try.results21, go_sem, c10, c11, c12, c13, c14, c15, z2, fr2]) rfl ⟨by rfl, (by repeat (first | with_reducible exact Below.refl _ _ | with_reducible exact HS.out | with_reducible exact B0.out | with_reducible refine Below.setCell ?_ (by first | omega | (dsimp only; omega) | (simp; done) | (simp; omega)) _ | with_reducible refine Below.alloc ?_ (by first | omega | (dsimp only; omega) | (simp; done) | (simp; omega)) _ | with_reducible refine Below.drew ?_ | with_reducible refine drewnA ?_ _ | with_reducible refine Below.trans ?_ (HS.out.mono (by first | omega | (dsimp only; omega) | (simp; done) | (simp; omega))) | with_reducible refine Below.trans ?_ (B0.out.mono (by first | omega | (dsimp only; omega) | (simp; done) | (simp; omega)))))⟩
set_option maxRecDepth 100000 in
set_option maxHeartbeats 8000000 in
theorem rmeet_5 (a b x : Ab) (am1 : (a.m == 0) = false) (am2 : (a.m != 0) = true) (am3 : ¬ a.m = 0) (bm1 : (b.m == 0) = false) (bm2 : (b.m != 0) = true) (bm3 : ¬ b.m = 0) (K d1 q1 : Int) (mk : bits .and .i64 (a.k : Int) (b.k : Int) = K) (e1 : IntKind.i64.wrap (a.hi - a.lo) = d1) (e2 : IntKind.i64.wrap (d1.tdiv a.m) = q1) (d2 q2 : Int) (e3 : IntKind.i64.wrap (b.hi - b.lo) = d2) (e4 : IntKind.i64.wrap (d2.tdiv b.m) = q2) (c1 : ¬ q1 < 64) (c2 : ¬ q2 < 64) (g e r0 : Int) (CG : Hid (∀ w, Calls Try.prog 49 #[.int .i64 a.m, .int .i64 b.m] w fun e w' => e = .returned (.int .i64 g) ∧ Below w.heap.size w w')) (e5 : IntKind.i64.wrap (a.lo - b.lo) = e) (CM1 : Hid (∀ w, Calls Try.prog 42 #[.int .i64 e, .int .i64 g] w fun e w' => e = .returned (.int .i64 r0) ∧ w = w')) (t1 : (r0 == 0) = true) (t2 : (r0 != 0) = false) (g1 : (g == 0) = false) (g2 : (g != 0) = true) (g3 : ¬ g = 0) (d q n sg u v x1 k y1 f L lo hi z z2 F : Int) (h1 : IntKind.i64.wrap (b.lo - a.lo) = d) (h2 : IntKind.i64.wrap (d.tdiv g) = q) (h3 : IntKind.i64.wrap (b.m.tdiv g) = n) (h4 : IntKind.i64.wrap (a.m.tdiv g) = sg) (CM2 : Hid (∀ w, Calls Try.prog 42 #[.int .i64 q, .int .i64 n] w fun e w' => e = .returned (.int .i64 u) ∧ w = w')) (CI : Hid (∀ w, Calls Try.prog 54 #[.int .i64 sg, .int .i64 n] w fun e w' => e = .returned (.int .i64 v) ∧ w = w')) (h5 : IntKind.i64.wrap (u * v) = x1) (CM3 : Hid (∀ w, Calls Try.prog 42 #[.int .i64 x1, .int .i64 n] w fun e w' => e = .returned (.int .i64 k) ∧ w = w')) (h6 : IntKind.i64.wrap (a.m * k) = y1) (h7 : IntKind.i64.wrap (a.lo + y1) = f) (h8 : IntKind.i64.wrap (sg * b.m) = L) (h9 : (if a.lo < b.lo then b.lo else a.lo) = lo) (h10 : (if b.hi < a.hi then b.hi else a.hi) = hi) (h11 : IntKind.i64.wrap (f - lo) = z) (CM4 : Hid (∀ w, Calls Try.prog 42 #[.int .i64 z, .int .i64 L] w fun e w' => e = .returned (.int .i64 z2) ∧ w = w')) (h12 : IntKind.i64.wrap (lo + z2) = F) (c3 : ¬ hi < F) (CB : Hid (∀ w, Calls Try.prog 46 #[.int .i64 F, .int .i64 hi, .int .i64 L, .int .i64 K] w fun e w' => e = .returned (.agg #[.int .i64 x.lo, .int .i64 x.hi, .int .i64 x.m, .int .i64 x.r, .int .i64 x.k]) ∧ Below w.heap.size w w')) (w : World) :
    Calls Try.prog 21 #[.agg #[.int .i64 a.lo, .int .i64 a.hi, .int .i64 a.m, .int .i64 a.r, .int .i64 a.k], .agg #[.int .i64 b.lo, .int .i64 b.hi, .int .i64 b.m, .int .i64 b.r, .int .i64 b.k]] w fun e w' => e = .returned (.agg #[.int .i64 x.lo, .int .i64 x.hi, .int .i64 x.m, .int .i64 x.r, .int .i64 x.k, .bool true]) ∧ Below w.heap.size w w' := by
  obtain ⟨w0, hw0⟩ : ∃ w0, (((w.alloc (.cells #[.int .i64 a.lo, .int .i64 a.hi, .int .i64 a.m, .int .i64 a.r, .int .i64 a.k] 27)).alloc (.cells #[.int .i64 b.lo, .int .i64 b.hi, .int .i64 b.m, .int .i64 b.r, .int .i64 b.k] 27)).alloc (.cells #[.int .i64 0, .int .i64 0, .int .i64 0, .int .i64 0, .int .i64 0, .bool false] 37)) = w0 := ⟨_, rfl⟩
  have B0 : Hid (Below w.heap.size w w0) := hidA (by rw [← hw0]; exact (alA (alA (alA (Below.refl _ _) _) _) _))
  have hsz : w.heap.size + 1 + 1 < w0.heap.size := by rw [← hw0]; simp
  have PK : Hid (∀ W, Below w0.heap.size w0 W → abF W (w.heap.size) a (abF W (w.heap.size + 1) b (W.cell? ⟨w.heap.size + 1 + 1, 0, none⟩ = some (.int .i64 0) ∧ W.cell? ⟨w.heap.size + 1 + 1, 1, none⟩ = some (.int .i64 0) ∧ W.cell? ⟨w.heap.size + 1 + 1, 2, none⟩ = some (.int .i64 0) ∧ W.cell? ⟨w.heap.size + 1 + 1, 3, none⟩ = some (.int .i64 0) ∧ W.cell? ⟨w.heap.size + 1 + 1, 4, none⟩ = some (.int .i64 0) ∧ W.cell? ⟨w.heap.size + 1 + 1, 5, none⟩ = some (.bool false) ∧ w.heap.size < W.heap.size ∧ w.heap.size + 1 < W.heap.size ∧ w.heap.size + 1 + 1 < W.heap.size ∧ (∀ i, W.frozen? ⟨w.heap.size + 1 + 1, i, none⟩ = false)))) := hidA (fun W hW => by and_intros <;> first | exact cellA hW (by rw [← hw0]; simp [go_sem]) | exact (by have h0 := hW.size; have h1 := hsz; omega) | exact (fun i => (hW.frozen (p := ⟨w.heap.size + 1 + 1, i, none⟩) (show w.heap.size + 1 + 1 < w0.heap.size by have h1 := hsz; omega)).trans (by rw [← hw0]; simp [go_sem])))
  have Hw := hidA hw0; clear hw0
  go_enter Try.func21, Try.ntmps21
  go_wp2_with fail
  rw [Hw.out]
  clear Hw
  have HS : Hid (Below w0.heap.size w0 w0) := hidA (Below.refl _ _)
  obtain ⟨c0, c1, c2, c3, c4, c5, c6, c7, c8, c9, c10, c11, c12, c13, c14, c15, z0, z1, z2, fr2⟩ := PK.out _ HS.out
  go_quiet (fail)
  have hs1 := drewnA HS.out nq
  generalize w0.drewN nq = wd at *
  clear HS; have HS := hidA hs1; clear hs1 c0 c1 c2 c3 c4 c5 c6 c7 c8 c9 c10 c11 c12 c13 c14 c15 z0 z1 z2 fr2; obtain ⟨c0, c1, c2, c3, c4, c5, c6, c7, c8, c9, c10, c11, c12, c13, c14, c15, z0, z1, z2, fr2⟩ := PK.out _ HS.out
  go_wp2_with (first | (go_at_call 49; (with_reducible refine (CG.out _).mono ?_); rintro e w1 ⟨rfl, hb⟩; have hsE := HS.out; have leE := HS.out.size; have hs1 : Below w0.heap.size w0 w1 := stepA (by repeat (first | with_reducible assumption | with_reducible exact Below.refl _ _ | with_reducible refine Below.setCell ?_ (by first | omega | (dsimp only; omega) | (simp; done) | (simp; omega)) _ | with_reducible refine Below.alloc ?_ (by first | omega | (dsimp only; omega) | (simp; done) | (simp; omega)) _ | with_reducible refine Below.drew ?_)) hb; clear hb hsE leE; clear HS; have HS := hidA hs1; clear hs1 c0 c1 c2 c3 c4 c5 c6 c7 c8 c9 c10 c11 c12 c13 c14 c15 z0 z1 z2 fr2; obtain ⟨c0, c1, c2, c3, c4, c5, c6, c7, c8, c9, c10, c11, c12, c13, c14, c15, z0, z1, z2, fr2⟩ := PK.out _ HS.out) | (go_at_call 42; refine (CM1.out _).mono ?_; rintro e w1 ⟨rfl, rfl⟩))
  refine' wp_region_det (by kernel_rfl) [_, _, _, _, _, _, _, _, _, _, _, _, _, _, _, _, _, _, _, _, _, _, _, _, _, _, _, _, _] (fun W => Below w0.heap.size w0 W) (by kernel_rfl) HS.out.drew ?steps2 ?rest2
  case steps2 =>
    simp only [putAll, Act.put, List.setIfInBounds_toArray, List.set_cons_zero, List.set_cons_succ]
    refine detSteps_cons ?_ ?_
    · (refine det_run [2] (by kernel_rfl) (by rfl) (fun a ha W hW => ?_); have g2 : a.tmps[2]? = some _ := (ha 2 rfl).trans rfl; clear ha; go_simp; first  | (refine yield1_value ?_ hW; exact rfl))
    refine detSteps_cons ?_ ?_
    · (refine det_run [60] (by kernel_rfl) (by rfl) (fun a ha W hW => ?_); have g60 : a.tmps[60]? = some _ := (ha 60 rfl).trans rfl; clear ha; obtain ⟨c0, c1, c2, c3, c4, c5, c6, c7, c8, c9, c10, c11, c12, c13, c14, c15, z0, z1, z2, fr2⟩ := PK.out _ hW; go_simp; first  | (refine yield1_value ?_ hW; exact rfl))
    refine detSteps_cons ?_ ?_
    · (refine det_run [6] (by kernel_rfl) (by rfl) (fun a ha W hW => ?_); have g6 : a.tmps[6]? = some _ := (ha 6 rfl).trans rfl; clear ha; go_simp; first  | (refine yield1_value ?_ hW; exact rfl))
    refine detSteps_cons ?_ ?_
    · (refine det_run [3] (by kernel_rfl) (by rfl) (fun a ha W hW => ?_); have g3 : a.tmps[3]? = some _ := (ha 3 rfl).trans rfl; clear ha; go_simp; first  | (refine yield1_value ?_ hW; exact rfl))
    refine detSteps_cons ?_ ?_
    · (refine det_run [63] (by kernel_rfl) (by rfl) (fun a ha W hW => ?_); have g63 : a.tmps[63]? = some _ := (ha 63 rfl).trans rfl; clear ha; obtain ⟨c0, c1, c2, c3, c4, c5, c6, c7, c8, c9, c10, c11, c12, c13, c14, c15, z0, z1, z2, fr2⟩ := PK.out _ hW; go_simp; first  | (refine yield1_value ?_ hW; exact rfl))
    refine detSteps_cons ?_ ?_
    · (refine det_run [2] (by kernel_rfl) (by rfl) (fun a ha W hW => ?_); have g2 : a.tmps[2]? = some _ := (ha 2 rfl).trans rfl; clear ha; go_simp; first  | (refine yield1_value ?_ hW; exact rfl))
    refine detSteps_cons ?_ ?_
    · (refine det_run [65] (by kernel_rfl) (by rfl) (fun a ha W hW => ?_); have g65 : a.tmps[65]? = some _ := (ha 65 rfl).trans rfl; clear ha; obtain ⟨c0, c1, c2, c3, c4, c5, c6, c7, c8, c9, c10, c11, c12, c13, c14, c15, z0, z1, z2, fr2⟩ := PK.out _ hW; go_simp; first  | (refine yield1_value ?_ hW; exact rfl))
    refine detSteps_cons ?_ ?_
    · (refine det_run [64, 66] (by kernel_rfl) (by rfl) (fun a ha W hW => ?_); have g64 : a.tmps[64]? = some _ := (ha 64 rfl).trans rfl; have g66 : a.tmps[66]? = some _ := (ha 66 rfl).trans rfl; clear ha; go_simp; first  | (refine yield1_value ?_ hW; exact rfl))
    refine detSteps_cons ?_ ?_
    · (refine det_run [8] (by kernel_rfl) (by rfl) (fun a ha W hW => ?_); have g8 : a.tmps[8]? = some _ := (ha 8 rfl).trans rfl; clear ha; go_simp; first  | (refine yield1_value ?_ hW; exact rfl))
    refine detSteps_cons ?_ ?_
    · (refine det_run [67, 68] (by kernel_rfl) (by rfl) (fun a ha W hW => ?_); have g67 : a.tmps[67]? = some _ := (ha 67 rfl).trans rfl; have g68 : a.tmps[68]? = some _ := (ha 68 rfl).trans rfl; clear ha; go_simp; first  | (refine yield1_value ?_ hW; exact rfl))
    refine detSteps_cons ?_ ?_
    · (refine det_run [7] (by kernel_rfl) (by rfl) (fun a ha W hW => ?_); have g7 : a.tmps[7]? = some _ := (ha 7 rfl).trans rfl; clear ha; go_simp; first  | (refine yield1_value ?_ hW; exact rfl))
    refine detSteps_cons ?_ ?_
    · (refine det_run [8] (by kernel_rfl) (by rfl) (fun a ha W hW => ?_); have g8 : a.tmps[8]? = some _ := (ha 8 rfl).trans rfl; clear ha; go_simp; first  | (refine yield1_value ?_ hW; exact rfl))
    refine detSteps_cons ?_ ?_
    · (refine det_run [70, 71] (by kernel_rfl) (by rfl) (fun a ha W hW => ?_); have g70 : a.tmps[70]? = some _ := (ha 70 rfl).trans rfl; have g71 : a.tmps[71]? = some _ := (ha 71 rfl).trans rfl; clear ha; go_simp; first  | (refine yield1_value ?_ hW; exact rfl))
    refine detSteps_cons ?_ ?_
    · (refine det_run [69, 72] (by kernel_rfl) (by rfl) (fun a ha W hW => ?_); have g69 : a.tmps[69]? = some _ := (ha 69 rfl).trans rfl; have g72 : a.tmps[72]? = some _ := (ha 72 rfl).trans rfl; clear ha; go_simp; first  | (refine yield1_enter ?_; go_at_call 42; (with_reducible refine (CM2.out _).mono ?_); rintro e w1 ⟨rfl, rfl⟩; (refine And.intro ?_ hW); exact rfl) | (refine yield1_enter ?_; go_at_call 42; (with_reducible refine (CM3.out _).mono ?_); rintro e w1 ⟨rfl, rfl⟩; (refine And.intro ?_ hW); exact rfl) | (refine yield1_enter ?_; go_at_call 54; (with_reducible refine (CI.out _).mono ?_); rintro e w1 ⟨rfl, rfl⟩; (refine And.intro ?_ hW); exact rfl) | (refine yield1_value ?_ hW; exact rfl))
    refine detSteps_cons ?_ ?_
    · (refine det_run [6] (by kernel_rfl) (by rfl) (fun a ha W hW => ?_); have g6 : a.tmps[6]? = some _ := (ha 6 rfl).trans rfl; clear ha; go_simp; first  | (refine yield1_value ?_ hW; exact rfl))
    refine detSteps_cons ?_ ?_
    · (refine det_run [8] (by kernel_rfl) (by rfl) (fun a ha W hW => ?_); have g8 : a.tmps[8]? = some _ := (ha 8 rfl).trans rfl; clear ha; go_simp; first  | (refine yield1_value ?_ hW; exact rfl))
    refine detSteps_cons ?_ ?_
    · (refine det_run [74, 75] (by kernel_rfl) (by rfl) (fun a ha W hW => ?_); have g74 : a.tmps[74]? = some _ := (ha 74 rfl).trans rfl; have g75 : a.tmps[75]? = some _ := (ha 75 rfl).trans rfl; clear ha; go_simp; first  | (refine yield1_value ?_ hW; exact rfl))
    refine detSteps_cons ?_ ?_
    · (refine det_run [7] (by kernel_rfl) (by rfl) (fun a ha W hW => ?_); have g7 : a.tmps[7]? = some _ := (ha 7 rfl).trans rfl; clear ha; go_simp; first  | (refine yield1_value ?_ hW; exact rfl))
    refine detSteps_cons ?_ ?_
    · (refine det_run [8] (by kernel_rfl) (by rfl) (fun a ha W hW => ?_); have g8 : a.tmps[8]? = some _ := (ha 8 rfl).trans rfl; clear ha; go_simp; first  | (refine yield1_value ?_ hW; exact rfl))
    refine detSteps_cons ?_ ?_
    · (refine det_run [77, 78] (by kernel_rfl) (by rfl) (fun a ha W hW => ?_); have g77 : a.tmps[77]? = some _ := (ha 77 rfl).trans rfl; have g78 : a.tmps[78]? = some _ := (ha 78 rfl).trans rfl; clear ha; go_simp; first  | (refine yield1_value ?_ hW; exact rfl))
    refine detSteps_cons ?_ ?_
    · (refine det_run [76, 79] (by kernel_rfl) (by rfl) (fun a ha W hW => ?_); have g76 : a.tmps[76]? = some _ := (ha 76 rfl).trans rfl; have g79 : a.tmps[79]? = some _ := (ha 79 rfl).trans rfl; clear ha; go_simp; first  | (refine yield1_enter ?_; go_at_call 42; (with_reducible refine (CM2.out _).mono ?_); rintro e w1 ⟨rfl, rfl⟩; (refine And.intro ?_ hW); exact rfl) | (refine yield1_enter ?_; go_at_call 42; (with_reducible refine (CM3.out _).mono ?_); rintro e w1 ⟨rfl, rfl⟩; (refine And.intro ?_ hW); exact rfl) | (refine yield1_enter ?_; go_at_call 54; (with_reducible refine (CI.out _).mono ?_); rintro e w1 ⟨rfl, rfl⟩; (refine And.intro ?_ hW); exact rfl) | (refine yield1_value ?_ hW; exact rfl))
    refine detSteps_cons ?_ ?_
    · (refine det_run [73, 80] (by kernel_rfl) (by rfl) (fun a ha W hW => ?_); have g73 : a.tmps[73]? = some _ := (ha 73 rfl).trans rfl; have g80 : a.tmps[80]? = some _ := (ha 80 rfl).trans rfl; clear ha; go_simp; first  | (refine yield1_value ?_ hW; exact rfl))
    refine detSteps_cons ?_ ?_
    · (refine det_run [7] (by kernel_rfl) (by rfl) (fun a ha W hW => ?_); have g7 : a.tmps[7]? = some _ := (ha 7 rfl).trans rfl; clear ha; go_simp; first  | (refine yield1_value ?_ hW; exact rfl))
    refine detSteps_cons ?_ ?_
    · (refine det_run [8] (by kernel_rfl) (by rfl) (fun a ha W hW => ?_); have g8 : a.tmps[8]? = some _ := (ha 8 rfl).trans rfl; clear ha; go_simp; first  | (refine yield1_value ?_ hW; exact rfl))
    refine detSteps_cons ?_ ?_
    · (refine det_run [82, 83] (by kernel_rfl) (by rfl) (fun a ha W hW => ?_); have g82 : a.tmps[82]? = some _ := (ha 82 rfl).trans rfl; have g83 : a.tmps[83]? = some _ := (ha 83 rfl).trans rfl; clear ha; go_simp; first  | (refine yield1_value ?_ hW; exact rfl))
    refine detSteps_cons ?_ ?_
    · (refine det_run [81, 84] (by kernel_rfl) (by rfl) (fun a ha W hW => ?_); have g81 : a.tmps[81]? = some _ := (ha 81 rfl).trans rfl; have g84 : a.tmps[84]? = some _ := (ha 84 rfl).trans rfl; clear ha; go_simp; first  | (refine yield1_enter ?_; go_at_call 42; (with_reducible refine (CM2.out _).mono ?_); rintro e w1 ⟨rfl, rfl⟩; (refine And.intro ?_ hW); exact rfl) | (refine yield1_enter ?_; go_at_call 42; (with_reducible refine (CM3.out _).mono ?_); rintro e w1 ⟨rfl, rfl⟩; (refine And.intro ?_ hW); exact rfl) | (refine yield1_enter ?_; go_at_call 54; (with_reducible refine (CI.out _).mono ?_); rintro e w1 ⟨rfl, rfl⟩; (refine And.intro ?_ hW); exact rfl) | (refine yield1_value ?_ hW; exact rfl))
    refine detSteps_cons ?_ ?_
    · (refine det_run [62, 85] (by kernel_rfl) (by rfl) (fun a ha W hW => ?_); have g62 : a.tmps[62]? = some _ := (ha 62 rfl).trans rfl; have g85 : a.tmps[85]? = some _ := (ha 85 rfl).trans rfl; clear ha; go_simp; first  | (refine yield1_value ?_ hW; exact rfl))
    refine detSteps_cons ?_ ?_
    · (refine det_run [61, 86] (by kernel_rfl) (by rfl) (fun a ha W hW => ?_); have g61 : a.tmps[61]? = some _ := (ha 61 rfl).trans rfl; have g86 : a.tmps[86]? = some _ := (ha 86 rfl).trans rfl; clear ha; go_simp; first  | (refine yield1_value ?_ hW; exact rfl))
    refine detSteps_cons ?_ ?_
    · (refine det_run [87] (by kernel_rfl) (by rfl) (fun a ha W hW => ?_); have g87 : a.tmps[87]? = some _ := (ha 87 rfl).trans rfl; clear ha; go_simp; first  | (refine yield1_value ?_ hW; exact rfl))
    exact detSteps_nil
  case rest2 =>
    intro w1 hs1
    simp only [putAll, Act.put, List.setIfInBounds_toArray, List.set_cons_zero, List.set_cons_succ]
    clear HS; have HS := hidA hs1; clear hs1 c0 c1 c2 c3 c4 c5 c6 c7 c8 c9 c10 c11 c12 c13 c14 c15 z0 z1 z2 fr2; obtain ⟨c0, c1, c2, c3, c4, c5, c6, c7, c8, c9, c10, c11, c12, c13, c14, c15, z0, z1, z2, fr2⟩ := PK.out _ HS.out
    go_wp2_with fail
    go_quiet (fail)
    have hs1 := drewnA HS.out nq
    generalize w1.drewN nq = wd2 at *
    clear HS; have HS := hidA hs1; clear hs1 c0 c1 c2 c3 c4 c5 c6 c7 c8 c9 c10 c11 c12 c13 c14 c15 z0 z1 z2 fr2; obtain ⟨c0, c1, c2, c3, c4, c5, c6, c7, c8, c9, c10, c11, c12, c13, c14, c15, z0, z1, z2, fr2⟩ := PK.out _ HS.out
    go_wp2_with (first | (go_at_call 42; refine (CM4.out _).mono ?_; rintro e w1 ⟨rfl, rfl⟩) | (go_at_call 46; (with_reducible refine (CB.out _).mono ?_); rintro e w1 ⟨rfl, hb⟩; have hsE := HS.out; have leE := HS.out.size; have hs1 : Below w0.heap.size w0 w1 := stepA (by repeat (first | with_reducible assumption | with_reducible exact Below.refl _ _ | with_reducible refine Below.setCell ?_ (by first | omega | (dsimp only; omega) | (simp; done) | (simp; omega)) _ | with_reducible refine Below.alloc ?_ (by first | omega | (dsimp only; omega) | (simp; done) | (simp; omega)) _ | with_reducible refine Below.drew ?_)) hb; clear hb hsE leE; clear HS; have HS := hidA hs1; clear hs1 c0 c1 c2 c3 c4 c5 c6 c7 c8 c9 c10 c11 c12 c13 c14 c15 z0 z1 z2 fr2; obtain ⟨c0, c1, c2, c3, c4, c5, c6, c7, c8, c9, c10, c11, c12, c13, c14, c15, z0, z1, z2, fr2⟩ := PK.out _ HS.out))
    exact bodyPost_ret (v := .agg #[.int .i64 x.lo, .int .i64 x.hi, .int .i64 x.m, .int .i64 x.r, .int .i64 x.k, .bool true]) (by simp [results, Try.results21, go_sem, c10, c11, c12, c13, c14, c15, z2, fr2]) rfl ⟨by rfl, (by repeat (first | with_reducible exact Below.refl _ _ | with_reducible exact HS.out | with_reducible exact B0.out | with_reducible refine Below.setCell ?_ (by first | omega | (dsimp only; omega) | (simp; done) | (simp; omega)) _ | with_reducible refine Below.alloc ?_ (by first | omega | (dsimp only; omega) | (simp; done) | (simp; omega)) _ | with_reducible refine Below.drew ?_ | with_reducible refine drewnA ?_ _ | with_reducible refine Below.trans ?_ (HS.out.mono (by first | omega | (dsimp only; omega) | (simp; done) | (simp; omega))) | with_reducible refine Below.trans ?_ (B0.out.mono (by first | omega | (dsimp only; omega) | (simp; done) | (simp; omega)))))⟩
end

section
open Go.RowKit Go.Instr Sp
set_option linter.unusedVariables false
set_option linter.unusedSimpArgs false

/-! The reference's meets of sets with many values. -/
theorem bnz2 {x : Int} (h : x ≠ 0) : (x == 0) = false ∧ (x != 0) = true := ⟨by simpa using h, by simpa using h⟩
theorem inv_range {a m : Int} (hm : 1 ≤ m) : 0 ≤ inv a m ∧ inv a m < m := by
  unfold inv
  split
  · omega
  · exact invF_range hm _ _ _ _ _
theorem com_inv1 {s t : Int} (hs : 1 ≤ s) (ht : 1 ≤ t) : comN s t ∣ s / gc s t * inv (s / gc s t) (comN s t) - 1 := by
  obtain ⟨n1, _, _, n4, _⟩ := com_n hs ht
  refine inv_ok n4 ?_
  show gc (s / gc s t) (t / gc s t) = 1
  unfold gc at n1 ⊢
  rw [Int.gcd_ediv_gcd_ediv_gcd (by omega)]
  rfl
theorem many_step {d m : Int} (hm : 1 ≤ m) (hd : 0 ≤ d) (h : ¬ d.tdiv m < 64) : 64 * m ≤ d := by
  rw [Int.tdiv_eq_ediv_of_nonneg hd] at h
  have e := Int.ediv_mul_le d (show m ≠ 0 by omega)
  have p := Int.mul_le_mul_of_nonneg_right (show 64 ≤ d / m by omega) (show 0 ≤ m by omega)
  omega
theorem rmeet_long (a b : Ab) (A : Val a) (B : Val b) (c1 : ¬ (a.hi - a.lo).tdiv a.m < 64) (c2 : ¬ (b.hi - b.lo).tdiv b.m < 64) : ∃ (is : Bool) (x : Ab), MeetR a b is x ∧ ∀ w, Calls Try.prog 21 #[.agg #[.int .i64 a.lo, .int .i64 a.hi, .int .i64 a.m, .int .i64 a.r, .int .i64 a.k], .agg #[.int .i64 b.lo, .int .i64 b.hi, .int .i64 b.m, .int .i64 b.r, .int .i64 b.k]] w fun e w' => e = .returned (.agg #[.int .i64 x.lo, .int .i64 x.hi, .int .i64 x.m, .int .i64 x.r, .int .i64 x.k, .bool is]) ∧ Below w.heap.size w w' := by
  have al := A.l; have ah := A.h; have ao := A.o; have bl := B.l; have bh := B.h; have bo := B.o
  have ms := m_le A
  have mt := m_le B
  have s64 := many_step ms.1 (by omega) c1
  have t64 := many_step mt.1 (by omega) c2
  obtain ⟨n1, n2, n3, n4, n5, n6⟩ := com_n ms.1 mt.1
  obtain ⟨a1, a2⟩ := bnz2 (show a.m ≠ 0 by omega)
  obtain ⟨b1, b2⟩ := bnz2 (show b.m ≠ 0 by omega)
  obtain ⟨g1, g2⟩ := bnz2 (show gc a.m b.m ≠ 0 by omega)
  have mk := bits_and8 A.k B.k
  have d1b := Int.ediv_le_self (a := a.hi - a.lo) a.m (by omega)
  have d2b := Int.ediv_le_self (a := b.hi - b.lo) b.m (by omega)
  have d1n := Int.ediv_nonneg (show 0 ≤ a.hi - a.lo by omega) (show 0 ≤ a.m by omega)
  have d2n := Int.ediv_nonneg (show 0 ≤ b.hi - b.lo by omega) (show 0 ≤ b.m by omega)
  have td1 : (a.hi - a.lo).tdiv a.m = (a.hi - a.lo) / a.m := Int.tdiv_eq_ediv_of_nonneg (by omega)
  have td2 : (b.hi - b.lo).tdiv b.m = (b.hi - b.lo) / b.m := Int.tdiv_eq_ediv_of_nonneg (by omega)
  have e2 : IntKind.i64.wrap ((a.hi - a.lo).tdiv a.m) = (a.hi - a.lo).tdiv a.m := by rw [td1]; exact IntWalk.i64_in _ (by omega)
  have e4 : IntKind.i64.wrap ((b.hi - b.lo).tdiv b.m) = (b.hi - b.lo).tdiv b.m := by rw [td2]; exact IntWalk.i64_in _ (by omega)
  have CG := hidA (fun w => gcd_any a.m b.m (by omega) (by omega) (by omega) (by omega) w)
  have CM1 := hidA (fun w => mod_all (a.lo - b.lo) (gc a.m b.m) n1 (by omega) w)
  by_cases hd : gc a.m b.m ∣ a.lo - b.lo
  · have hr : (a.lo - b.lo) % gc a.m b.m = 0 := Int.emod_eq_zero_of_dvd hd
    have hd2 : gc a.m b.m ∣ b.lo - a.lo := by
      have := Int.dvd_neg.2 hd
      rwa [show -(a.lo - b.lo) = b.lo - a.lo by omega] at this
    have F0 := first_ok (s := a.m) (t := b.m) (x := a.lo) (y := b.lo) mt.1 hd2 (com_inv1 ms.1 mt.1)
    change a.m ∣ a.lo + a.m * (((b.lo - a.lo) / gc a.m b.m % comN a.m b.m * inv (a.m / gc a.m b.m) (comN a.m b.m)) % comN a.m b.m) - a.lo ∧ b.m ∣ a.lo + a.m * (((b.lo - a.lo) / gc a.m b.m % comN a.m b.m * inv (a.m / gc a.m b.m) (comN a.m b.m)) % comN a.m b.m) - b.lo at F0
    have LR := long_r A B F0.1 F0.2
    have i1 := inv_range (a := a.m / gc a.m b.m) n4
    have u0 := Int.emod_nonneg ((b.lo - a.lo) / gc a.m b.m) (show comN a.m b.m ≠ 0 by omega)
    have u1 := Int.emod_lt_of_pos ((b.lo - a.lo) / gc a.m b.m) (show 0 < comN a.m b.m by omega)
    have sg0 := Int.ediv_nonneg (show 0 ≤ a.m by omega) (show 0 ≤ gc a.m b.m by omega)
    have sg1 : a.m / gc a.m b.m ≤ a.m := Int.ediv_le_self _ (by omega)
    have tq : (b.lo - a.lo).tdiv (gc a.m b.m) = (b.lo - a.lo) / gc a.m b.m := Int.tdiv_eq_ediv_of_dvd hd2
    have tn : b.m.tdiv (gc a.m b.m) = comN a.m b.m := Int.tdiv_eq_ediv_of_nonneg (by omega)
    have tsg : a.m.tdiv (gc a.m b.m) = a.m / gc a.m b.m := Int.tdiv_eq_ediv_of_nonneg (by omega)
    have qb : -4294967295 ≤ (b.lo - a.lo) / gc a.m b.m ∧ (b.lo - a.lo) / gc a.m b.m ≤ 4294967295 := by
      have e := Int.ediv_mul_cancel hd2
      generalize (b.lo - a.lo) / gc a.m b.m = z at e ⊢
      constructor
      · rcases Int.lt_or_le z (-4294967295) with c | c
        · exfalso
          have h1 := Int.mul_le_mul_of_nonneg_left n1 (show 0 ≤ -z by omega)
          have h2 := Int.neg_mul z (gc a.m b.m)
          omega
        · exact c
      · rcases Int.lt_or_le 4294967295 z with c | c
        · exfalso
          have h1 := Int.mul_le_mul_of_nonneg_left n1 (show 0 ≤ z by omega)
          omega
        · exact c
    have uv0 := Int.mul_nonneg u0 i1.1
    have uv1 : (b.lo - a.lo) / gc a.m b.m % comN a.m b.m * inv (a.m / gc a.m b.m) (comN a.m b.m) ≤ 67108864 * 67108864 := by
      have u := Int.mul_le_mul_of_nonneg_right (show (b.lo - a.lo) / gc a.m b.m % comN a.m b.m ≤ 67108864 by omega) i1.1
      have v := Int.mul_le_mul_of_nonneg_left (show inv (a.m / gc a.m b.m) (comN a.m b.m) ≤ 67108864 by omega) (show (0 : Int) ≤ 67108864 by omega)
      omega
    have k0 := Int.emod_nonneg ((b.lo - a.lo) / gc a.m b.m % comN a.m b.m * inv (a.m / gc a.m b.m) (comN a.m b.m)) (show comN a.m b.m ≠ 0 by omega)
    have k1 := Int.emod_lt_of_pos ((b.lo - a.lo) / gc a.m b.m % comN a.m b.m * inv (a.m / gc a.m b.m) (comN a.m b.m)) (show 0 < comN a.m b.m by omega)
    have CM2 := hidA (fun w => mod_all ((b.lo - a.lo) / gc a.m b.m) (comN a.m b.m) n4 (by omega) w)
    have CI := hidA (fun w => inverse_any (a.m / gc a.m b.m) (comN a.m b.m) n4 (by omega) w)
    have CM3 := hidA (fun w => mod_all ((b.lo - a.lo) / gc a.m b.m % comN a.m b.m * inv (a.m / gc a.m b.m) (comN a.m b.m)) (comN a.m b.m) n4 (by omega) w)
    have eL : a.m / gc a.m b.m * b.m = lcmA a b := rfl
    generalize (b.lo - a.lo) / gc a.m b.m % comN a.m b.m = u at *
    generalize inv (a.m / gc a.m b.m) (comN a.m b.m) = v at *
    generalize u * v % comN a.m b.m = k at *
    have y0 := Int.mul_nonneg (show 0 ≤ a.m by omega) k0
    have y1 : a.m * k ≤ 67108864 * 67108864 := by
      have p := Int.mul_le_mul_of_nonneg_right (show a.m ≤ 67108864 by omega) k0
      have q := Int.mul_le_mul_of_nonneg_left (show k ≤ 67108864 by omega) (show (0 : Int) ≤ 67108864 by omega)
      omega
    have lp := (lcm_pos A B).1
    have L1 : lcmA a b ≤ 67108864 * 67108864 := by
      rw [← eL]
      have p := Int.mul_le_mul_of_nonneg_right (show a.m / gc a.m b.m ≤ 67108864 by omega) (show 0 ≤ b.m by omega)
      have q := Int.mul_le_mul_of_nonneg_left (show b.m ≤ 67108864 by omega) (show (0 : Int) ≤ 67108864 by omega)
      omega
    have h9 : (if a.lo < b.lo then b.lo else a.lo) = max a.lo b.lo := by split <;> omega
    have h10 : (if b.hi < a.hi then b.hi else a.hi) = min a.hi b.hi := by split <;> omega
    have CM4 := hidA (fun w => mod_all (a.lo + a.m * k - max a.lo b.lo) (lcmA a b) lp (by omega) w)
    have z0 := Int.emod_nonneg (a.lo + a.m * k - max a.lo b.lo) (show lcmA a b ≠ 0 by omega)
    have z1 := Int.emod_lt_of_pos (a.lo + a.m * k - max a.lo b.lo) (show 0 < lcmA a b by omega)
    have hF : firstA a b (a.lo + a.m * k) = max a.lo b.lo + (a.lo + a.m * k - max a.lo b.lo) % lcmA a b := rfl
    have i64 : ∀ z : Int, -9000000000000000000 ≤ z → z ≤ 9000000000000000000 → IntKind.i64.wrap z = z := fun z h1 h2 => IntWalk.i64_in _ (by omega)
    have q1 := i64 _ (show -9000000000000000000 ≤ b.lo - a.lo by omega) (by omega)
    by_cases c3 : min a.hi b.hi < firstA a b (a.lo + a.m * k)
    · have ef : longIs a b (a.lo + a.m * k) = false := decide_eq_false (by omega)
      have ex : longA a b (a.lo + a.m * k) = ⟨0, 0, 0, 0, 0⟩ := if_neg (by omega)
      rw [ef, ex] at LR
      refine ⟨false, ⟨0, 0, 0, 0, 0⟩, LR, fun w => ?_⟩
      rw [hF] at c3
      exact rmeet_4 a b a1 a2 (by omega) b1 b2 (by omega) _ _ _ mk (i64 _ (by omega) (by omega)) e2 _ _ (i64 _ (by omega) (by omega)) e4 c1 c2 _ _ _ CG (i64 _ (by omega) (by omega)) CM1 (by rw [hr]; rfl) (by rw [hr]; rfl) g1 g2 (by omega) _ _ _ _ _ _ _ _ _ _ _ _ _ _ _ _ q1 (by rw [tq]; exact i64 _ (by omega) (by omega)) (by rw [tn]; exact i64 _ (by omega) (by omega)) (by rw [tsg]; exact i64 _ (by omega) (by omega)) CM2 CI (i64 _ (by omega) (by omega)) CM3 (i64 _ (by omega) (by omega)) (i64 _ (by omega) (by omega)) (by rw [eL]; exact i64 _ (by omega) (by omega)) h9 h10 (i64 _ (by omega) (by omega)) CM4 (i64 _ (by omega) (by omega)) c3 w
    · have ef : longIs a b (a.lo + a.m * k) = true := decide_eq_true (by omega)
      have ex : longA a b (a.lo + a.m * k) = byA (firstA a b (a.lo + a.m * k)) (min a.hi b.hi) (lcmA a b) (a.k &&& b.k) := if_pos (by omega)
      rw [ef, ex] at LR
      refine ⟨true, _, LR, fun w => ?_⟩
      rw [hF] at c3 ⊢
      have CB := hidA (fun w => by_any (max a.lo b.lo + (a.lo + a.m * k - max a.lo b.lo) % lcmA a b) (min a.hi b.hi) (lcmA a b) (a.k &&& b.k) ⟨by omega, by omega, by omega⟩ ⟨by omega, by omega, by omega⟩ w)
      exact rmeet_5 a b _ a1 a2 (by omega) b1 b2 (by omega) _ _ _ mk (i64 _ (by omega) (by omega)) e2 _ _ (i64 _ (by omega) (by omega)) e4 c1 c2 _ _ _ CG (i64 _ (by omega) (by omega)) CM1 (by rw [hr]; rfl) (by rw [hr]; rfl) g1 g2 (by omega) _ _ _ _ _ _ _ _ _ _ _ _ _ _ _ _ q1 (by rw [tq]; exact i64 _ (by omega) (by omega)) (by rw [tn]; exact i64 _ (by omega) (by omega)) (by rw [tsg]; exact i64 _ (by omega) (by omega)) CM2 CI (i64 _ (by omega) (by omega)) CM3 (i64 _ (by omega) (by omega)) (i64 _ (by omega) (by omega)) (by rw [eL]; exact i64 _ (by omega) (by omega)) h9 h10 (i64 _ (by omega) (by omega)) CM4 (i64 _ (by omega) (by omega)) c3 CB w
  · have hr : (a.lo - b.lo) % gc a.m b.m ≠ 0 := fun h => hd (Int.dvd_of_emod_eq_zero h)
    refine ⟨false, ⟨0, 0, 0, 0, 0⟩, none_r A B hd, fun w => ?_⟩
    exact rmeet_3 a b a1 a2 (by omega) b1 b2 (by omega) _ _ _ mk (IntWalk.i64_in _ (by omega)) e2 _ _ (IntWalk.i64_in _ (by omega)) e4 c1 c2 _ _ _ CG (IntWalk.i64_in _ (by omega)) CM1 (bnz2 hr).1 (bnz2 hr).2 w
end
end Go.Proofs.Ytdopjadlbhacfaa

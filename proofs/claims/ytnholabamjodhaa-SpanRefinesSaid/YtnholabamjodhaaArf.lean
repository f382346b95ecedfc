import Derived.Test.YtnholabamjodhaaArq
import Derived.Test.YtnholabamjodhaaArd
import Derived.Test.YtnholabamjodhaaOp
import Derived.Deep.Cut
import Derived.Deep.DeepCutAuto
namespace Go.Proofs.Ytnholabamjodhaa
open Go.RowKit Go.Instr Sp
set_option linter.unusedVariables false
set_option linter.unusedSimpArgs false

/-! SpanRefines: the law's walk. -/
set_option maxRecDepth 100000 in
set_option maxHeartbeats 8000000 in
theorem refines_walk (x0 x1 x2 x3 y0 y1 y2 y3 n0 n1 n2 n3 : Int) (a b : Ab) (v u : Int) (vk uk : Nat) (EX : Hid (∀ w, Calls Try.prog 9 #[] w fun e w' => e = .returned (.bool true) ∧ Below w.heap.size w w')) (CA : Hid (∀ w, Calls Try.prog 10 #[.agg #[.int .i64 x0, .int .i64 x1, .int .i64 x2, .int .i64 x3]] w fun e w' => e = .returned (.agg #[.int .i64 a.lo, .int .i64 a.hi, .int .i64 a.m, .int .i64 a.r, .int .i64 a.k]) ∧ Below w.heap.size w w')) (CB : Hid (∀ w, Calls Try.prog 10 #[.agg #[.int .i64 y0, .int .i64 y1, .int .i64 y2, .int .i64 y3]] w fun e w' => e = .returned (.agg #[.int .i64 b.lo, .int .i64 b.hi, .int .i64 b.m, .int .i64 b.r, .int .i64 b.k]) ∧ Below w.heap.size w w')) (CV : Hid (∀ w, Calls Try.prog 34 #[.agg #[.int .i64 a.lo, .int .i64 a.hi, .int .i64 a.m, .int .i64 a.r, .int .i64 a.k], .int .i64 n0, .int .i64 n1] w fun e w' => e = .returned (.agg #[.int .i64 v, .int .i64 vk]) ∧ Below w.heap.size w w')) (CW : Hid (∀ w, Calls Try.prog 34 #[.agg #[.int .i64 b.lo, .int .i64 b.hi, .int .i64 b.m, .int .i64 b.r, .int .i64 b.k], .int .i64 n2, .int .i64 n3] w fun e w' => e = .returned (.agg #[.int .i64 u, .int .i64 uk]) ∧ Below w.heap.size w w')) (hv : Hid (inV v)) (hu : Hid (inV u)) (PACK : Hid (∀ k, 2 ≤ k → k ≤ 4 → ∃ (q r s t : Ab) (is : Bool), Hid (∀ w, Calls Try.prog 32 #[.int .i64 k, .bool (cmpB k v u), .agg #[.int .i64 a.lo, .int .i64 a.hi, .int .i64 a.m, .int .i64 a.r, .int .i64 a.k, .int .i64 b.lo, .int .i64 b.hi, .int .i64 b.m, .int .i64 b.r, .int .i64 b.k]] w fun e w' => e = .returned (.agg #[.int .i64 q.lo, .int .i64 q.hi, .int .i64 q.m, .int .i64 q.r, .int .i64 q.k, .int .i64 r.lo, .int .i64 r.hi, .int .i64 r.m, .int .i64 r.r, .int .i64 r.k, .bool true]) ∧ Below w.heap.size w w') ∧ Hid (∀ w, Calls Try.prog 32 #[.int .i64 k, .bool (!cmpB k v u), .agg #[.int .i64 a.lo, .int .i64 a.hi, .int .i64 a.m, .int .i64 a.r, .int .i64 a.k, .int .i64 b.lo, .int .i64 b.hi, .int .i64 b.m, .int .i64 b.r, .int .i64 b.k]] w fun e w' => e = .returned (.agg #[.int .i64 s.lo, .int .i64 s.hi, .int .i64 s.m, .int .i64 s.r, .int .i64 s.k, .int .i64 t.lo, .int .i64 t.hi, .int .i64 t.m, .int .i64 t.r, .int .i64 t.k, .bool is]) ∧ Below w.heap.size w w') ∧ Hid (∀ w, Calls Try.prog 14 #[.agg #[.int .i64 q.lo, .int .i64 q.hi, .int .i64 q.m, .int .i64 q.r, .int .i64 q.k], .agg #[.int .i64 v, .int .i64 vk]] w fun e w' => e = .returned (.bool true) ∧ Below w.heap.size w w') ∧ Hid (∀ w, Calls Try.prog 14 #[.agg #[.int .i64 r.lo, .int .i64 r.hi, .int .i64 r.m, .int .i64 r.r, .int .i64 r.k], .agg #[.int .i64 u, .int .i64 uk]] w fun e w' => e = .returned (.bool true) ∧ Below w.heap.size w w') ∧ Hid (∀ w, Calls Try.prog 22 #[.agg #[.int .i64 q.lo, .int .i64 q.hi, .int .i64 q.m, .int .i64 q.r, .int .i64 q.k], .agg #[.int .i64 a.lo, .int .i64 a.hi, .int .i64 a.m, .int .i64 a.r, .int .i64 a.k]] w fun e w' => e = .returned (.bool true) ∧ Below w.heap.size w w') ∧ Hid (∀ w, Calls Try.prog 22 #[.agg #[.int .i64 r.lo, .int .i64 r.hi, .int .i64 r.m, .int .i64 r.r, .int .i64 r.k], .agg #[.int .i64 b.lo, .int .i64 b.hi, .int .i64 b.m, .int .i64 b.r, .int .i64 b.k]] w fun e w' => e = .returned (.bool true) ∧ Below w.heap.size w w') ∧ Hid (∀ w, Calls Try.prog 12 #[.agg #[.int .i64 q.lo, .int .i64 q.hi, .int .i64 q.m, .int .i64 q.r, .int .i64 q.k]] w fun e w' => e = .returned (.bool true) ∧ Below w.heap.size w w') ∧ Hid (∀ w, Calls Try.prog 12 #[.agg #[.int .i64 r.lo, .int .i64 r.hi, .int .i64 r.m, .int .i64 r.r, .int .i64 r.k]] w fun e w' => e = .returned (.bool true) ∧ Below w.heap.size w w') ∧ Hid (is = true → ∀ w, Calls Try.prog 22 #[.agg #[.int .i64 s.lo, .int .i64 s.hi, .int .i64 s.m, .int .i64 s.r, .int .i64 s.k], .agg #[.int .i64 a.lo, .int .i64 a.hi, .int .i64 a.m, .int .i64 a.r, .int .i64 a.k]] w fun e w' => e = .returned (.bool true) ∧ Below w.heap.size w w') ∧ Hid (is = true → ∀ w, Calls Try.prog 22 #[.agg #[.int .i64 t.lo, .int .i64 t.hi, .int .i64 t.m, .int .i64 t.r, .int .i64 t.k], .agg #[.int .i64 b.lo, .int .i64 b.hi, .int .i64 b.m, .int .i64 b.r, .int .i64 b.k]] w fun e w' => e = .returned (.bool true) ∧ Below w.heap.size w w'))) (w : World) :
    Calls Try.prog 8 #[.agg #[.int .i64 x0, .int .i64 x1, .int .i64 x2, .int .i64 x3], .agg #[.int .i64 y0, .int .i64 y1, .int .i64 y2, .int .i64 y3], .agg #[.int .i64 n0, .int .i64 n1, .int .i64 n2, .int .i64 n3]] w fun e w' => e = .returned (.bool true) ∧ Below w.heap.size w w' := by
  obtain ⟨w0, hw0⟩ : ∃ w0, (((w.alloc (.cells #[.int .i64 x0, .int .i64 x1, .int .i64 x2, .int .i64 x3] 23)).alloc (.cells #[.int .i64 y0, .int .i64 y1, .int .i64 y2, .int .i64 y3] 23)).alloc (.cells #[.int .i64 n0, .int .i64 n1, .int .i64 n2, .int .i64 n3] 51)) = w0 := ⟨_, rfl⟩
  have B0 : Hid (Below w.heap.size w w0) := hidA (by rw [← hw0]; exact ((((Below.refl _ _).alloc (by first | exact Nat.le_refl _ | (simp; done) | (simp; omega) | omega) _).alloc (by first | exact Nat.le_refl _ | (simp; done) | (simp; omega) | omega) _).alloc (by first | exact Nat.le_refl _ | (simp; done) | (simp; omega) | omega) _))
  have hsz : w.heap.size + 1 + 1 < w0.heap.size := by rw [← hw0]; simp
  have PK : Hid (∀ W, Below w0.heap.size w0 W → W.cell? ⟨w.heap.size, 0, none⟩ = some (.int .i64 x0) ∧ W.cell? ⟨w.heap.size, 1, none⟩ = some (.int .i64 x1) ∧ W.cell? ⟨w.heap.size, 2, none⟩ = some (.int .i64 x2) ∧ W.cell? ⟨w.heap.size, 3, none⟩ = some (.int .i64 x3) ∧ W.cell? ⟨w.heap.size + 1, 0, none⟩ = some (.int .i64 y0) ∧ W.cell? ⟨w.heap.size + 1, 1, none⟩ = some (.int .i64 y1) ∧ W.cell? ⟨w.heap.size + 1, 2, none⟩ = some (.int .i64 y2) ∧ W.cell? ⟨w.heap.size + 1, 3, none⟩ = some (.int .i64 y3) ∧ W.cell? ⟨w.heap.size + 1 + 1, 0, none⟩ = some (.int .i64 n0) ∧ W.cell? ⟨w.heap.size + 1 + 1, 1, none⟩ = some (.int .i64 n1) ∧ W.cell? ⟨w.heap.size + 1 + 1, 2, none⟩ = some (.int .i64 n2) ∧ W.cell? ⟨w.heap.size + 1 + 1, 3, none⟩ = some (.int .i64 n3) ∧ w.heap.size < W.heap.size ∧ w.heap.size + 1 < W.heap.size ∧ w.heap.size + 1 + 1 < W.heap.size) := hidA (fun W hW => ⟨cellA hW (by rw [← hw0]; simp [go_sem]), cellA hW (by rw [← hw0]; simp [go_sem]), cellA hW (by rw [← hw0]; simp [go_sem]), cellA hW (by rw [← hw0]; simp [go_sem]), cellA hW (by rw [← hw0]; simp [go_sem]), cellA hW (by rw [← hw0]; simp [go_sem]), cellA hW (by rw [← hw0]; simp [go_sem]), cellA hW (by rw [← hw0]; simp [go_sem]), cellA hW (by rw [← hw0]; simp [go_sem]), cellA hW (by rw [← hw0]; simp [go_sem]), cellA hW (by rw [← hw0]; simp [go_sem]), cellA hW (by rw [← hw0]; simp [go_sem]), (by have h0 := hW.size; have h1 := hsz; omega), (by have h0 := hW.size; have h1 := hsz; omega), (by have h0 := hW.size; have h1 := hsz; omega)⟩)
  have Hw := hidA hw0; clear hw0
  go_enter Try.func8, Try.ntmps8
  go_wp2_with fail
  rw [Hw.out]
  clear Hw
  have HS : Hid (Below w0.heap.size w0 w0) := hidA (Below.refl _ _)
  obtain ⟨c0, c1, c2, c3, c4, c5, c6, c7, c8, c9, c10, c11, z0, z1, z2⟩ := PK.out _ HS.out
  go_wp2_with fail
  refine (EX.out _).mono ?_
  rintro e w1 ⟨rfl, hb⟩
  have hs1 := stepA HS.out hb
  clear hb
  try clear hsD
  have HS' := hidA hs1; clear HS hs1; clear c0 c1 c2 c3 c4 c5 c6 c7 c8 c9 c10 c11 z0 z1 z2; have HS := HS'; clear HS'; obtain ⟨c0, c1, c2, c3, c4, c5, c6, c7, c8, c9, c10, c11, z0, z1, z2⟩ := PK.out _ HS.out
  have PN : Hid (∀ V, Below w1.heap.size w1 V → _) := hidA (fun V hV => PK.out V (stepA HS.out hV))
  have BN : Hid (Below w.heap.size w w1) := hidA (B0.out.trans (HS.out.mono B0.out.size))
  have hszN : w.heap.size + 1 + 1 < w1.heap.size := by first | assumption | omega
  clear B0 PK HS hsz
  clear c0 c1 c2 c3 c4 c5 c6 c7 c8 c9 c10 c11 z0 z1 z2
  have PK := PN
  have B0 := BN
  have hsz := hszN
  clear PN BN hszN
  have HS : Hid (Below w1.heap.size w1 w1) := hidA (Below.refl _ _)
  generalize w1 = w0 at *
  obtain ⟨c0, c1, c2, c3, c4, c5, c6, c7, c8, c9, c10, c11, z0, z1, z2⟩ := PK.out _ HS.out
  go_upto_region 4 with (fail)
  go_cut [8] (fun s W => ∃ g : Nat, s = .pointer (some ⟨g, 0, none⟩) ∧ Below w0.heap.size w0 W ∧ W.cell? ⟨g, 0, none⟩ = some (.int .i64 a.lo) ∧ W.cell? ⟨g, 1, none⟩ = some (.int .i64 a.hi) ∧ W.cell? ⟨g, 2, none⟩ = some (.int .i64 a.m) ∧ W.cell? ⟨g, 3, none⟩ = some (.int .i64 a.r) ∧ W.cell? ⟨g, 4, none⟩ = some (.int .i64 a.k) ∧ W.cell? ⟨g, 5, none⟩ = some (.int .i64 b.lo) ∧ W.cell? ⟨g, 6, none⟩ = some (.int .i64 b.hi) ∧ W.cell? ⟨g, 7, none⟩ = some (.int .i64 b.m) ∧ W.cell? ⟨g, 8, none⟩ = some (.int .i64 b.r) ∧ W.cell? ⟨g, 9, none⟩ = some (.int .i64 b.k))
  case first =>
    have hsD := HS.out.drew
    have leD : w0.heap.size ≤ w0.heap.size := Nat.le_refl _
    go_region_held3 (fun w' => w'.cell? ⟨w.heap.size, 0, none⟩ = some (.int .i64 x0) ∧ w'.cell? ⟨w.heap.size, 1, none⟩ = some (.int .i64 x1) ∧ w'.cell? ⟨w.heap.size, 2, none⟩ = some (.int .i64 x2) ∧ w'.cell? ⟨w.heap.size, 3, none⟩ = some (.int .i64 x3) ∧ w'.cell? ⟨w.heap.size + 1, 0, none⟩ = some (.int .i64 y0) ∧ w'.cell? ⟨w.heap.size + 1, 1, none⟩ = some (.int .i64 y1) ∧ w'.cell? ⟨w.heap.size + 1, 2, none⟩ = some (.int .i64 y2) ∧ w'.cell? ⟨w.heap.size + 1, 3, none⟩ = some (.int .i64 y3) ∧ Below w0.heap.size w0 w')
      ((refine (fun hB => ⟨(PK.out _ hB).1, (PK.out _ hB).2.1, (PK.out _ hB).2.2.1, (PK.out _ hB).2.2.2.1, (PK.out _ hB).2.2.2.2.1, (PK.out _ hB).2.2.2.2.2.1, (PK.out _ hB).2.2.2.2.2.2.1, (PK.out _ hB).2.2.2.2.2.2.2.1, hB⟩) (?_ : Below w0.heap.size w0 _); exact (by repeat (first | with_reducible assumption | with_reducible exact Below.refl _ _ | with_reducible refine Below.setCell ?_ (by first | omega | (dsimp only; omega) | (simp; done) | (simp; omega)) _ | with_reducible refine Below.alloc ?_ (by first | omega | (dsimp only; omega) | (simp; done) | (simp; omega)) _ | with_reducible refine Below.drew ?_))))
      (first
        | ((go_at_call 10; (with_reducible refine (CA.out _).mono ?_); rintro e w1 ⟨rfl, hb1⟩; have hs1 : Below w0.heap.size w0 w1 := stepA (by repeat (first | with_reducible assumption | with_reducible exact Below.refl _ _ | with_reducible refine Below.setCell ?_ (by first | omega | (dsimp only; omega) | (simp; done) | (simp; omega)) _ | with_reducible refine Below.alloc ?_ (by first | omega | (dsimp only; omega) | (simp; done) | (simp; omega)) _ | with_reducible refine Below.drew ?_)) hb1; have le1 : w0.heap.size ≤ w1.heap.size := hs1.size; obtain ⟨hc1, hf1⟩ := bcell hb1; have sz1 := hb1.size; (try simp at sz1); (try have sa10 : w0.heap.size < w1.heap.size := by omega); (try have sb10 : w0.heap.size + 1 < w1.heap.size := by omega); (try have sc10 : w0.heap.size + 1 + 1 < w1.heap.size := by omega); (have sd10 : w0.heap.size < w1.heap.size + 1 := by omega); (have se10 : w0.heap.size < w1.heap.size + 1 + 1 := by omega); (have sf10 : w0.heap.size < w1.heap.size + 1 + 1 + 1 := by omega)))
        | ((go_at_call 10; (with_reducible refine (CB.out _).mono ?_); rintro e w2 ⟨rfl, hb2⟩; have hs2 : Below w0.heap.size w0 w2 := stepA (by repeat (first | with_reducible assumption | with_reducible exact Below.refl _ _ | with_reducible refine Below.setCell ?_ (by first | omega | (dsimp only; omega) | (simp; done) | (simp; omega)) _ | with_reducible refine Below.alloc ?_ (by first | omega | (dsimp only; omega) | (simp; done) | (simp; omega)) _ | with_reducible refine Below.drew ?_)) hb2; have le2 : w0.heap.size ≤ w2.heap.size := hs2.size; obtain ⟨hc2, hf2⟩ := bcell hb2; have sz2 := hb2.size; (try simp at sz2); (try have sa20 : w0.heap.size < w2.heap.size := by omega); (try have sb20 : w0.heap.size + 1 < w2.heap.size := by omega); (try have sc20 : w0.heap.size + 1 + 1 < w2.heap.size := by omega); (have sd20 : w0.heap.size < w2.heap.size + 1 := by omega); (have se20 : w0.heap.size < w2.heap.size + 1 + 1 := by omega); (have sf20 : w0.heap.size < w2.heap.size + 1 + 1 + 1 := by omega); (try have sa21 : w1.heap.size < w2.heap.size := by omega); (try have sb21 : w1.heap.size + 1 < w2.heap.size := by omega); (try have sc21 : w1.heap.size + 1 + 1 < w2.heap.size := by omega); (have sd21 : w1.heap.size < w2.heap.size + 1 := by omega); (have se21 : w1.heap.size < w2.heap.size + 1 + 1 := by omega); (have sf21 : w1.heap.size < w2.heap.size + 1 + 1 + 1 := by omega))))
    all_goals
      go_wp2_with fail
      go_meet
      exact ⟨_, rfl, (by repeat (first | with_reducible assumption | with_reducible exact Below.refl _ _ | with_reducible refine Below.setCell ?_ (by first | omega | (dsimp only; omega) | (simp; done) | (simp; omega)) _ | with_reducible refine Below.alloc ?_ (by first | omega | (dsimp only; omega) | (simp; done) | (simp; omega)) _ | with_reducible refine Below.drew ?_)), (by first | (simp [go_sem, *]; done) | ((try simp [go_sem, *]); exact World.cell?_setCell_same _ _ _ (show _ = some (.int .i64 0) by first | (simp [go_sem, *]; done) | exact (hc2 _ _ (by simp)).trans (by simp [go_sem]) | exact (hc2 _ _ (by simp; omega)).trans ((hc1 _ _ (by simp)).trans (by simp [go_sem]))))), (by first | (simp [go_sem, *]; done) | ((try simp [go_sem, *]); exact World.cell?_setCell_same _ _ _ (show _ = some (.int .i64 0) by first | (simp [go_sem, *]; done) | exact (hc2 _ _ (by simp)).trans (by simp [go_sem]) | exact (hc2 _ _ (by simp; omega)).trans ((hc1 _ _ (by simp)).trans (by simp [go_sem]))))), (by first | (simp [go_sem, *]; done) | ((try simp [go_sem, *]); exact World.cell?_setCell_same _ _ _ (show _ = some (.int .i64 0) by first | (simp [go_sem, *]; done) | exact (hc2 _ _ (by simp)).trans (by simp [go_sem]) | exact (hc2 _ _ (by simp; omega)).trans ((hc1 _ _ (by simp)).trans (by simp [go_sem]))))), (by first | (simp [go_sem, *]; done) | ((try simp [go_sem, *]); exact World.cell?_setCell_same _ _ _ (show _ = some (.int .i64 0) by first | (simp [go_sem, *]; done) | exact (hc2 _ _ (by simp)).trans (by simp [go_sem]) | exact (hc2 _ _ (by simp; omega)).trans ((hc1 _ _ (by simp)).trans (by simp [go_sem]))))), (by first | (simp [go_sem, *]; done) | ((try simp [go_sem, *]); exact World.cell?_setCell_same _ _ _ (show _ = some (.int .i64 0) by first | (simp [go_sem, *]; done) | exact (hc2 _ _ (by simp)).trans (by simp [go_sem]) | exact (hc2 _ _ (by simp; omega)).trans ((hc1 _ _ (by simp)).trans (by simp [go_sem]))))), (by first | (simp [go_sem, *]; done) | ((try simp [go_sem, *]); exact World.cell?_setCell_same _ _ _ (show _ = some (.int .i64 0) by first | (simp [go_sem, *]; done) | exact (hc2 _ _ (by simp)).trans (by simp [go_sem]) | exact (hc2 _ _ (by simp; omega)).trans ((hc1 _ _ (by simp)).trans (by simp [go_sem]))))), (by first | (simp [go_sem, *]; done) | ((try simp [go_sem, *]); exact World.cell?_setCell_same _ _ _ (show _ = some (.int .i64 0) by first | (simp [go_sem, *]; done) | exact (hc2 _ _ (by simp)).trans (by simp [go_sem]) | exact (hc2 _ _ (by simp; omega)).trans ((hc1 _ _ (by simp)).trans (by simp [go_sem]))))), (by first | (simp [go_sem, *]; done) | ((try simp [go_sem, *]); exact World.cell?_setCell_same _ _ _ (show _ = some (.int .i64 0) by first | (simp [go_sem, *]; done) | exact (hc2 _ _ (by simp)).trans (by simp [go_sem]) | exact (hc2 _ _ (by simp; omega)).trans ((hc1 _ _ (by simp)).trans (by simp [go_sem]))))), (by first | (simp [go_sem, *]; done) | ((try simp [go_sem, *]); exact World.cell?_setCell_same _ _ _ (show _ = some (.int .i64 0) by first | (simp [go_sem, *]; done) | exact (hc2 _ _ (by simp)).trans (by simp [go_sem]) | exact (hc2 _ _ (by simp; omega)).trans ((hc1 _ _ (by simp)).trans (by simp [go_sem]))))), (by first | (simp [go_sem, *]; done) | ((try simp [go_sem, *]); exact World.cell?_setCell_same _ _ _ (show _ = some (.int .i64 0) by first | (simp [go_sem, *]; done) | exact (hc2 _ _ (by simp)).trans (by simp [go_sem]) | exact (hc2 _ _ (by simp; omega)).trans ((hc1 _ _ (by simp)).trans (by simp [go_sem])))))⟩
  case rest =>
    obtain ⟨g, rfl, hB, p0, p1, p2, p3, p4, p5, p6, p7, p8, p9⟩ := hcut
    have P0 := hidA p0
    have P1 := hidA p1
    have P2 := hidA p2
    have P3 := hidA p3
    have P4 := hidA p4
    have P5 := hidA p5
    have P6 := hidA p6
    have P7 := hidA p7
    have P8 := hidA p8
    have P9 := hidA p9
    clear p0 p1 p2 p3 p4 p5 p6 p7 p8 p9
    clear c0 c1 c2 c3 c4 c5 c6 c7 c8 c9 c10 c11 z0 z1 z2
    obtain ⟨c0, c1, c2, c3, c4, c5, c6, c7, c8, c9, c10, c11, z0, z1, z2⟩ := PK.out _ hB
    have N0 := hidA c8
    have N1 := hidA c9
    have N2 := hidA c10
    have N3 := hidA c11
    clear c0 c1 c2 c3 c4 c5 c6 c7 c8 c9 c10 c11 z0 z1 z2
    have BW := hidA (B0.out.trans (hB.mono (by first | omega | (dsimp only; omega) | (simp; done) | (simp; omega))))
    clear hB hsz
    have BN : Hid (Below w.heap.size w wc) := hidA BW.out
    have leW : w.heap.size ≤ wc.heap.size := BN.out.size
    clear B0 PK HS
    have PK : Hid (∀ V, Below wc.heap.size wc V → V.cell? ⟨w.heap.size + 1 + 1, 0, none⟩ = some (.int .i64 n0) ∧ V.cell? ⟨w.heap.size + 1 + 1, 1, none⟩ = some (.int .i64 n1) ∧ V.cell? ⟨w.heap.size + 1 + 1, 2, none⟩ = some (.int .i64 n2) ∧ V.cell? ⟨w.heap.size + 1 + 1, 3, none⟩ = some (.int .i64 n3) ∧ V.cell? ⟨g, 0, none⟩ = some (.int .i64 a.lo) ∧ V.cell? ⟨g, 1, none⟩ = some (.int .i64 a.hi) ∧ V.cell? ⟨g, 2, none⟩ = some (.int .i64 a.m) ∧ V.cell? ⟨g, 3, none⟩ = some (.int .i64 a.r) ∧ V.cell? ⟨g, 4, none⟩ = some (.int .i64 a.k) ∧ V.cell? ⟨g, 5, none⟩ = some (.int .i64 b.lo) ∧ V.cell? ⟨g, 6, none⟩ = some (.int .i64 b.hi) ∧ V.cell? ⟨g, 7, none⟩ = some (.int .i64 b.m) ∧ V.cell? ⟨g, 8, none⟩ = some (.int .i64 b.r) ∧ V.cell? ⟨g, 9, none⟩ = some (.int .i64 b.k) ∧ w.heap.size + 1 + 1 < V.heap.size ∧ g < V.heap.size) := hidA (fun V hW => ⟨cellA hW N0.out, cellA hW N1.out, cellA hW N2.out, cellA hW N3.out, cellA hW P0.out, cellA hW P1.out, cellA hW P2.out, cellA hW P3.out, cellA hW P4.out, cellA hW P5.out, cellA hW P6.out, cellA hW P7.out, cellA hW P8.out, cellA hW P9.out, Nat.lt_of_lt_of_le (World.block_lt_of_cell? _ _ N0.out) hW.size, Nat.lt_of_lt_of_le (World.block_lt_of_cell? _ _ P0.out) hW.size⟩)
    clear N0 N1 N2 N3 P0 P1 P2 P3 P4 P5 P6 P7 P8 P9
    have B0 := BN
    clear BN
    have HS : Hid (Below wc.heap.size wc wc) := hidA (Below.refl _ _)
    generalize wc = w0 at *
    obtain ⟨c0, c1, c2, c3, c4, c5, c6, c7, c8, c9, c10, c11, c12, c13, z0, z1⟩ := PK.out _ HS.out
    clear BW
    go_upto_region 5 with (fail)
    go_cut [9, 10] (fun s t W => ∃ e f : Nat, s = .pointer (some ⟨e, 0, none⟩) ∧ t = .pointer (some ⟨f, 0, none⟩) ∧ Below w0.heap.size w0 W ∧ W.cell? ⟨e, 0, none⟩ = some (.int .i64 v) ∧ W.cell? ⟨e, 1, none⟩ = some (.int .i64 vk) ∧ W.cell? ⟨f, 0, none⟩ = some (.int .i64 u) ∧ W.cell? ⟨f, 1, none⟩ = some (.int .i64 uk))
    case first =>
      have hsD := HS.out.drew
      have leD : w0.heap.size ≤ w0.heap.size := Nat.le_refl _
      go_region_held3 (fun w' => w'.cell? ⟨w.heap.size + 1 + 1, 0, none⟩ = some (.int .i64 n0) ∧ w'.cell? ⟨w.heap.size + 1 + 1, 1, none⟩ = some (.int .i64 n1) ∧ w'.cell? ⟨w.heap.size + 1 + 1, 2, none⟩ = some (.int .i64 n2) ∧ w'.cell? ⟨w.heap.size + 1 + 1, 3, none⟩ = some (.int .i64 n3) ∧ w'.cell? ⟨g, 0, none⟩ = some (.int .i64 a.lo) ∧ w'.cell? ⟨g, 1, none⟩ = some (.int .i64 a.hi) ∧ w'.cell? ⟨g, 2, none⟩ = some (.int .i64 a.m) ∧ w'.cell? ⟨g, 3, none⟩ = some (.int .i64 a.r) ∧ w'.cell? ⟨g, 4, none⟩ = some (.int .i64 a.k) ∧ w'.cell? ⟨g, 5, none⟩ = some (.int .i64 b.lo) ∧ w'.cell? ⟨g, 6, none⟩ = some (.int .i64 b.hi) ∧ w'.cell? ⟨g, 7, none⟩ = some (.int .i64 b.m) ∧ w'.cell? ⟨g, 8, none⟩ = some (.int .i64 b.r) ∧ w'.cell? ⟨g, 9, none⟩ = some (.int .i64 b.k) ∧ Below w0.heap.size w0 w')
        ((refine (fun hB => ⟨(PK.out _ hB).1, (PK.out _ hB).2.1, (PK.out _ hB).2.2.1, (PK.out _ hB).2.2.2.1, (PK.out _ hB).2.2.2.2.1, (PK.out _ hB).2.2.2.2.2.1, (PK.out _ hB).2.2.2.2.2.2.1, (PK.out _ hB).2.2.2.2.2.2.2.1, (PK.out _ hB).2.2.2.2.2.2.2.2.1, (PK.out _ hB).2.2.2.2.2.2.2.2.2.1, (PK.out _ hB).2.2.2.2.2.2.2.2.2.2.1, (PK.out _ hB).2.2.2.2.2.2.2.2.2.2.2.1, (PK.out _ hB).2.2.2.2.2.2.2.2.2.2.2.2.1, (PK.out _ hB).2.2.2.2.2.2.2.2.2.2.2.2.2.1, hB⟩) (?_ : Below w0.heap.size w0 _); exact (by repeat (first | with_reducible assumption | with_reducible exact Below.refl _ _ | with_reducible refine Below.setCell ?_ (by first | omega | (dsimp only; omega) | (simp; done) | (simp; omega)) _ | with_reducible refine Below.alloc ?_ (by first | omega | (dsimp only; omega) | (simp; done) | (simp; omega)) _ | with_reducible refine Below.drew ?_))))
        (first
          | ((go_at_call 34; (with_reducible refine (CV.out _).mono ?_); rintro e w1 ⟨rfl, hb1⟩; have hs1 : Below w0.heap.size w0 w1 := stepA (by repeat (first | with_reducible assumption | with_reducible exact Below.refl _ _ | with_reducible refine Below.setCell ?_ (by first | omega | (dsimp only; omega) | (simp; done) | (simp; omega)) _ | with_reducible refine Below.alloc ?_ (by first | omega | (dsimp only; omega) | (simp; done) | (simp; omega)) _ | with_reducible refine Below.drew ?_)) hb1; have le1 : w0.heap.size ≤ w1.heap.size := hs1.size; obtain ⟨hc1, hf1⟩ := bcell hb1; have sz1 := hb1.size; (try simp at sz1); (try have sa10 : w0.heap.size < w1.heap.size := by omega); (try have sb10 : w0.heap.size + 1 < w1.heap.size := by omega); (try have sc10 : w0.heap.size + 1 + 1 < w1.heap.size := by omega); (have sd10 : w0.heap.size < w1.heap.size + 1 := by omega); (have se10 : w0.heap.size < w1.heap.size + 1 + 1 := by omega); (have sf10 : w0.heap.size < w1.heap.size + 1 + 1 + 1 := by omega)))
          | ((go_at_call 34; (with_reducible refine (CW.out _).mono ?_); rintro e w2 ⟨rfl, hb2⟩; have hs2 : Below w0.heap.size w0 w2 := stepA (by repeat (first | with_reducible assumption | with_reducible exact Below.refl _ _ | with_reducible refine Below.setCell ?_ (by first | omega | (dsimp only; omega) | (simp; done) | (simp; omega)) _ | with_reducible refine Below.alloc ?_ (by first | omega | (dsimp only; omega) | (simp; done) | (simp; omega)) _ | with_reducible refine Below.drew ?_)) hb2; have le2 : w0.heap.size ≤ w2.heap.size := hs2.size; obtain ⟨hc2, hf2⟩ := bcell hb2; have sz2 := hb2.size; (try simp at sz2); (try have sa20 : w0.heap.size < w2.heap.size := by omega); (try have sb20 : w0.heap.size + 1 < w2.heap.size := by omega); (try have sc20 : w0.heap.size + 1 + 1 < w2.heap.size := by omega); (have sd20 : w0.heap.size < w2.heap.size + 1 := by omega); (have se20 : w0.heap.size < w2.heap.size + 1 + 1 := by omega); (have sf20 : w0.heap.size < w2.heap.size + 1 + 1 + 1 := by omega); (try have sa21 : w1.heap.size < w2.heap.size := by omega); (try have sb21 : w1.heap.size + 1 < w2.heap.size := by omega); (try have sc21 : w1.heap.size + 1 + 1 < w2.heap.size := by omega); (have sd21 : w1.heap.size < w2.heap.size + 1 := by omega); (have se21 : w1.heap.size < w2.heap.size + 1 + 1 := by omega); (have sf21 : w1.heap.size < w2.heap.size + 1 + 1 + 1 := by omega))))
      all_goals
        go_wp2_with fail
        go_meet
        exact ⟨_, _, rfl, rfl, (by repeat (first | with_reducible assumption | with_reducible exact Below.refl _ _ | with_reducible refine Below.setCell ?_ (by first | omega | (dsimp only; omega) | (simp; done) | (simp; omega)) _ | with_reducible refine Below.alloc ?_ (by first | omega | (dsimp only; omega) | (simp; done) | (simp; omega)) _ | with_reducible refine Below.drew ?_)), (by first | (simp [go_sem, *]; done) | ((try simp [go_sem, *]); exact World.cell?_setCell_same _ _ _ (show _ = some (.int .i64 0) by first | (simp [go_sem, *]; done) | exact (hc2 _ _ (by simp)).trans (by simp [go_sem]) | exact (hc2 _ _ (by simp; omega)).trans ((hc1 _ _ (by simp)).trans (by simp [go_sem]))))), (by first | (simp [go_sem, *]; done) | ((try simp [go_sem, *]); exact World.cell?_setCell_same _ _ _ (show _ = some (.int .i64 0) by first | (simp [go_sem, *]; done) | exact (hc2 _ _ (by simp)).trans (by simp [go_sem]) | exact (hc2 _ _ (by simp; omega)).trans ((hc1 _ _ (by simp)).trans (by simp [go_sem]))))), (by first | (simp [go_sem, *]; done) | ((try simp [go_sem, *]); exact World.cell?_setCell_same _ _ _ (show _ = some (.int .i64 0) by first | (simp [go_sem, *]; done) | exact (hc2 _ _ (by simp)).trans (by simp [go_sem]) | exact (hc2 _ _ (by simp; omega)).trans ((hc1 _ _ (by simp)).trans (by simp [go_sem]))))), (by first | (simp [go_sem, *]; done) | ((try simp [go_sem, *]); exact World.cell?_setCell_same _ _ _ (show _ = some (.int .i64 0) by first | (simp [go_sem, *]; done) | exact (hc2 _ _ (by simp)).trans (by simp [go_sem]) | exact (hc2 _ _ (by simp; omega)).trans ((hc1 _ _ (by simp)).trans (by simp [go_sem])))))⟩
    case rest =>
      obtain ⟨e, f, rfl, rfl, hB, r0, r1, s0, s1⟩ := hcut
      have V0 := hidA r0
      have V1 := hidA r1
      have U0 := hidA s0
      have U1 := hidA s1
      clear r0 r1 s0 s1
      clear c0 c1 c2 c3 c4 c5 c6 c7 c8 c9 c10 c11 c12 c13 z0 z1
      obtain ⟨c0, c1, c2, c3, c4, c5, c6, c7, c8, c9, c10, c11, c12, c13, z0, z1⟩ := PK.out _ hB
      have P0 := hidA c4
      have P1 := hidA c5
      have P2 := hidA c6
      have P3 := hidA c7
      have P4 := hidA c8
      have P5 := hidA c9
      have P6 := hidA c10
      have P7 := hidA c11
      have P8 := hidA c12
      have P9 := hidA c13
      clear c0 c1 c2 c3 c4 c5 c6 c7 c8 c9 c10 c11 c12 c13 z0 z1
      have BW := hidA (B0.out.trans (hB.mono (by first | omega | (dsimp only; omega) | (simp; done) | (simp; omega))))
      clear hB
      have BN : Hid (Below w.heap.size w wc) := hidA BW.out
      have leW : w.heap.size ≤ wc.heap.size := BN.out.size
      clear B0 PK HS
      have PK : Hid (∀ V, Below wc.heap.size wc V → V.cell? ⟨g, 0, none⟩ = some (.int .i64 a.lo) ∧ V.cell? ⟨g, 1, none⟩ = some (.int .i64 a.hi) ∧ V.cell? ⟨g, 2, none⟩ = some (.int .i64 a.m) ∧ V.cell? ⟨g, 3, none⟩ = some (.int .i64 a.r) ∧ V.cell? ⟨g, 4, none⟩ = some (.int .i64 a.k) ∧ V.cell? ⟨g, 5, none⟩ = some (.int .i64 b.lo) ∧ V.cell? ⟨g, 6, none⟩ = some (.int .i64 b.hi) ∧ V.cell? ⟨g, 7, none⟩ = some (.int .i64 b.m) ∧ V.cell? ⟨g, 8, none⟩ = some (.int .i64 b.r) ∧ V.cell? ⟨g, 9, none⟩ = some (.int .i64 b.k) ∧ V.cell? ⟨e, 0, none⟩ = some (.int .i64 v) ∧ V.cell? ⟨e, 1, none⟩ = some (.int .i64 vk) ∧ V.cell? ⟨f, 0, none⟩ = some (.int .i64 u) ∧ V.cell? ⟨f, 1, none⟩ = some (.int .i64 uk) ∧ g < V.heap.size ∧ e < V.heap.size ∧ f < V.heap.size) := hidA (fun V hW => ⟨cellA hW P0.out, cellA hW P1.out, cellA hW P2.out, cellA hW P3.out, cellA hW P4.out, cellA hW P5.out, cellA hW P6.out, cellA hW P7.out, cellA hW P8.out, cellA hW P9.out, cellA hW V0.out, cellA hW V1.out, cellA hW U0.out, cellA hW U1.out, Nat.lt_of_lt_of_le (World.block_lt_of_cell? _ _ P0.out) hW.size, Nat.lt_of_lt_of_le (World.block_lt_of_cell? _ _ V0.out) hW.size, Nat.lt_of_lt_of_le (World.block_lt_of_cell? _ _ U0.out) hW.size⟩)
      clear P0 P1 P2 P3 P4 P5 P6 P7 P8 P9 V0 V1 U0 U1
      have B0 := BN
      clear BN
      have HS : Hid (Below wc.heap.size wc wc) := hidA (Below.refl _ _)
      generalize wc = w0 at *
      obtain ⟨c0, c1, c2, c3, c4, c5, c6, c7, c8, c9, c10, c11, c12, c13, z0, z1, z2⟩ := PK.out _ HS.out
      clear BW
      have leB := B0.out.size
      go_wp2_with fail
      go_loopw [11] (fun s W => ∃ k : Int, 2 ≤ k ∧ k ≤ 5 ∧ s = .int .i64 k ∧ Below w0.heap.size w0 W) (fun s _ => (5 - intOf s).toNat)
      case atStart => exact ⟨2, by omega, by omega, rfl, HS.out⟩
      case round =>
        obtain ⟨k, k1, k2, rfl, hB⟩ := hrel
        have HR := hidA hB
        clear hB HS
        clear c0 c1 c2 c3 c4 c5 c6 c7 c8 c9 c10 c11 c12 c13 z0 z1 z2
        by_cases hk : k ≤ 4
        · obtain ⟨q, r, s, t, is, RA, RB, H1, H2, L1, L2, V1, V2, L3, L4⟩ := PACK.out k k1 hk
          have HO := fun w g k0 k1 k2 k3 k4 k5 k6 k7 => holds_two k v u (by omega) hv.out hu.out w g k0 k1 k2 k3 k4 k5 k6 k7
          generalize cmpB k v u = hb at *
          have HS := HR
          obtain ⟨c0, c1, c2, c3, c4, c5, c6, c7, c8, c9, c10, c11, c12, c13, z0, z1, z2⟩ := PK.out _ HS.out
          go_upto_region 9 with (fail)
          have hsD := HS.out.drew
          have leD : w0.heap.size ≤ w0.heap.size := Nat.le_refl _
          go_region_held3 (fun w' => w'.cell? ⟨e, 0, none⟩ = some (.int .i64 v) ∧ w'.cell? ⟨e, 1, none⟩ = some (.int .i64 vk) ∧ w'.cell? ⟨f, 0, none⟩ = some (.int .i64 u) ∧ w'.cell? ⟨f, 1, none⟩ = some (.int .i64 uk) ∧ Below w0.heap.size w0 w')
            ((refine (fun hB => ⟨(PK.out _ hB).2.2.2.2.2.2.2.2.2.2.1, (PK.out _ hB).2.2.2.2.2.2.2.2.2.2.2.1, (PK.out _ hB).2.2.2.2.2.2.2.2.2.2.2.2.1, (PK.out _ hB).2.2.2.2.2.2.2.2.2.2.2.2.2.1, hB⟩) (?_ : Below w0.heap.size w0 _); exact (by repeat (first | with_reducible assumption | with_reducible exact Below.refl _ _ | with_reducible refine Below.setCell ?_ (by first | omega | (dsimp only; omega) | (simp; done) | (simp; omega)) _ | with_reducible refine Below.alloc ?_ (by first | omega | (dsimp only; omega) | (simp; done) | (simp; omega)) _ | with_reducible refine Below.drew ?_))))
            (first
              | ((go_at_call 37; (with_reducible refine (rnum_any v _).mono ?_); rintro e w1 ⟨rfl, hb1⟩; have hs1 : Below w0.heap.size w0 w1 := stepA (by repeat (first | with_reducible assumption | with_reducible exact Below.refl _ _ | with_reducible refine Below.setCell ?_ (by first | omega | (dsimp only; omega) | (simp; done) | (simp; omega)) _ | with_reducible refine Below.alloc ?_ (by first | omega | (dsimp only; omega) | (simp; done) | (simp; omega)) _ | with_reducible refine Below.drew ?_)) hb1; have le1 : w0.heap.size ≤ w1.heap.size := hs1.size; obtain ⟨hc1, hf1⟩ := bcell hb1; have sz1 := hb1.size; (try simp at sz1); (try have sa10 : w0.heap.size < w1.heap.size := by omega); (try have sb10 : w0.heap.size + 1 < w1.heap.size := by omega); (try have sc10 : w0.heap.size + 1 + 1 < w1.heap.size := by omega); (have sd10 : w0.heap.size < w1.heap.size + 1 := by omega); (have se10 : w0.heap.size < w1.heap.size + 1 + 1 := by omega); (have sf10 : w0.heap.size < w1.heap.size + 1 + 1 + 1 := by omega)))
              | ((go_at_call 37; (with_reducible refine (rnum_any u _).mono ?_); rintro e w2 ⟨rfl, hb2⟩; have hs2 : Below w0.heap.size w0 w2 := stepA (by repeat (first | with_reducible assumption | with_reducible exact Below.refl _ _ | with_reducible refine Below.setCell ?_ (by first | omega | (dsimp only; omega) | (simp; done) | (simp; omega)) _ | with_reducible refine Below.alloc ?_ (by first | omega | (dsimp only; omega) | (simp; done) | (simp; omega)) _ | with_reducible refine Below.drew ?_)) hb2; have le2 : w0.heap.size ≤ w2.heap.size := hs2.size; obtain ⟨hc2, hf2⟩ := bcell hb2; have sz2 := hb2.size; (try simp at sz2); (try have sa20 : w0.heap.size < w2.heap.size := by omega); (try have sb20 : w0.heap.size + 1 < w2.heap.size := by omega); (try have sc20 : w0.heap.size + 1 + 1 < w2.heap.size := by omega); (have sd20 : w0.heap.size < w2.heap.size + 1 := by omega); (have se20 : w0.heap.size < w2.heap.size + 1 + 1 := by omega); (have sf20 : w0.heap.size < w2.heap.size + 1 + 1 + 1 := by omega); (try have sa21 : w1.heap.size < w2.heap.size := by omega); (try have sb21 : w1.heap.size + 1 < w2.heap.size := by omega); (try have sc21 : w1.heap.size + 1 + 1 < w2.heap.size := by omega); (have sd21 : w1.heap.size < w2.heap.size + 1 := by omega); (have se21 : w1.heap.size < w2.heap.size + 1 + 1 := by omega); (have sf21 : w1.heap.size < w2.heap.size + 1 + 1 + 1 := by omega)))
              | ((go_at_call 36; (with_reducible refine (HO _ _ (by simp [go_sem]) (by simp [go_sem]) (by simp [go_sem]) (by simp [go_sem]) (by simp [go_sem]) (by simp [go_sem]) (by simp [go_sem]) (by simp [go_sem])).mono ?_); rintro e w3 ⟨rfl, hb3⟩; have hs3 : Below w0.heap.size w0 w3 := stepA (by repeat (first | with_reducible assumption | with_reducible exact Below.refl _ _ | with_reducible refine Below.setCell ?_ (by first | omega | (dsimp only; omega) | (simp; done) | (simp; omega)) _ | with_reducible refine Below.alloc ?_ (by first | omega | (dsimp only; omega) | (simp; done) | (simp; omega)) _ | with_reducible refine Below.drew ?_)) hb3; have le3 : w0.heap.size ≤ w3.heap.size := hs3.size; obtain ⟨hc3, hf3⟩ := bcell hb3; have sz3 := hb3.size; (try simp at sz3); (try have sa30 : w0.heap.size < w3.heap.size := by omega); (try have sb30 : w0.heap.size + 1 < w3.heap.size := by omega); (try have sc30 : w0.heap.size + 1 + 1 < w3.heap.size := by omega); (have sd30 : w0.heap.size < w3.heap.size + 1 := by omega); (have se30 : w0.heap.size < w3.heap.size + 1 + 1 := by omega); (have sf30 : w0.heap.size < w3.heap.size + 1 + 1 + 1 := by omega); (try have sa31 : w1.heap.size < w3.heap.size := by omega); (try have sb31 : w1.heap.size + 1 < w3.heap.size := by omega); (try have sc31 : w1.heap.size + 1 + 1 < w3.heap.size := by omega); (have sd31 : w1.heap.size < w3.heap.size + 1 := by omega); (have se31 : w1.heap.size < w3.heap.size + 1 + 1 := by omega); (have sf31 : w1.heap.size < w3.heap.size + 1 + 1 + 1 := by omega); (try have sa32 : w2.heap.size < w3.heap.size := by omega); (try have sb32 : w2.heap.size + 1 < w3.heap.size := by omega); (try have sc32 : w2.heap.size + 1 + 1 < w3.heap.size := by omega); (have sd32 : w2.heap.size < w3.heap.size + 1 := by omega); (have se32 : w2.heap.size < w3.heap.size + 1 + 1 := by omega); (have sf32 : w2.heap.size < w3.heap.size + 1 + 1 + 1 := by omega))))
          try clear hsD
          clear hb1 hb2 hb3 hs1 hs2 hc1 hf1 hc2 hf2 hc3 hf3
          have HS' := hidA hs3; clear HS hs3; clear c0 c1 c2 c3 c4 c5 c6 c7 c8 c9 c10 c11 c12 c13 z0 z1 z2; have HS := HS'; clear HS'; obtain ⟨c0, c1, c2, c3, c4, c5, c6, c7, c8, c9, c10, c11, c12, c13, z0, z1, z2⟩ := PK.out _ HS.out
          go_upto_region 11 with ((go_at_call 32; (with_reducible refine (RA.out _).mono ?_); rintro e w1 ⟨rfl, hb⟩; have hs1 := stepA HS.out hb; clear hb; have HS' := hidA hs1; clear HS hs1; clear c0 c1 c2 c3 c4 c5 c6 c7 c8 c9 c10 c11 c12 c13 z0 z1 z2; have HS := HS'; clear HS'; obtain ⟨c0, c1, c2, c3, c4, c5, c6, c7, c8, c9, c10, c11, c12, c13, z0, z1, z2⟩ := PK.out _ HS.out))
          obtain ⟨d, hd⟩ : ∃ d, w1.heap.size = d := ⟨_, rfl⟩
          obtain ⟨w2, hw2⟩ : ∃ w2, w1.alloc (.cells #[.int .i64 q.lo, .int .i64 q.hi, .int .i64 q.m, .int .i64 q.r, .int .i64 q.k, .int .i64 r.lo, .int .i64 r.hi, .int .i64 r.m, .int .i64 r.r, .int .i64 r.k, .bool true] 47) = w2 := ⟨_, rfl⟩
          have U : Hid (Below w1.heap.size w1 w2) := hidA (alloc_is hw2)
          have D := row_is hw2
          rw [hw2]
          try rw [hd]
          rw [hd] at D
          clear hw2 hd
          have hs1 := stepA HS.out U.out
          clear U
          have HS' := hidA hs1; clear HS hs1; clear c0 c1 c2 c3 c4 c5 c6 c7 c8 c9 c10 c11 c12 c13 z0 z1 z2; have HS := HS'; clear HS'; obtain ⟨c0, c1, c2, c3, c4, c5, c6, c7, c8, c9, c10, c11, c12, c13, z0, z1, z2⟩ := PK.out _ HS.out
          have D0 := hidA (D 0 _ rfl)
          have D1 := hidA (D 1 _ rfl)
          have D2 := hidA (D 2 _ rfl)
          have D3 := hidA (D 3 _ rfl)
          have D4 := hidA (D 4 _ rfl)
          have D5 := hidA (D 5 _ rfl)
          have D6 := hidA (D 6 _ rfl)
          have D7 := hidA (D 7 _ rfl)
          have D8 := hidA (D 8 _ rfl)
          have D9 := hidA (D 9 _ rfl)
          have D10 := hidA (D 10 _ rfl)
          clear D
          have P0 := hidA c0
          have P1 := hidA c1
          have P2 := hidA c2
          have P3 := hidA c3
          have P4 := hidA c4
          have P5 := hidA c5
          have P6 := hidA c6
          have P7 := hidA c7
          have P8 := hidA c8
          have P9 := hidA c9
          have R0 := hidA c10
          have R1 := hidA c11
          have S0 := hidA c12
          have S1 := hidA c13
          clear c0 c1 c2 c3 c4 c5 c6 c7 c8 c9 c10 c11 c12 c13 z0 z1 z2
          have BO := HS
          have BW := hidA (B0.out.trans (HS.out.mono B0.out.size))
          have PO := PK
          have BB := B0
          have BN : Hid (Below w.heap.size w w2) := hidA BW.out
          have leW : w.heap.size ≤ w2.heap.size := BN.out.size
          clear B0 PK HS
          have PK : Hid (∀ V, Below w2.heap.size w2 V → V.cell? ⟨g, 0, none⟩ = some (.int .i64 a.lo) ∧ V.cell? ⟨g, 1, none⟩ = some (.int .i64 a.hi) ∧ V.cell? ⟨g, 2, none⟩ = some (.int .i64 a.m) ∧ V.cell? ⟨g, 3, none⟩ = some (.int .i64 a.r) ∧ V.cell? ⟨g, 4, none⟩ = some (.int .i64 a.k) ∧ V.cell? ⟨g, 5, none⟩ = some (.int .i64 b.lo) ∧ V.cell? ⟨g, 6, none⟩ = some (.int .i64 b.hi) ∧ V.cell? ⟨g, 7, none⟩ = some (.int .i64 b.m) ∧ V.cell? ⟨g, 8, none⟩ = some (.int .i64 b.r) ∧ V.cell? ⟨g, 9, none⟩ = some (.int .i64 b.k) ∧ V.cell? ⟨e, 0, none⟩ = some (.int .i64 v) ∧ V.cell? ⟨e, 1, none⟩ = some (.int .i64 vk) ∧ V.cell? ⟨f, 0, none⟩ = some (.int .i64 u) ∧ V.cell? ⟨f, 1, none⟩ = some (.int .i64 uk) ∧ V.cell? ⟨d, 0, none⟩ = some (.int .i64 q.lo) ∧ V.cell? ⟨d, 1, none⟩ = some (.int .i64 q.hi) ∧ V.cell? ⟨d, 2, none⟩ = some (.int .i64 q.m) ∧ V.cell? ⟨d, 3, none⟩ = some (.int .i64 q.r) ∧ V.cell? ⟨d, 4, none⟩ = some (.int .i64 q.k) ∧ V.cell? ⟨d, 5, none⟩ = some (.int .i64 r.lo) ∧ V.cell? ⟨d, 6, none⟩ = some (.int .i64 r.hi) ∧ V.cell? ⟨d, 7, none⟩ = some (.int .i64 r.m) ∧ V.cell? ⟨d, 8, none⟩ = some (.int .i64 r.r) ∧ V.cell? ⟨d, 9, none⟩ = some (.int .i64 r.k) ∧ V.cell? ⟨d, 10, none⟩ = some (.bool true) ∧ g < V.heap.size ∧ e < V.heap.size ∧ f < V.heap.size ∧ d < V.heap.size) := hidA (fun V hW => ⟨cellA hW P0.out, cellA hW P1.out, cellA hW P2.out, cellA hW P3.out, cellA hW P4.out, cellA hW P5.out, cellA hW P6.out, cellA hW P7.out, cellA hW P8.out, cellA hW P9.out, cellA hW R0.out, cellA hW R1.out, cellA hW S0.out, cellA hW S1.out, cellA hW D0.out, cellA hW D1.out, cellA hW D2.out, cellA hW D3.out, cellA hW D4.out, cellA hW D5.out, cellA hW D6.out, cellA hW D7.out, cellA hW D8.out, cellA hW D9.out, cellA hW D10.out, Nat.lt_of_lt_of_le (World.block_lt_of_cell? _ _ P0.out) hW.size, Nat.lt_of_lt_of_le (World.block_lt_of_cell? _ _ R0.out) hW.size, Nat.lt_of_lt_of_le (World.block_lt_of_cell? _ _ S0.out) hW.size, Nat.lt_of_lt_of_le (World.block_lt_of_cell? _ _ D0.out) hW.size⟩)
          clear P0 P1 P2 P3 P4 P5 P6 P7 P8 P9 R0 R1 S0 S1 D0 D1 D2 D3 D4 D5 D6 D7 D8 D9 D10
          have B0 := BN
          clear BN
          have HS : Hid (Below w2.heap.size w2 w2) := hidA (Below.refl _ _)
          generalize w2 = w0 at *
          obtain ⟨c0, c1, c2, c3, c4, c5, c6, c7, c8, c9, c10, c11, c12, c13, c14, c15, c16, c17, c18, c19, c20, c21, c22, c23, c24, z0, z1, z2, z3⟩ := PK.out _ HS.out
          clear BW
          go_upto_region 14 with (first | (go_at_call 14; (with_reducible refine (H1.out _).mono ?_); rintro e w1 ⟨rfl, hb⟩; have hs1 := stepA HS.out hb; clear hb; have HS' := hidA hs1; clear HS hs1; clear c0 c1 c2 c3 c4 c5 c6 c7 c8 c9 c10 c11 c12 c13 c14 c15 c16 c17 c18 c19 c20 c21 c22 c23 c24 z0 z1 z2 z3; have HS := HS'; clear HS'; obtain ⟨c0, c1, c2, c3, c4, c5, c6, c7, c8, c9, c10, c11, c12, c13, c14, c15, c16, c17, c18, c19, c20, c21, c22, c23, c24, z0, z1, z2, z3⟩ := PK.out _ HS.out) | (go_at_call 14; (with_reducible refine (H2.out _).mono ?_); rintro e w1 ⟨rfl, hb⟩; have hs1 := stepA HS.out hb; clear hb; have HS' := hidA hs1; clear HS hs1; clear c0 c1 c2 c3 c4 c5 c6 c7 c8 c9 c10 c11 c12 c13 c14 c15 c16 c17 c18 c19 c20 c21 c22 c23 c24 z0 z1 z2 z3; have HS := HS'; clear HS'; obtain ⟨c0, c1, c2, c3, c4, c5, c6, c7, c8, c9, c10, c11, c12, c13, c14, c15, c16, c17, c18, c19, c20, c21, c22, c23, c24, z0, z1, z2, z3⟩ := PK.out _ HS.out) | (go_at_call 22; (with_reducible refine (L1.out _).mono ?_); rintro e w1 ⟨rfl, hb⟩; have hs1 := stepA HS.out hb; clear hb; have HS' := hidA hs1; clear HS hs1; clear c0 c1 c2 c3 c4 c5 c6 c7 c8 c9 c10 c11 c12 c13 c14 c15 c16 c17 c18 c19 c20 c21 c22 c23 c24 z0 z1 z2 z3; have HS := HS'; clear HS'; obtain ⟨c0, c1, c2, c3, c4, c5, c6, c7, c8, c9, c10, c11, c12, c13, c14, c15, c16, c17, c18, c19, c20, c21, c22, c23, c24, z0, z1, z2, z3⟩ := PK.out _ HS.out) | (go_at_call 22; (with_reducible refine (L2.out _).mono ?_); rintro e w1 ⟨rfl, hb⟩; have hs1 := stepA HS.out hb; clear hb; have HS' := hidA hs1; clear HS hs1; clear c0 c1 c2 c3 c4 c5 c6 c7 c8 c9 c10 c11 c12 c13 c14 c15 c16 c17 c18 c19 c20 c21 c22 c23 c24 z0 z1 z2 z3; have HS := HS'; clear HS'; obtain ⟨c0, c1, c2, c3, c4, c5, c6, c7, c8, c9, c10, c11, c12, c13, c14, c15, c16, c17, c18, c19, c20, c21, c22, c23, c24, z0, z1, z2, z3⟩ := PK.out _ HS.out) | (go_at_call 12; (with_reducible refine (V1.out _).mono ?_); rintro e w1 ⟨rfl, hb⟩; have hs1 := stepA HS.out hb; clear hb; have HS' := hidA hs1; clear HS hs1; clear c0 c1 c2 c3 c4 c5 c6 c7 c8 c9 c10 c11 c12 c13 c14 c15 c16 c17 c18 c19 c20 c21 c22 c23 c24 z0 z1 z2 z3; have HS := HS'; clear HS'; obtain ⟨c0, c1, c2, c3, c4, c5, c6, c7, c8, c9, c10, c11, c12, c13, c14, c15, c16, c17, c18, c19, c20, c21, c22, c23, c24, z0, z1, z2, z3⟩ := PK.out _ HS.out) | (go_at_call 12; (with_reducible refine (V2.out _).mono ?_); rintro e w1 ⟨rfl, hb⟩; have hs1 := stepA HS.out hb; clear hb; have HS' := hidA hs1; clear HS hs1; clear c0 c1 c2 c3 c4 c5 c6 c7 c8 c9 c10 c11 c12 c13 c14 c15 c16 c17 c18 c19 c20 c21 c22 c23 c24 z0 z1 z2 z3; have HS := HS'; clear HS'; obtain ⟨c0, c1, c2, c3, c4, c5, c6, c7, c8, c9, c10, c11, c12, c13, c14, c15, c16, c17, c18, c19, c20, c21, c22, c23, c24, z0, z1, z2, z3⟩ := PK.out _ HS.out) | (go_at_call 32; (with_reducible refine (RB.out _).mono ?_); rintro e w1 ⟨rfl, hb⟩; have hs1 := stepA HS.out hb; clear hb; have HS' := hidA hs1; clear HS hs1; clear c0 c1 c2 c3 c4 c5 c6 c7 c8 c9 c10 c11 c12 c13 c14 c15 c16 c17 c18 c19 c20 c21 c22 c23 c24 z0 z1 z2 z3; have HS := HS'; clear HS'; obtain ⟨c0, c1, c2, c3, c4, c5, c6, c7, c8, c9, c10, c11, c12, c13, c14, c15, c16, c17, c18, c19, c20, c21, c22, c23, c24, z0, z1, z2, z3⟩ := PK.out _ HS.out))
          obtain ⟨o, hd⟩ : ∃ d, w1.heap.size = d := ⟨_, rfl⟩
          obtain ⟨w2, hw2⟩ : ∃ w2, w1.alloc (.cells #[.int .i64 s.lo, .int .i64 s.hi, .int .i64 s.m, .int .i64 s.r, .int .i64 s.k, .int .i64 t.lo, .int .i64 t.hi, .int .i64 t.m, .int .i64 t.r, .int .i64 t.k, .bool is] 47) = w2 := ⟨_, rfl⟩
          have U : Hid (Below w1.heap.size w1 w2) := hidA (alloc_is hw2)
          have D := row_is hw2
          rw [hw2]
          try rw [hd]
          rw [hd] at D
          clear hw2 hd
          have hs1 := stepA HS.out U.out
          clear U
          have HS' := hidA hs1; clear HS hs1; clear c0 c1 c2 c3 c4 c5 c6 c7 c8 c9 c10 c11 c12 c13 c14 c15 c16 c17 c18 c19 c20 c21 c22 c23 c24 z0 z1 z2 z3; have HS := HS'; clear HS'; obtain ⟨c0, c1, c2, c3, c4, c5, c6, c7, c8, c9, c10, c11, c12, c13, c14, c15, c16, c17, c18, c19, c20, c21, c22, c23, c24, z0, z1, z2, z3⟩ := PK.out _ HS.out
          have D0 := hidA (D 0 _ rfl)
          have D1 := hidA (D 1 _ rfl)
          have D2 := hidA (D 2 _ rfl)
          have D3 := hidA (D 3 _ rfl)
          have D4 := hidA (D 4 _ rfl)
          have D5 := hidA (D 5 _ rfl)
          have D6 := hidA (D 6 _ rfl)
          have D7 := hidA (D 7 _ rfl)
          have D8 := hidA (D 8 _ rfl)
          have D9 := hidA (D 9 _ rfl)
          have D10 := hidA (D 10 _ rfl)
          clear D
          have P0 := hidA c0
          have P1 := hidA c1
          have P2 := hidA c2
          have P3 := hidA c3
          have P4 := hidA c4
          have P5 := hidA c5
          have P6 := hidA c6
          have P7 := hidA c7
          have P8 := hidA c8
          have P9 := hidA c9
          clear c0 c1 c2 c3 c4 c5 c6 c7 c8 c9 c10 c11 c12 c13 c14 c15 c16 c17 c18 c19 c20 c21 c22 c23 c24 z0 z1 z2 z3
          have BO2 := HS
          have BW := hidA (B0.out.trans (HS.out.mono B0.out.size))
          have BN : Hid (Below w.heap.size w w2) := hidA BW.out
          have leW : w.heap.size ≤ w2.heap.size := BN.out.size
          clear B0 PK HS
          have PK : Hid (∀ V, Below w2.heap.size w2 V → V.cell? ⟨g, 0, none⟩ = some (.int .i64 a.lo) ∧ V.cell? ⟨g, 1, none⟩ = some (.int .i64 a.hi) ∧ V.cell? ⟨g, 2, none⟩ = some (.int .i64 a.m) ∧ V.cell? ⟨g, 3, none⟩ = some (.int .i64 a.r) ∧ V.cell? ⟨g, 4, none⟩ = some (.int .i64 a.k) ∧ V.cell? ⟨g, 5, none⟩ = some (.int .i64 b.lo) ∧ V.cell? ⟨g, 6, none⟩ = some (.int .i64 b.hi) ∧ V.cell? ⟨g, 7, none⟩ = some (.int .i64 b.m) ∧ V.cell? ⟨g, 8, none⟩ = some (.int .i64 b.r) ∧ V.cell? ⟨g, 9, none⟩ = some (.int .i64 b.k) ∧ V.cell? ⟨o, 0, none⟩ = some (.int .i64 s.lo) ∧ V.cell? ⟨o, 1, none⟩ = some (.int .i64 s.hi) ∧ V.cell? ⟨o, 2, none⟩ = some (.int .i64 s.m) ∧ V.cell? ⟨o, 3, none⟩ = some (.int .i64 s.r) ∧ V.cell? ⟨o, 4, none⟩ = some (.int .i64 s.k) ∧ V.cell? ⟨o, 5, none⟩ = some (.int .i64 t.lo) ∧ V.cell? ⟨o, 6, none⟩ = some (.int .i64 t.hi) ∧ V.cell? ⟨o, 7, none⟩ = some (.int .i64 t.m) ∧ V.cell? ⟨o, 8, none⟩ = some (.int .i64 t.r) ∧ V.cell? ⟨o, 9, none⟩ = some (.int .i64 t.k) ∧ V.cell? ⟨o, 10, none⟩ = some (.bool is) ∧ g < V.heap.size ∧ o < V.heap.size) := hidA (fun V hW => ⟨cellA hW P0.out, cellA hW P1.out, cellA hW P2.out, cellA hW P3.out, cellA hW P4.out, cellA hW P5.out, cellA hW P6.out, cellA hW P7.out, cellA hW P8.out, cellA hW P9.out, cellA hW D0.out, cellA hW D1.out, cellA hW D2.out, cellA hW D3.out, cellA hW D4.out, cellA hW D5.out, cellA hW D6.out, cellA hW D7.out, cellA hW D8.out, cellA hW D9.out, cellA hW D10.out, Nat.lt_of_lt_of_le (World.block_lt_of_cell? _ _ P0.out) hW.size, Nat.lt_of_lt_of_le (World.block_lt_of_cell? _ _ D0.out) hW.size⟩)
          clear P0 P1 P2 P3 P4 P5 P6 P7 P8 P9 D0 D1 D2 D3 D4 D5 D6 D7 D8 D9 D10
          have B0 := BN
          clear BN
          have HS : Hid (Below w2.heap.size w2 w2) := hidA (Below.refl _ _)
          generalize w2 = w0 at *
          obtain ⟨c0, c1, c2, c3, c4, c5, c6, c7, c8, c9, c10, c11, c12, c13, c14, c15, c16, c17, c18, c19, c20, z0, z1⟩ := PK.out _ HS.out
          clear BW
          cases is
          · go_wp2
            go_roundw
            case rel => exact ⟨k + 1, by omega, by omega, rfl, stepA BO.out (stepA BO2.out HS.out)⟩
            case measure => simp [intOf]; omega
          · have L3' := hidA (L3.out rfl)
            have L4' := hidA (L4.out rfl)
            go_wp2_with (first | (go_at_call 22; (with_reducible refine (L3'.out _).mono ?_); rintro e w1 ⟨rfl, hb⟩; have hs1 := stepA HS.out hb; clear hb; have HS' := hidA hs1; clear HS hs1; clear c0 c1 c2 c3 c4 c5 c6 c7 c8 c9 c10 c11 c12 c13 c14 c15 c16 c17 c18 c19 c20 z0 z1; have HS := HS'; clear HS'; obtain ⟨c0, c1, c2, c3, c4, c5, c6, c7, c8, c9, c10, c11, c12, c13, c14, c15, c16, c17, c18, c19, c20, z0, z1⟩ := PK.out _ HS.out) | (go_at_call 22; (with_reducible refine (L4'.out _).mono ?_); rintro e w1 ⟨rfl, hb⟩; have hs1 := stepA HS.out hb; clear hb; have HS' := hidA hs1; clear HS hs1; clear c0 c1 c2 c3 c4 c5 c6 c7 c8 c9 c10 c11 c12 c13 c14 c15 c16 c17 c18 c19 c20 z0 z1; have HS := HS'; clear HS'; obtain ⟨c0, c1, c2, c3, c4, c5, c6, c7, c8, c9, c10, c11, c12, c13, c14, c15, c16, c17, c18, c19, c20, z0, z1⟩ := PK.out _ HS.out))
            go_roundw
            case rel => exact ⟨k + 1, by omega, by omega, rfl, stepA BO.out (stepA BO2.out HS.out)⟩
            case measure => simp [intOf]; omega
        · have hk11 : k = 5 := by omega
          subst hk11
          go_wp2
          go_ret
          exact ⟨rfl, (by repeat (first | with_reducible exact Below.refl _ _ | with_reducible exact HR.out | with_reducible exact B0.out | with_reducible refine Below.setCell ?_ (by first | omega | (dsimp only; omega) | (simp; done) | (simp; omega)) _ | with_reducible refine Below.alloc ?_ (by first | omega | (dsimp only; omega) | (simp; done) | (simp; omega)) _ | with_reducible refine Below.drew ?_ | with_reducible refine drewnA ?_ _ | with_reducible refine Below.trans ?_ (HR.out.mono (by first | omega | (dsimp only; omega) | (simp; done) | (simp; omega))) | with_reducible refine Below.trans ?_ (B0.out.mono (by first | omega | (dsimp only; omega) | (simp; done) | (simp; omega)))))⟩
end Go.Proofs.Ytnholabamjodhaa

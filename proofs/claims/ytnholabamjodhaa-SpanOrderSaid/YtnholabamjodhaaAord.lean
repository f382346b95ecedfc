import Derived.Test.YtnholabamjodhaaAsnd
import Derived.Test.YtnholabamjodhaaArd
import Derived.Test.YtnholabamjodhaaArj
import Derived.Test.YtnholabamjodhaaOp
import Derived.Deep.Cut
import Derived.Deep.DeepCutAuto
namespace Go.Proofs.Ytnholabamjodhaa
open Go.RowKit Go.Instr Sp
set_option linter.unusedVariables false
set_option linter.unusedSimpArgs false

/-! SpanOrder: the law's walk. -/
set_option maxRecDepth 100000 in
set_option maxHeartbeats 8000000 in
theorem order_walk (x0 x1 x2 x3 y0 y1 y2 y3 t0 t1 t2 t3 : Int) (a b c j p q s t : Ab) (v0 v1 v2 : Int) (v0k v1k v2k : Nat) (is al h0 h1 h2 r sb : Bool) (EX : Hid (∀ w, Calls Try.prog 9 #[] w fun e w' => e = .returned (.bool true) ∧ Below w.heap.size w w')) (CA : Hid (∀ w, Calls Try.prog 10 #[.agg #[.int .i64 x0, .int .i64 x1, .int .i64 x2, .int .i64 x3]] w fun e w' => e = .returned (.agg #[.int .i64 a.lo, .int .i64 a.hi, .int .i64 a.m, .int .i64 a.r, .int .i64 a.k]) ∧ Below w.heap.size w w')) (CB : Hid (∀ w, Calls Try.prog 10 #[.agg #[.int .i64 y0, .int .i64 y1, .int .i64 y2, .int .i64 y3]] w fun e w' => e = .returned (.agg #[.int .i64 b.lo, .int .i64 b.hi, .int .i64 b.m, .int .i64 b.r, .int .i64 b.k]) ∧ Below w.heap.size w w')) (CC : Hid (∀ w, Calls Try.prog 10 #[.agg #[.int .i64 t0, .int .i64 t1, .int .i64 t2, .int .i64 t3]] w fun e w' => e = .returned (.agg #[.int .i64 c.lo, .int .i64 c.hi, .int .i64 c.m, .int .i64 c.r, .int .i64 c.k]) ∧ Below w.heap.size w w')) (IS : Hid (∀ w, Calls Try.prog 22 #[.agg #[.int .i64 a.lo, .int .i64 a.hi, .int .i64 a.m, .int .i64 a.r, .int .i64 a.k], .agg #[.int .i64 b.lo, .int .i64 b.hi, .int .i64 b.m, .int .i64 b.r, .int .i64 b.k]] w fun e w' => e = .returned (.bool is) ∧ Below w.heap.size w w')) (T0 : Hid (∀ w, Calls Try.prog 34 #[.agg #[.int .i64 a.lo, .int .i64 a.hi, .int .i64 a.m, .int .i64 a.r, .int .i64 a.k], .int .i64 0, .int .i64 255] w fun e w' => e = .returned (.agg #[.int .i64 v0, .int .i64 v0k]) ∧ Below w.heap.size w w')) (T1 : Hid (∀ w, Calls Try.prog 34 #[.agg #[.int .i64 a.lo, .int .i64 a.hi, .int .i64 a.m, .int .i64 a.r, .int .i64 a.k], .int .i64 1, .int .i64 255] w fun e w' => e = .returned (.agg #[.int .i64 v1, .int .i64 v1k]) ∧ Below w.heap.size w w')) (T2 : Hid (∀ w, Calls Try.prog 34 #[.agg #[.int .i64 a.lo, .int .i64 a.hi, .int .i64 a.m, .int .i64 a.r, .int .i64 a.k], .int .i64 (-1), .int .i64 255] w fun e w' => e = .returned (.agg #[.int .i64 v2, .int .i64 v2k]) ∧ Below w.heap.size w w')) (H0 : Hid (∀ w, Calls Try.prog 14 #[.agg #[.int .i64 b.lo, .int .i64 b.hi, .int .i64 b.m, .int .i64 b.r, .int .i64 b.k], .agg #[.int .i64 v0, .int .i64 v0k]] w fun e w' => e = .returned (.bool h0) ∧ Below w.heap.size w w')) (H1 : Hid (∀ w, Calls Try.prog 14 #[.agg #[.int .i64 b.lo, .int .i64 b.hi, .int .i64 b.m, .int .i64 b.r, .int .i64 b.k], .agg #[.int .i64 v1, .int .i64 v1k]] w fun e w' => e = .returned (.bool h1) ∧ Below w.heap.size w w')) (H2 : Hid (∀ w, Calls Try.prog 14 #[.agg #[.int .i64 b.lo, .int .i64 b.hi, .int .i64 b.m, .int .i64 b.r, .int .i64 b.k], .agg #[.int .i64 v2, .int .i64 v2k]] w fun e w' => e = .returned (.bool h2) ∧ Below w.heap.size w w')) (LA : Hid (∀ w, Calls Try.prog 22 #[.agg #[.int .i64 a.lo, .int .i64 a.hi, .int .i64 a.m, .int .i64 a.r, .int .i64 a.k], .agg #[.int .i64 a.lo, .int .i64 a.hi, .int .i64 a.m, .int .i64 a.r, .int .i64 a.k]] w fun e w' => e = .returned (.bool true) ∧ Below w.heap.size w w')) (LB : Hid (∀ w, Calls Try.prog 22 #[.agg #[.int .i64 b.lo, .int .i64 b.hi, .int .i64 b.m, .int .i64 b.r, .int .i64 b.k], .agg #[.int .i64 a.lo, .int .i64 a.hi, .int .i64 a.m, .int .i64 a.r, .int .i64 a.k]] w fun e w' => e = .returned (.bool r) ∧ Below w.heap.size w w')) (J1 : Hid (∀ w, Calls Try.prog 18 #[.agg #[.int .i64 a.lo, .int .i64 a.hi, .int .i64 a.m, .int .i64 a.r, .int .i64 a.k], .agg #[.int .i64 b.lo, .int .i64 b.hi, .int .i64 b.m, .int .i64 b.r, .int .i64 b.k]] w fun e w' => e = .returned (.agg #[.int .i64 j.lo, .int .i64 j.hi, .int .i64 j.m, .int .i64 j.r, .int .i64 j.k]) ∧ Below w.heap.size w w')) (SB : Hid ((bits .andNot .i64 (a.k : Int) (b.k : Int) == 0) = sb)) (hal : Hid (al = (h0 && (h1 && h2)))) (hi : Hid (is = (al && sb))) (hab : Hid (is = true → r = true → a = b)) (PACK : Hid (∀ k, 4 ≤ k → k ≤ 6 → ∃ (p q : Ab), Hid (∀ w, Calls Try.prog 30 #[.int .i64 k, .agg #[.int .i64 a.lo, .int .i64 a.hi, .int .i64 a.m, .int .i64 a.r, .int .i64 a.k], .agg #[.int .i64 c.lo, .int .i64 c.hi, .int .i64 c.m, .int .i64 c.r, .int .i64 c.k]] w fun e w' => e = .returned (.agg #[.int .i64 p.lo, .int .i64 p.hi, .int .i64 p.m, .int .i64 p.r, .int .i64 p.k]) ∧ Below w.heap.size w w') ∧ Hid (∀ w, Calls Try.prog 30 #[.int .i64 k, .agg #[.int .i64 j.lo, .int .i64 j.hi, .int .i64 j.m, .int .i64 j.r, .int .i64 j.k], .agg #[.int .i64 c.lo, .int .i64 c.hi, .int .i64 c.m, .int .i64 c.r, .int .i64 c.k]] w fun e w' => e = .returned (.agg #[.int .i64 q.lo, .int .i64 q.hi, .int .i64 q.m, .int .i64 q.r, .int .i64 q.k]) ∧ Below w.heap.size w w') ∧ Hid (∀ w, Calls Try.prog 22 #[.agg #[.int .i64 p.lo, .int .i64 p.hi, .int .i64 p.m, .int .i64 p.r, .int .i64 p.k], .agg #[.int .i64 q.lo, .int .i64 q.hi, .int .i64 q.m, .int .i64 q.r, .int .i64 q.k]] w fun e w' => e = .returned (.bool true) ∧ Below w.heap.size w w'))) (M1 : Hid (∀ w, Calls Try.prog 30 #[.int .i64 9, .agg #[.int .i64 a.lo, .int .i64 a.hi, .int .i64 a.m, .int .i64 a.r, .int .i64 a.k], .agg #[.int .i64 c.lo, .int .i64 c.hi, .int .i64 c.m, .int .i64 c.r, .int .i64 c.k]] w fun e w' => e = .returned (.agg #[.int .i64 p.lo, .int .i64 p.hi, .int .i64 p.m, .int .i64 p.r, .int .i64 p.k]) ∧ Below w.heap.size w w')) (M2 : Hid (∀ w, Calls Try.prog 30 #[.int .i64 9, .agg #[.int .i64 j.lo, .int .i64 j.hi, .int .i64 j.m, .int .i64 j.r, .int .i64 j.k], .agg #[.int .i64 c.lo, .int .i64 c.hi, .int .i64 c.m, .int .i64 c.r, .int .i64 c.k]] w fun e w' => e = .returned (.agg #[.int .i64 q.lo, .int .i64 q.hi, .int .i64 q.m, .int .i64 q.r, .int .i64 q.k]) ∧ Below w.heap.size w w')) (M3 : Hid (∀ w, Calls Try.prog 22 #[.agg #[.int .i64 p.lo, .int .i64 p.hi, .int .i64 p.m, .int .i64 p.r, .int .i64 p.k], .agg #[.int .i64 q.lo, .int .i64 q.hi, .int .i64 q.m, .int .i64 q.r, .int .i64 q.k]] w fun e w' => e = .returned (.bool true) ∧ Below w.heap.size w w')) (M4 : Hid (∀ w, Calls Try.prog 30 #[.int .i64 10, .agg #[.int .i64 c.lo, .int .i64 c.hi, .int .i64 c.m, .int .i64 c.r, .int .i64 c.k], .agg #[.int .i64 a.lo, .int .i64 a.hi, .int .i64 a.m, .int .i64 a.r, .int .i64 a.k]] w fun e w' => e = .returned (.agg #[.int .i64 s.lo, .int .i64 s.hi, .int .i64 s.m, .int .i64 s.r, .int .i64 s.k]) ∧ Below w.heap.size w w')) (M5 : Hid (∀ w, Calls Try.prog 30 #[.int .i64 10, .agg #[.int .i64 c.lo, .int .i64 c.hi, .int .i64 c.m, .int .i64 c.r, .int .i64 c.k], .agg #[.int .i64 j.lo, .int .i64 j.hi, .int .i64 j.m, .int .i64 j.r, .int .i64 j.k]] w fun e w' => e = .returned (.agg #[.int .i64 t.lo, .int .i64 t.hi, .int .i64 t.m, .int .i64 t.r, .int .i64 t.k]) ∧ Below w.heap.size w w')) (M6 : Hid (∀ w, Calls Try.prog 22 #[.agg #[.int .i64 s.lo, .int .i64 s.hi, .int .i64 s.m, .int .i64 s.r, .int .i64 s.k], .agg #[.int .i64 t.lo, .int .i64 t.hi, .int .i64 t.m, .int .i64 t.r, .int .i64 t.k]] w fun e w' => e = .returned (.bool true) ∧ Below w.heap.size w w')) (w : World) :
    Calls Try.prog 7 #[.agg #[.int .i64 x0, .int .i64 x1, .int .i64 x2, .int .i64 x3], .agg #[.int .i64 y0, .int .i64 y1, .int .i64 y2, .int .i64 y3], .agg #[.int .i64 t0, .int .i64 t1, .int .i64 t2, .int .i64 t3]] w fun e w' => e = .returned (.bool true) ∧ Below w.heap.size w w' := by
  obtain ⟨w0, hw0⟩ : ∃ w0, (((w.alloc (.cells #[.int .i64 x0, .int .i64 x1, .int .i64 x2, .int .i64 x3] 23)).alloc (.cells #[.int .i64 y0, .int .i64 y1, .int .i64 y2, .int .i64 y3] 23)).alloc (.cells #[.int .i64 t0, .int .i64 t1, .int .i64 t2, .int .i64 t3] 23)) = w0 := ⟨_, rfl⟩
  have B0 : Hid (Below w.heap.size w w0) := hidA (by rw [← hw0]; exact ((((Below.refl _ _).alloc (by first | exact Nat.le_refl _ | (simp; done) | (simp; omega) | omega) _).alloc (by first | exact Nat.le_refl _ | (simp; done) | (simp; omega) | omega) _).alloc (by first | exact Nat.le_refl _ | (simp; done) | (simp; omega) | omega) _))
  have hsz : w.heap.size + 1 + 1 < w0.heap.size := by rw [← hw0]; simp
  have PK : Hid (∀ W, Below w0.heap.size w0 W → w.heap.size < W.heap.size ∧ w.heap.size + 1 < W.heap.size ∧ w.heap.size + 1 + 1 < W.heap.size ∧ KnA W (w.heap.size) 23 #[.int .i64 x0, .int .i64 x1, .int .i64 x2, .int .i64 x3] ∧ KnA W (w.heap.size + 1) 23 #[.int .i64 y0, .int .i64 y1, .int .i64 y2, .int .i64 y3] ∧ KnA W (w.heap.size + 1 + 1) 23 #[.int .i64 t0, .int .i64 t1, .int .i64 t2, .int .i64 t3]) := hidA (fun W hW => ⟨(by have h0 := hW.size; have h1 := hsz; omega), (by have h0 := hW.size; have h1 := hsz; omega), (by have h0 := hW.size; have h1 := hsz; omega), (KnA.below (by rw [← hw0]; have h1 := (((KnA.new w 23 #[.int .i64 x0, .int .i64 x1, .int .i64 x2, .int .i64 x3]).alloc (.cells #[.int .i64 y0, .int .i64 y1, .int .i64 y2, .int .i64 y3] 23)).alloc (.cells #[.int .i64 t0, .int .i64 t1, .int .i64 t2, .int .i64 t3] 23)); simpa using h1) hW (by have h1 := hsz; omega)), (KnA.below (by rw [← hw0]; have h1 := ((KnA.new (w.alloc (.cells #[.int .i64 x0, .int .i64 x1, .int .i64 x2, .int .i64 x3] 23)) 23 #[.int .i64 y0, .int .i64 y1, .int .i64 y2, .int .i64 y3]).alloc (.cells #[.int .i64 t0, .int .i64 t1, .int .i64 t2, .int .i64 t3] 23)); simpa using h1) hW (by have h1 := hsz; omega)), (KnA.below (by rw [← hw0]; have h1 := (KnA.new ((w.alloc (.cells #[.int .i64 x0, .int .i64 x1, .int .i64 x2, .int .i64 x3] 23)).alloc (.cells #[.int .i64 y0, .int .i64 y1, .int .i64 y2, .int .i64 y3] 23)) 23 #[.int .i64 t0, .int .i64 t1, .int .i64 t2, .int .i64 t3]); simpa using h1) hW (by have h1 := hsz; omega))⟩)
  have Hw := hidA hw0; clear hw0
  go_enter Try.func7, Try.ntmps7
  go_wp2_with fail
  rw [Hw.out]
  clear Hw
  have HS : Hid (Below w0.heap.size w0 w0) := hidA (Below.refl _ _)
  obtain ⟨z0, z1, z2, kn0, kn1, kn2⟩ := PK.out _ HS.out
  go_wp2_with fail
  refine (EX.out _).mono ?_
  rintro e w1 ⟨rfl, hb⟩
  have hs1 := stepA HS.out hb
  clear hb
  try clear hsD
  have HS' := hidA hs1; clear HS hs1; clear z0 z1 z2 kn0 kn1 kn2; have HS := HS'; clear HS'; obtain ⟨z0, z1, z2, kn0, kn1, kn2⟩ := PK.out _ HS.out
  have PN : Hid (∀ V, Below w1.heap.size w1 V → _) := hidA (fun V hV => PK.out V (stepA HS.out hV))
  have BN : Hid (Below w.heap.size w w1) := hidA (B0.out.trans (HS.out.mono B0.out.size))
  have hszN : w.heap.size + 1 + 1 < w1.heap.size := by first | assumption | omega
  clear B0 PK HS hsz
  clear z0 z1 z2 kn0 kn1 kn2
  have PK := PN
  have B0 := BN
  have hsz := hszN
  clear PN BN hszN
  have HS : Hid (Below w1.heap.size w1 w1) := hidA (Below.refl _ _)
  generalize w1 = w0 at *
  obtain ⟨z0, z1, z2, kn0, kn1, kn2⟩ := PK.out _ HS.out
  go_upto_region 4 with (fail)
  refine wp_region_made (by kernel_rfl) (by kernel_rfl) [8, 9, 18, 19, 20, 21] w0 2 18 8 27 #[.int .i64 0, .int .i64 0, .int .i64 0, .int .i64 0, .int .i64 0] (fun k => if k = 0 then .agg #[.int .i64 x0, .int .i64 x1, .int .i64 x2, .int .i64 x3] else .agg #[.int .i64 y0, .int .i64 y1, .int .i64 y2, .int .i64 y3]) (fun k => if k = 0 then #[.int .i64 a.lo, .int .i64 a.hi, .int .i64 a.m, .int .i64 a.r, .int .i64 a.k] else #[.int .i64 b.lo, .int .i64 b.hi, .int .i64 b.m, .int .i64 b.r, .int .i64 b.k]) HS.out.drew ?_ (by decide) ?_
  · refine And.intro ?_ (And.intro ?_ (And.intro ?_ (And.intro ?_ (And.intro ?_ (And.intro ?_ (And.intro ?_ (And.intro ?_ (trivial))))))))
    · refine @made_load _ _ _ _ _ _ 2 18 8 _ _ _ _ _ 0 0 rfl (by omega) ?_ 23 3 ?_ ?_ ?_ (w.heap.size) ?_ 23 #[.int .i64 x0, .int .i64 x1, .int .i64 x2, .int .i64 x3] ?_ kn0 ?_ ?_ ?_ ?_ (by omega)
      all_goals first | with_reducible rfl | kernel_rfl | decide
    · refine @made_call _ _ _ _ _ _ 2 18 8 _ _ _ _ _ 0 1 rfl (by omega) ?_ ?_ 10 ?_ CA.out ?_ ?_ ?_ ?_ ?_ (by omega)
      all_goals first | with_reducible rfl | kernel_rfl | decide | (simp; done) | (intro ev w; simp [go_sem]; done)
    · refine @made_load _ _ _ _ _ _ 2 18 8 _ _ _ _ _ 1 2 rfl (by omega) ?_ 23 4 ?_ ?_ ?_ (w.heap.size + 1) ?_ 23 #[.int .i64 y0, .int .i64 y1, .int .i64 y2, .int .i64 y3] ?_ kn1 ?_ ?_ ?_ ?_ (by omega)
      all_goals first | with_reducible rfl | kernel_rfl | decide
    · refine @made_call _ _ _ _ _ _ 2 18 8 _ _ _ _ _ 1 3 rfl (by omega) ?_ ?_ 10 ?_ CB.out ?_ ?_ ?_ ?_ ?_ (by omega)
      all_goals first | with_reducible rfl | kernel_rfl | decide | (simp; done) | (intro ev w; simp [go_sem]; done)
    · refine @made_make _ _ _ _ _ _ 2 18 8 _ _ _ _ _ 0 4 rfl (by omega) ?_ ?_ ?_ ?_ ?_ (by omega)
      all_goals first | with_reducible rfl | kernel_rfl | decide | (intro ev w; simp [go_sem]; done)
    · refine @made_make _ _ _ _ _ _ 2 18 8 _ _ _ _ _ 1 5 rfl (by omega) ?_ ?_ ?_ ?_ ?_ (by omega)
      all_goals first | with_reducible rfl | kernel_rfl | decide | (intro ev w; simp [go_sem]; done)
    · refine @made_store _ _ _ _ _ _ 2 18 8 _ _ _ _ _ 0 6 rfl (by omega) ?_ ?_ 27 8 19 ?_ rfl rfl ?_ ?_ ?_ ?_ ?_ ?_ ?_ ?_ ?_
      all_goals first | with_reducible rfl | kernel_rfl | decide | (simp; done) | rfl
    · refine @made_store _ _ _ _ _ _ 2 18 8 _ _ _ _ _ 1 7 rfl (by omega) ?_ ?_ 27 9 21 ?_ rfl rfl ?_ ?_ ?_ ?_ ?_ ?_ ?_ ?_ ?_
      all_goals first | with_reducible rfl | kernel_rfl | decide | (simp; done) | rfl
  · intro V G wc hB hV hN
    obtain ⟨va0, la0, ka0⟩ := hV 0 (by omega)
    obtain ⟨va1, la1, ka1⟩ := hV 1 (by omega)
    clear hV hN
    simp only [putV, Act.put, List.setIfInBounds_toArray, List.set_cons_zero, List.set_cons_succ]
    rw [va0, va1]
    generalize V 18 = u18
    generalize V 19 = u19
    generalize V 20 = u20
    generalize V 21 = u21
    clear va0 va1 V
    generalize G 0 = g at *
    generalize G 1 = h at *
    clear G
    have P0 : Hid (wc.cell? ⟨g, 0, none⟩ = _) := hidA (cell_of_row wc g 0 _ _ _ ka0)
    have P1 : Hid (wc.cell? ⟨g, 1, none⟩ = _) := hidA (cell_of_row wc g 1 _ _ _ ka0)
    have P2 : Hid (wc.cell? ⟨g, 2, none⟩ = _) := hidA (cell_of_row wc g 2 _ _ _ ka0)
    have P3 : Hid (wc.cell? ⟨g, 3, none⟩ = _) := hidA (cell_of_row wc g 3 _ _ _ ka0)
    have P4 : Hid (wc.cell? ⟨g, 4, none⟩ = _) := hidA (cell_of_row wc g 4 _ _ _ ka0)
    have Q0 : Hid (wc.cell? ⟨h, 0, none⟩ = _) := hidA (cell_of_row wc h 0 _ _ _ ka1)
    have Q1 : Hid (wc.cell? ⟨h, 1, none⟩ = _) := hidA (cell_of_row wc h 1 _ _ _ ka1)
    have Q2 : Hid (wc.cell? ⟨h, 2, none⟩ = _) := hidA (cell_of_row wc h 2 _ _ _ ka1)
    have Q3 : Hid (wc.cell? ⟨h, 3, none⟩ = _) := hidA (cell_of_row wc h 3 _ _ _ ka1)
    have Q4 : Hid (wc.cell? ⟨h, 4, none⟩ = _) := hidA (cell_of_row wc h 4 _ _ _ ka1)
    clear z0 z1 z2 kn0 kn1 kn2
    obtain ⟨z0, z1, z2, kn0, kn1, kn2⟩ := PK.out _ hB
    have N2_0 : Hid (wc.cell? ⟨w.heap.size + 1 + 1, 0, none⟩ = _) := hidA (cell_of_row wc (w.heap.size + 1 + 1) 0 _ _ _ kn2)
    have N2_1 : Hid (wc.cell? ⟨w.heap.size + 1 + 1, 1, none⟩ = _) := hidA (cell_of_row wc (w.heap.size + 1 + 1) 1 _ _ _ kn2)
    have N2_2 : Hid (wc.cell? ⟨w.heap.size + 1 + 1, 2, none⟩ = _) := hidA (cell_of_row wc (w.heap.size + 1 + 1) 2 _ _ _ kn2)
    have N2_3 : Hid (wc.cell? ⟨w.heap.size + 1 + 1, 3, none⟩ = _) := hidA (cell_of_row wc (w.heap.size + 1 + 1) 3 _ _ _ kn2)
    clear ka0 la0 ka1 la1
    clear z0 z1 z2 kn0 kn1 kn2
    have BW := hidA (B0.out.trans (hB.mono (by first | omega | (dsimp only; omega) | (simp; done) | (simp; omega))))
    clear hB hsz
    have BN : Hid (Below w.heap.size w wc) := hidA BW.out
    have leW : w.heap.size ≤ wc.heap.size := BN.out.size
    clear B0 PK HS
    have PK : Hid (∀ V, Below wc.heap.size wc V → V.cell? ⟨w.heap.size + 1 + 1, 0, none⟩ = some (.int .i64 t0) ∧ V.cell? ⟨w.heap.size + 1 + 1, 1, none⟩ = some (.int .i64 t1) ∧ V.cell? ⟨w.heap.size + 1 + 1, 2, none⟩ = some (.int .i64 t2) ∧ V.cell? ⟨w.heap.size + 1 + 1, 3, none⟩ = some (.int .i64 t3) ∧ V.cell? ⟨g, 0, none⟩ = some (.int .i64 a.lo) ∧ V.cell? ⟨g, 1, none⟩ = some (.int .i64 a.hi) ∧ V.cell? ⟨g, 2, none⟩ = some (.int .i64 a.m) ∧ V.cell? ⟨g, 3, none⟩ = some (.int .i64 a.r) ∧ V.cell? ⟨g, 4, none⟩ = some (.int .i64 a.k) ∧ V.cell? ⟨h, 0, none⟩ = some (.int .i64 b.lo) ∧ V.cell? ⟨h, 1, none⟩ = some (.int .i64 b.hi) ∧ V.cell? ⟨h, 2, none⟩ = some (.int .i64 b.m) ∧ V.cell? ⟨h, 3, none⟩ = some (.int .i64 b.r) ∧ V.cell? ⟨h, 4, none⟩ = some (.int .i64 b.k) ∧ w.heap.size + 1 + 1 < V.heap.size ∧ g < V.heap.size ∧ h < V.heap.size) := hidA (fun V hW => ⟨cellA hW N2_0.out, cellA hW N2_1.out, cellA hW N2_2.out, cellA hW N2_3.out, cellA hW P0.out, cellA hW P1.out, cellA hW P2.out, cellA hW P3.out, cellA hW P4.out, cellA hW Q0.out, cellA hW Q1.out, cellA hW Q2.out, cellA hW Q3.out, cellA hW Q4.out, Nat.lt_of_lt_of_le (World.block_lt_of_cell? _ _ N2_0.out) hW.size, Nat.lt_of_lt_of_le (World.block_lt_of_cell? _ _ P0.out) hW.size, Nat.lt_of_lt_of_le (World.block_lt_of_cell? _ _ Q0.out) hW.size⟩)
    clear N2_0 N2_1 N2_2 N2_3 P0 P1 P2 P3 P4 Q0 Q1 Q2 Q3 Q4
    have B0 := BN
    clear BN
    have HS : Hid (Below wc.heap.size wc wc) := hidA (Below.refl _ _)
    generalize wc = w0 at *
    obtain ⟨c0, c1, c2, c3, c4, c5, c6, c7, c8, c9, c10, c11, c12, c13, z0, z1, z2⟩ := PK.out _ HS.out
    clear BW
    go_wp2_with ((go_at_call 10; (with_reducible refine (CC.out _).mono ?_); rintro e w1 ⟨rfl, hb⟩; have hs1 := stepA HS.out hb; clear hb; have HS' := hidA hs1; clear HS hs1; clear c0 c1 c2 c3 c4 c5 c6 c7 c8 c9 c10 c11 c12 c13 z0 z1 z2; have HS := HS'; clear HS'; obtain ⟨c0, c1, c2, c3, c4, c5, c6, c7, c8, c9, c10, c11, c12, c13, z0, z1, z2⟩ := PK.out _ HS.out))
    obtain ⟨i, hd⟩ : ∃ d, w1.heap.size = d := ⟨_, rfl⟩
    obtain ⟨w2, hw2⟩ : ∃ w2, w1.alloc (.cells #[.int .i64 c.lo, .int .i64 c.hi, .int .i64 c.m, .int .i64 c.r, .int .i64 c.k] 27) = w2 := ⟨_, rfl⟩
    have U : Hid (Below w1.heap.size w1 w2) := hidA (alloc_is hw2)
    have D := row_is hw2
    rw [hw2]
    try rw [hd]
    rw [hd] at D
    clear hw2 hd
    have hs1 := stepA HS.out U.out
    clear U
    have HS' := hidA hs1; clear HS hs1; clear c0 c1 c2 c3 c4 c5 c6 c7 c8 c9 c10 c11 c12 c13 z0 z1 z2; have HS := HS'; clear HS'; obtain ⟨c0, c1, c2, c3, c4, c5, c6, c7, c8, c9, c10, c11, c12, c13, z0, z1, z2⟩ := PK.out _ HS.out
    have D0 := hidA (D 0 _ rfl)
    have D1 := hidA (D 1 _ rfl)
    have D2 := hidA (D 2 _ rfl)
    have D3 := hidA (D 3 _ rfl)
    have D4 := hidA (D 4 _ rfl)
    clear D
    have P0 := hidA c4
    have P1 := hidA c5
    have P2 := hidA c6
    have P3 := hidA c7
    have P4 := hidA c8
    have Q0 := hidA c9
    have Q1 := hidA c10
    have Q2 := hidA c11
    have Q3 := hidA c12
    have Q4 := hidA c13
    clear c0 c1 c2 c3 c4 c5 c6 c7 c8 c9 c10 c11 c12 c13 z0 z1 z2
    have BW := hidA (B0.out.trans (HS.out.mono B0.out.size))
    have BN : Hid (Below w.heap.size w w2) := hidA BW.out
    have leW : w.heap.size ≤ w2.heap.size := BN.out.size
    clear B0 PK HS
    have PK : Hid (∀ V, Below w2.heap.size w2 V → V.cell? ⟨g, 0, none⟩ = some (.int .i64 a.lo) ∧ V.cell? ⟨g, 1, none⟩ = some (.int .i64 a.hi) ∧ V.cell? ⟨g, 2, none⟩ = some (.int .i64 a.m) ∧ V.cell? ⟨g, 3, none⟩ = some (.int .i64 a.r) ∧ V.cell? ⟨g, 4, none⟩ = some (.int .i64 a.k) ∧ V.cell? ⟨h, 0, none⟩ = some (.int .i64 b.lo) ∧ V.cell? ⟨h, 1, none⟩ = some (.int .i64 b.hi) ∧ V.cell? ⟨h, 2, none⟩ = some (.int .i64 b.m) ∧ V.cell? ⟨h, 3, none⟩ = some (.int .i64 b.r) ∧ V.cell? ⟨h, 4, none⟩ = some (.int .i64 b.k) ∧ V.cell? ⟨i, 0, none⟩ = some (.int .i64 c.lo) ∧ V.cell? ⟨i, 1, none⟩ = some (.int .i64 c.hi) ∧ V.cell? ⟨i, 2, none⟩ = some (.int .i64 c.m) ∧ V.cell? ⟨i, 3, none⟩ = some (.int .i64 c.r) ∧ V.cell? ⟨i, 4, none⟩ = some (.int .i64 c.k) ∧ g < V.heap.size ∧ h < V.heap.size ∧ i < V.heap.size) := hidA (fun V hW => ⟨cellA hW P0.out, cellA hW P1.out, cellA hW P2.out, cellA hW P3.out, cellA hW P4.out, cellA hW Q0.out, cellA hW Q1.out, cellA hW Q2.out, cellA hW Q3.out, cellA hW Q4.out, cellA hW D0.out, cellA hW D1.out, cellA hW D2.out, cellA hW D3.out, cellA hW D4.out, Nat.lt_of_lt_of_le (World.block_lt_of_cell? _ _ P0.out) hW.size, Nat.lt_of_lt_of_le (World.block_lt_of_cell? _ _ Q0.out) hW.size, Nat.lt_of_lt_of_le (World.block_lt_of_cell? _ _ D0.out) hW.size⟩)
    clear P0 P1 P2 P3 P4 Q0 Q1 Q2 Q3 Q4 D0 D1 D2 D3 D4
    have B0 := BN
    clear BN
    have HS : Hid (Below w2.heap.size w2 w2) := hidA (Below.refl _ _)
    generalize w2 = w0 at *
    obtain ⟨c0, c1, c2, c3, c4, c5, c6, c7, c8, c9, c10, c11, c12, c13, c14, z0, z1, z2⟩ := PK.out _ HS.out
    clear BW
    go_wp2_with ((go_at_call 22; (with_reducible refine (IS.out _).mono ?_); rintro e w1 ⟨rfl, hb⟩; have hs1 := stepA HS.out hb; clear hb; have HS' := hidA hs1; clear HS hs1; clear c0 c1 c2 c3 c4 c5 c6 c7 c8 c9 c10 c11 c12 c13 c14 z0 z1 z2; have HS := HS'; clear HS'; obtain ⟨c0, c1, c2, c3, c4, c5, c6, c7, c8, c9, c10, c11, c12, c13, c14, z0, z1, z2⟩ := PK.out _ HS.out))
    have hsz := z2
    have PN : Hid (∀ V, Below w1.heap.size w1 V → _) := hidA (fun V hV => PK.out V (stepA HS.out hV))
    have BN : Hid (Below w.heap.size w w1) := hidA (B0.out.trans (HS.out.mono B0.out.size))
    have hszN : i < w1.heap.size := by first | assumption | omega
    clear B0 PK HS hsz
    clear c0 c1 c2 c3 c4 c5 c6 c7 c8 c9 c10 c11 c12 c13 c14 z0 z1 z2
    have PK := PN
    have B0 := BN
    have hsz := hszN
    clear PN BN hszN
    have HS : Hid (Below w1.heap.size w1 w1) := hidA (Below.refl _ _)
    generalize w1 = w0 at *
    obtain ⟨c0, c1, c2, c3, c4, c5, c6, c7, c8, c9, c10, c11, c12, c13, c14, z0, z1, z2⟩ := PK.out _ HS.out
    go_upto_region 7 with (fail)
    go_cut [12] (fun s W => s = .bool al ∧ Below w0.heap.size w0 W)
    case first =>
      cases h0 <;> cases h1
      case false.false =>
        refine' wp_region_det (by kernel_rfl) [_, _, _, _, _, _, _, _, _, _, _, _, _, _, _, _, _] (fun W => Below w0.heap.size w0 W) (by kernel_rfl) HS.out.drew ?steps1 ?rest1
        case steps1 =>
          simp only [putAll, Act.put, List.setIfInBounds_toArray, List.set_cons_zero, List.set_cons_succ, DetSteps]
          refine And.intro ?_ (And.intro ?_ (And.intro ?_ (And.intro ?_ (And.intro ?_ (And.intro ?_ (And.intro ?_ (And.intro ?_ (And.intro ?_ (And.intro ?_ (And.intro ?_ (And.intro ?_ (And.intro ?_ (And.intro ?_ (And.intro ?_ (And.intro ?_ (And.intro ?_ (trivial)))))))))))))))))
          all_goals first | (refine Or.inl ⟨by rfl, ?_⟩; exact rfl) | (refine Or.inr ⟨by rfl, fun W hW => ?_⟩; obtain ⟨c0, c1, c2, c3, c4, c5, c6, c7, c8, c9, c10, c11, c12, c13, c14, z0, z1, z2⟩ := PK.out _ hW; first | (go_simp; first | exact rfl | exact ⟨rfl, hW⟩) | (go_simp; go_at_call 34; (with_reducible refine (T0.out _).mono ?_); rintro e w1 ⟨rfl, hb1⟩; (refine And.intro ?_ (stepA hW hb1)); exact rfl) | (go_simp; go_at_call 34; (with_reducible refine (T1.out _).mono ?_); rintro e w1 ⟨rfl, hb1⟩; (refine And.intro ?_ (stepA hW hb1)); exact rfl) | (go_simp; go_at_call 34; (with_reducible refine (T2.out _).mono ?_); rintro e w1 ⟨rfl, hb1⟩; (refine And.intro ?_ (stepA hW hb1)); exact rfl) | (go_simp; go_at_call 14; (with_reducible refine (H0.out _).mono ?_); rintro e w1 ⟨rfl, hb1⟩; (refine And.intro ?_ (stepA hW hb1)); exact rfl) | (go_simp; go_at_call 14; (with_reducible refine (H1.out _).mono ?_); rintro e w1 ⟨rfl, hb1⟩; (refine And.intro ?_ (stepA hW hb1)); exact rfl) | (go_simp; go_at_call 14; (with_reducible refine (H2.out _).mono ?_); rintro e w1 ⟨rfl, hb1⟩; (refine And.intro ?_ (stepA hW hb1)); exact rfl))
        case rest1 =>
          intro w1 hs1
          simp only [putAll, Act.put, List.setIfInBounds_toArray, List.set_cons_zero, List.set_cons_succ]
          go_wp2_with fail
          go_meet
          exact ⟨by rw [hal.out]; rfl, hs1⟩
      case false.true =>
        refine' wp_region_det (by kernel_rfl) [_, _, _, _, _, _, _, _, _, _, _, _, _, _, _, _, _] (fun W => Below w0.heap.size w0 W) (by kernel_rfl) HS.out.drew ?steps2 ?rest2
        case steps2 =>
          simp only [putAll, Act.put, List.setIfInBounds_toArray, List.set_cons_zero, List.set_cons_succ, DetSteps]
          refine And.intro ?_ (And.intro ?_ (And.intro ?_ (And.intro ?_ (And.intro ?_ (And.intro ?_ (And.intro ?_ (And.intro ?_ (And.intro ?_ (And.intro ?_ (And.intro ?_ (And.intro ?_ (And.intro ?_ (And.intro ?_ (And.intro ?_ (And.intro ?_ (And.intro ?_ (trivial)))))))))))))))))
          all_goals first | (refine Or.inl ⟨by rfl, ?_⟩; exact rfl) | (refine Or.inr ⟨by rfl, fun W hW => ?_⟩; obtain ⟨c0, c1, c2, c3, c4, c5, c6, c7, c8, c9, c10, c11, c12, c13, c14, z0, z1, z2⟩ := PK.out _ hW; first | (go_simp; first | exact rfl | exact ⟨rfl, hW⟩) | (go_simp; go_at_call 34; (with_reducible refine (T0.out _).mono ?_); rintro e w1 ⟨rfl, hb1⟩; (refine And.intro ?_ (stepA hW hb1)); exact rfl) | (go_simp; go_at_call 34; (with_reducible refine (T1.out _).mono ?_); rintro e w1 ⟨rfl, hb1⟩; (refine And.intro ?_ (stepA hW hb1)); exact rfl) | (go_simp; go_at_call 34; (with_reducible refine (T2.out _).mono ?_); rintro e w1 ⟨rfl, hb1⟩; (refine And.intro ?_ (stepA hW hb1)); exact rfl) | (go_simp; go_at_call 14; (with_reducible refine (H0.out _).mono ?_); rintro e w1 ⟨rfl, hb1⟩; (refine And.intro ?_ (stepA hW hb1)); exact rfl) | (go_simp; go_at_call 14; (with_reducible refine (H1.out _).mono ?_); rintro e w1 ⟨rfl, hb1⟩; (refine And.intro ?_ (stepA hW hb1)); exact rfl) | (go_simp; go_at_call 14; (with_reducible refine (H2.out _).mono ?_); rintro e w1 ⟨rfl, hb1⟩; (refine And.intro ?_ (stepA hW hb1)); exact rfl))
        case rest2 =>
          intro w1 hs1
          simp only [putAll, Act.put, List.setIfInBounds_toArray, List.set_cons_zero, List.set_cons_succ]
          go_wp2_with fail
          go_meet
          exact ⟨by rw [hal.out]; rfl, hs1⟩
      case true.false =>
        refine' wp_region_det (by kernel_rfl) [_, _, _, _, _, _, _, _, _, _, _, _, _, _, _, _, _] (fun W => Below w0.heap.size w0 W) (by kernel_rfl) HS.out.drew ?steps3 ?rest3
        case steps3 =>
          simp only [putAll, Act.put, List.setIfInBounds_toArray, List.set_cons_zero, List.set_cons_succ, DetSteps]
          refine And.intro ?_ (And.intro ?_ (And.intro ?_ (And.intro ?_ (And.intro ?_ (And.intro ?_ (And.intro ?_ (And.intro ?_ (And.intro ?_ (And.intro ?_ (And.intro ?_ (And.intro ?_ (And.intro ?_ (And.intro ?_ (And.intro ?_ (And.intro ?_ (And.intro ?_ (trivial)))))))))))))))))
          all_goals first | (refine Or.inl ⟨by rfl, ?_⟩; exact rfl) | (refine Or.inr ⟨by rfl, fun W hW => ?_⟩; obtain ⟨c0, c1, c2, c3, c4, c5, c6, c7, c8, c9, c10, c11, c12, c13, c14, z0, z1, z2⟩ := PK.out _ hW; first | (go_simp; first | exact rfl | exact ⟨rfl, hW⟩) | (go_simp; go_at_call 34; (with_reducible refine (T0.out _).mono ?_); rintro e w1 ⟨rfl, hb1⟩; (refine And.intro ?_ (stepA hW hb1)); exact rfl) | (go_simp; go_at_call 34; (with_reducible refine (T1.out _).mono ?_); rintro e w1 ⟨rfl, hb1⟩; (refine And.intro ?_ (stepA hW hb1)); exact rfl) | (go_simp; go_at_call 34; (with_reducible refine (T2.out _).mono ?_); rintro e w1 ⟨rfl, hb1⟩; (refine And.intro ?_ (stepA hW hb1)); exact rfl) | (go_simp; go_at_call 14; (with_reducible refine (H0.out _).mono ?_); rintro e w1 ⟨rfl, hb1⟩; (refine And.intro ?_ (stepA hW hb1)); exact rfl) | (go_simp; go_at_call 14; (with_reducible refine (H1.out _).mono ?_); rintro e w1 ⟨rfl, hb1⟩; (refine And.intro ?_ (stepA hW hb1)); exact rfl) | (go_simp; go_at_call 14; (with_reducible refine (H2.out _).mono ?_); rintro e w1 ⟨rfl, hb1⟩; (refine And.intro ?_ (stepA hW hb1)); exact rfl))
        case rest3 =>
          intro w1 hs1
          simp only [putAll, Act.put, List.setIfInBounds_toArray, List.set_cons_zero, List.set_cons_succ]
          go_wp2_with fail
          go_meet
          exact ⟨by rw [hal.out]; rfl, hs1⟩
      case true.true =>
        refine' wp_region_det (by kernel_rfl) [_, _, _, _, _, _, _, _, _, _, _, _, _, _, _, _, _] (fun W => Below w0.heap.size w0 W) (by kernel_rfl) HS.out.drew ?steps4 ?rest4
        case steps4 =>
          simp only [putAll, Act.put, List.setIfInBounds_toArray, List.set_cons_zero, List.set_cons_succ, DetSteps]
          refine And.intro ?_ (And.intro ?_ (And.intro ?_ (And.intro ?_ (And.intro ?_ (And.intro ?_ (And.intro ?_ (And.intro ?_ (And.intro ?_ (And.intro ?_ (And.intro ?_ (And.intro ?_ (And.intro ?_ (And.intro ?_ (And.intro ?_ (And.intro ?_ (And.intro ?_ (trivial)))))))))))))))))
          all_goals first | (refine Or.inl ⟨by rfl, ?_⟩; exact rfl) | (refine Or.inr ⟨by rfl, fun W hW => ?_⟩; obtain ⟨c0, c1, c2, c3, c4, c5, c6, c7, c8, c9, c10, c11, c12, c13, c14, z0, z1, z2⟩ := PK.out _ hW; first | (go_simp; first | exact rfl | exact ⟨rfl, hW⟩) | (go_simp; go_at_call 34; (with_reducible refine (T0.out _).mono ?_); rintro e w1 ⟨rfl, hb1⟩; (refine And.intro ?_ (stepA hW hb1)); exact rfl) | (go_simp; go_at_call 34; (with_reducible refine (T1.out _).mono ?_); rintro e w1 ⟨rfl, hb1⟩; (refine And.intro ?_ (stepA hW hb1)); exact rfl) | (go_simp; go_at_call 34; (with_reducible refine (T2.out _).mono ?_); rintro e w1 ⟨rfl, hb1⟩; (refine And.intro ?_ (stepA hW hb1)); exact rfl) | (go_simp; go_at_call 14; (with_reducible refine (H0.out _).mono ?_); rintro e w1 ⟨rfl, hb1⟩; (refine And.intro ?_ (stepA hW hb1)); exact rfl) | (go_simp; go_at_call 14; (with_reducible refine (H1.out _).mono ?_); rintro e w1 ⟨rfl, hb1⟩; (refine And.intro ?_ (stepA hW hb1)); exact rfl) | (go_simp; go_at_call 14; (with_reducible refine (H2.out _).mono ?_); rintro e w1 ⟨rfl, hb1⟩; (refine And.intro ?_ (stepA hW hb1)); exact rfl))
        case rest4 =>
          intro w1 hs1
          simp only [putAll, Act.put, List.setIfInBounds_toArray, List.set_cons_zero, List.set_cons_succ]
          go_wp2_with fail
          go_meet
          exact ⟨by rw [hal.out]; rfl, hs1⟩
    case rest =>
      obtain ⟨rfl, hs1⟩ := hcut
      try clear hsD
      have HS' := hidA hs1; clear HS hs1; clear c0 c1 c2 c3 c4 c5 c6 c7 c8 c9 c10 c11 c12 c13 c14 z0 z1 z2; have HS := HS'; clear HS'; obtain ⟨c0, c1, c2, c3, c4, c5, c6, c7, c8, c9, c10, c11, c12, c13, c14, z0, z1, z2⟩ := PK.out _ HS.out
      have PN : Hid (∀ V, Below wc.heap.size wc V → _) := hidA (fun V hV => PK.out V (stepA HS.out hV))
      have BN : Hid (Below w.heap.size w wc) := hidA (B0.out.trans (HS.out.mono B0.out.size))
      have hszN : i < wc.heap.size := by first | assumption | omega
      clear B0 PK HS hsz
      clear c0 c1 c2 c3 c4 c5 c6 c7 c8 c9 c10 c11 c12 c13 c14 z0 z1 z2
      have PK := PN
      have B0 := BN
      have hsz := hszN
      clear PN BN hszN
      have HS : Hid (Below wc.heap.size wc wc) := hidA (Below.refl _ _)
      generalize wc = w0 at *
      obtain ⟨c0, c1, c2, c3, c4, c5, c6, c7, c8, c9, c10, c11, c12, c13, c14, z0, z1, z2⟩ := PK.out _ HS.out
      go_upto_region 8 with (fail)
      go_cut [72] (fun s W => s = .bool false ∧ Below w0.heap.size w0 W)
      case first =>
        have hi' := hi.out
        have hab := hab.out
        have em := SB.out
        cases is
        · cases al
          · clear hi' hab
            go_wp2_with (first | (go_at_call 22; (with_reducible refine (LA.out _).mono ?_); rintro e w1 ⟨rfl, hb⟩; have hs1 := stepA HS.out hb; clear hb; have HS' := hidA hs1; clear HS hs1; clear c0 c1 c2 c3 c4 c5 c6 c7 c8 c9 c10 c11 c12 c13 c14 z0 z1 z2; have HS := HS'; clear HS'; obtain ⟨c0, c1, c2, c3, c4, c5, c6, c7, c8, c9, c10, c11, c12, c13, c14, z0, z1, z2⟩ := PK.out _ HS.out) | (go_at_call 22; (with_reducible refine (LB.out _).mono ?_); rintro e w1 ⟨rfl, hb⟩; have hs1 := stepA HS.out hb; clear hb; have HS' := hidA hs1; clear HS hs1; clear c0 c1 c2 c3 c4 c5 c6 c7 c8 c9 c10 c11 c12 c13 c14 z0 z1 z2; have HS := HS'; clear HS'; obtain ⟨c0, c1, c2, c3, c4, c5, c6, c7, c8, c9, c10, c11, c12, c13, c14, z0, z1, z2⟩ := PK.out _ HS.out))
            go_meet
            exact ⟨rfl, HS.out⟩
          · have hsb : sb = false := by cases sb; rfl; exact absurd hi' (by decide)
            subst hsb
            clear hi' hab
            go_wp2_with (first | (go_at_call 22; (with_reducible refine (LA.out _).mono ?_); rintro e w1 ⟨rfl, hb⟩; have hs1 := stepA HS.out hb; clear hb; have HS' := hidA hs1; clear HS hs1; clear c0 c1 c2 c3 c4 c5 c6 c7 c8 c9 c10 c11 c12 c13 c14 z0 z1 z2; have HS := HS'; clear HS'; obtain ⟨c0, c1, c2, c3, c4, c5, c6, c7, c8, c9, c10, c11, c12, c13, c14, z0, z1, z2⟩ := PK.out _ HS.out) | (go_at_call 22; (with_reducible refine (LB.out _).mono ?_); rintro e w1 ⟨rfl, hb⟩; have hs1 := stepA HS.out hb; clear hb; have HS' := hidA hs1; clear HS hs1; clear c0 c1 c2 c3 c4 c5 c6 c7 c8 c9 c10 c11 c12 c13 c14 z0 z1 z2; have HS := HS'; clear HS'; obtain ⟨c0, c1, c2, c3, c4, c5, c6, c7, c8, c9, c10, c11, c12, c13, c14, z0, z1, z2⟩ := PK.out _ HS.out))
            go_meet
            exact ⟨rfl, HS.out⟩
        · have ha : al = true := by cases al; exact absurd hi' (by simp); rfl
          subst ha
          have hsb : sb = true := by cases sb; exact absurd hi' (by decide); rfl
          subst hsb
          cases r
          · clear hi' hab
            go_wp2_with (first | (go_at_call 22; (with_reducible refine (LA.out _).mono ?_); rintro e w1 ⟨rfl, hb⟩; have hs1 := stepA HS.out hb; clear hb; have HS' := hidA hs1; clear HS hs1; clear c0 c1 c2 c3 c4 c5 c6 c7 c8 c9 c10 c11 c12 c13 c14 z0 z1 z2; have HS := HS'; clear HS'; obtain ⟨c0, c1, c2, c3, c4, c5, c6, c7, c8, c9, c10, c11, c12, c13, c14, z0, z1, z2⟩ := PK.out _ HS.out) | (go_at_call 22; (with_reducible refine (LB.out _).mono ?_); rintro e w1 ⟨rfl, hb⟩; have hs1 := stepA HS.out hb; clear hb; have HS' := hidA hs1; clear HS hs1; clear c0 c1 c2 c3 c4 c5 c6 c7 c8 c9 c10 c11 c12 c13 c14 z0 z1 z2; have HS := HS'; clear HS'; obtain ⟨c0, c1, c2, c3, c4, c5, c6, c7, c8, c9, c10, c11, c12, c13, c14, z0, z1, z2⟩ := PK.out _ HS.out))
            go_meet
            exact ⟨rfl, HS.out⟩
          · have e := hab rfl rfl
            subst e
            clear hi' hab
            go_wp2_with (first | (go_at_call 22; (with_reducible refine (LA.out _).mono ?_); rintro e w1 ⟨rfl, hb⟩; have hs1 := stepA HS.out hb; clear hb; have HS' := hidA hs1; clear HS hs1; clear c0 c1 c2 c3 c4 c5 c6 c7 c8 c9 c10 c11 c12 c13 c14 z0 z1 z2; have HS := HS'; clear HS'; obtain ⟨c0, c1, c2, c3, c4, c5, c6, c7, c8, c9, c10, c11, c12, c13, c14, z0, z1, z2⟩ := PK.out _ HS.out) | (go_at_call 22; (with_reducible refine (LB.out _).mono ?_); rintro e w1 ⟨rfl, hb⟩; have hs1 := stepA HS.out hb; clear hb; have HS' := hidA hs1; clear HS hs1; clear c0 c1 c2 c3 c4 c5 c6 c7 c8 c9 c10 c11 c12 c13 c14 z0 z1 z2; have HS := HS'; clear HS'; obtain ⟨c0, c1, c2, c3, c4, c5, c6, c7, c8, c9, c10, c11, c12, c13, c14, z0, z1, z2⟩ := PK.out _ HS.out))
            go_meet
            exact ⟨rfl, HS.out⟩
      case rest =>
        obtain ⟨rfl, hs1⟩ := hcut
        try clear hsD
        have HS' := hidA hs1; clear HS hs1; clear c0 c1 c2 c3 c4 c5 c6 c7 c8 c9 c10 c11 c12 c13 c14 z0 z1 z2; have HS := HS'; clear HS'; obtain ⟨c0, c1, c2, c3, c4, c5, c6, c7, c8, c9, c10, c11, c12, c13, c14, z0, z1, z2⟩ := PK.out _ HS.out
        have PN : Hid (∀ V, Below wc.heap.size wc V → _) := hidA (fun V hV => PK.out V (stepA HS.out hV))
        have BN : Hid (Below w.heap.size w wc) := hidA (B0.out.trans (HS.out.mono B0.out.size))
        have hszN : i < wc.heap.size := by first | assumption | omega
        clear B0 PK HS hsz
        clear c0 c1 c2 c3 c4 c5 c6 c7 c8 c9 c10 c11 c12 c13 c14 z0 z1 z2
        have PK := PN
        have B0 := BN
        have hsz := hszN
        clear PN BN hszN
        have HS : Hid (Below wc.heap.size wc wc) := hidA (Below.refl _ _)
        generalize wc = w0 at *
        obtain ⟨c0, c1, c2, c3, c4, c5, c6, c7, c8, c9, c10, c11, c12, c13, c14, z0, z1, z2⟩ := PK.out _ HS.out
        go_wp2_with ((go_at_call 18; (with_reducible refine (J1.out _).mono ?_); rintro e w1 ⟨rfl, hb⟩; have hs1 := stepA HS.out hb; clear hb; have HS' := hidA hs1; clear HS hs1; clear c0 c1 c2 c3 c4 c5 c6 c7 c8 c9 c10 c11 c12 c13 c14 z0 z1 z2; have HS := HS'; clear HS'; obtain ⟨c0, c1, c2, c3, c4, c5, c6, c7, c8, c9, c10, c11, c12, c13, c14, z0, z1, z2⟩ := PK.out _ HS.out))
        obtain ⟨d, hd⟩ : ∃ d, w1.heap.size = d := ⟨_, rfl⟩
        obtain ⟨w2, hw2⟩ : ∃ w2, w1.alloc (.cells #[.int .i64 j.lo, .int .i64 j.hi, .int .i64 j.m, .int .i64 j.r, .int .i64 j.k] 27) = w2 := ⟨_, rfl⟩
        have U : Hid (Below w1.heap.size w1 w2) := hidA (alloc_is hw2)
        have D := row_is hw2
        rw [hw2]
        try rw [hd]
        rw [hd] at D
        clear hw2 hd
        have hs1 := stepA HS.out U.out
        clear U
        have HS' := hidA hs1; clear HS hs1; clear c0 c1 c2 c3 c4 c5 c6 c7 c8 c9 c10 c11 c12 c13 c14 z0 z1 z2; have HS := HS'; clear HS'; obtain ⟨c0, c1, c2, c3, c4, c5, c6, c7, c8, c9, c10, c11, c12, c13, c14, z0, z1, z2⟩ := PK.out _ HS.out
        have D0 := hidA (D 0 _ rfl)
        have D1 := hidA (D 1 _ rfl)
        have D2 := hidA (D 2 _ rfl)
        have D3 := hidA (D 3 _ rfl)
        have D4 := hidA (D 4 _ rfl)
        clear D
        have P0 := hidA c0
        have P1 := hidA c1
        have P2 := hidA c2
        have P3 := hidA c3
        have P4 := hidA c4
        have Q0 := hidA c5
        have Q1 := hidA c6
        have Q2 := hidA c7
        have Q3 := hidA c8
        have Q4 := hidA c9
        have R0 := hidA c10
        have R1 := hidA c11
        have R2 := hidA c12
        have R3 := hidA c13
        have R4 := hidA c14
        clear c0 c1 c2 c3 c4 c5 c6 c7 c8 c9 c10 c11 c12 c13 c14 z0 z1 z2
        have BW := hidA (B0.out.trans (HS.out.mono B0.out.size))
        have BN : Hid (Below w.heap.size w w2) := hidA BW.out
        have leW : w.heap.size ≤ w2.heap.size := BN.out.size
        clear B0 PK HS
        have PK : Hid (∀ V, Below w2.heap.size w2 V → V.cell? ⟨g, 0, none⟩ = some (.int .i64 a.lo) ∧ V.cell? ⟨g, 1, none⟩ = some (.int .i64 a.hi) ∧ V.cell? ⟨g, 2, none⟩ = some (.int .i64 a.m) ∧ V.cell? ⟨g, 3, none⟩ = some (.int .i64 a.r) ∧ V.cell? ⟨g, 4, none⟩ = some (.int .i64 a.k) ∧ V.cell? ⟨h, 0, none⟩ = some (.int .i64 b.lo) ∧ V.cell? ⟨h, 1, none⟩ = some (.int .i64 b.hi) ∧ V.cell? ⟨h, 2, none⟩ = some (.int .i64 b.m) ∧ V.cell? ⟨h, 3, none⟩ = some (.int .i64 b.r) ∧ V.cell? ⟨h, 4, none⟩ = some (.int .i64 b.k) ∧ V.cell? ⟨i, 0, none⟩ = some (.int .i64 c.lo) ∧ V.cell? ⟨i, 1, none⟩ = some (.int .i64 c.hi) ∧ V.cell? ⟨i, 2, none⟩ = some (.int .i64 c.m) ∧ V.cell? ⟨i, 3, none⟩ = some (.int .i64 c.r) ∧ V.cell? ⟨i, 4, none⟩ = some (.int .i64 c.k) ∧ V.cell? ⟨d, 0, none⟩ = some (.int .i64 j.lo) ∧ V.cell? ⟨d, 1, none⟩ = some (.int .i64 j.hi) ∧ V.cell? ⟨d, 2, none⟩ = some (.int .i64 j.m) ∧ V.cell? ⟨d, 3, none⟩ = some (.int .i64 j.r) ∧ V.cell? ⟨d, 4, none⟩ = some (.int .i64 j.k) ∧ g < V.heap.size ∧ h < V.heap.size ∧ i < V.heap.size ∧ d < V.heap.size) := hidA (fun V hW => ⟨cellA hW P0.out, cellA hW P1.out, cellA hW P2.out, cellA hW P3.out, cellA hW P4.out, cellA hW Q0.out, cellA hW Q1.out, cellA hW Q2.out, cellA hW Q3.out, cellA hW Q4.out, cellA hW R0.out, cellA hW R1.out, cellA hW R2.out, cellA hW R3.out, cellA hW R4.out, cellA hW D0.out, cellA hW D1.out, cellA hW D2.out, cellA hW D3.out, cellA hW D4.out, Nat.lt_of_lt_of_le (World.block_lt_of_cell? _ _ P0.out) hW.size, Nat.lt_of_lt_of_le (World.block_lt_of_cell? _ _ Q0.out) hW.size, Nat.lt_of_lt_of_le (World.block_lt_of_cell? _ _ R0.out) hW.size, Nat.lt_of_lt_of_le (World.block_lt_of_cell? _ _ D0.out) hW.size⟩)
        clear P0 P1 P2 P3 P4 Q0 Q1 Q2 Q3 Q4 R0 R1 R2 R3 R4 D0 D1 D2 D3 D4
        have B0 := BN
        clear BN
        have HS : Hid (Below w2.heap.size w2 w2) := hidA (Below.refl _ _)
        generalize w2 = w0 at *
        obtain ⟨c0, c1, c2, c3, c4, c5, c6, c7, c8, c9, c10, c11, c12, c13, c14, c15, c16, c17, c18, c19, z0, z1, z2, z3⟩ := PK.out _ HS.out
        clear BW
        have leB := B0.out.size
        go_loopw [14] (fun s W => ∃ k : Int, 4 ≤ k ∧ k ≤ 7 ∧ s = .int .i64 k ∧ Below w0.heap.size w0 W) (fun s _ => (7 - intOf s).toNat)
        case atStart => exact ⟨4, by omega, by omega, rfl, HS.out⟩
        case round =>
          obtain ⟨k, k1, k2, rfl, hB⟩ := hrel
          have HR := hidA hB
          clear hB HS
          clear c0 c1 c2 c3 c4 c5 c6 c7 c8 c9 c10 c11 c12 c13 c14 c15 c16 c17 c18 c19 z0 z1 z2 z3
          have HS := HR
          clear HR
          obtain ⟨c0, c1, c2, c3, c4, c5, c6, c7, c8, c9, c10, c11, c12, c13, c14, c15, c16, c17, c18, c19, z0, z1, z2, z3⟩ := PK.out _ HS.out
          by_cases hk : k ≤ 6
          · obtain ⟨p', q', O1, O2, O3⟩ := PACK.out k k1 hk
            go_upto_region 14 with (fail)
            refine' wp_region_det (by kernel_rfl) [_, _, _, _, _, _, _, _, _, _] (fun W => Below w0.heap.size w0 W) (by kernel_rfl) HS.out.drew ?steps5 ?rest5
            case steps5 =>
              simp only [putAll, Act.put, List.setIfInBounds_toArray, List.set_cons_zero, List.set_cons_succ, DetSteps]
              refine And.intro ?_ (And.intro ?_ (And.intro ?_ (And.intro ?_ (And.intro ?_ (And.intro ?_ (And.intro ?_ (And.intro ?_ (And.intro ?_ (And.intro ?_ (trivial))))))))))
              all_goals first | (refine Or.inl ⟨by rfl, ?_⟩; exact rfl) | (refine Or.inr ⟨by rfl, fun W hW => ?_⟩; obtain ⟨c0, c1, c2, c3, c4, c5, c6, c7, c8, c9, c10, c11, c12, c13, c14, c15, c16, c17, c18, c19, z0, z1, z2, z3⟩ := PK.out _ hW; first | (go_simp; first | exact rfl | exact ⟨rfl, hW⟩) | (go_simp; go_at_call 30; (with_reducible refine (O1.out _).mono ?_); rintro e w1 ⟨rfl, hb1⟩; (refine And.intro ?_ (stepA hW hb1)); exact rfl) | (go_simp; go_at_call 30; (with_reducible refine (O2.out _).mono ?_); rintro e w1 ⟨rfl, hb1⟩; (refine And.intro ?_ (stepA hW hb1)); exact rfl) | (go_simp; go_at_call 22; (with_reducible refine (O3.out _).mono ?_); rintro e w1 ⟨rfl, hb1⟩; (refine And.intro ?_ (stepA hW hb1)); exact rfl))
            case rest5 =>
              intro w1 hs1
              simp only [putAll, Act.put, List.setIfInBounds_toArray, List.set_cons_zero, List.set_cons_succ]
              go_wp2
              go_roundw
              case rel => exact ⟨k + 1, by omega, by omega, rfl, hs1⟩
              case measure => simp [intOf]; omega
          · have hk11 : k = 7 := by omega
            subst hk11
            go_upto_region 16 with (fail)
            refine' wp_region_det (by kernel_rfl) [_, _, _, _, _, _, _, _, _, _, _, _, _, _, _, _, _, _, _, _] (fun W => Below w0.heap.size w0 W) (by kernel_rfl) HS.out.drew ?steps6 ?rest6
            case steps6 =>
              simp only [putAll, Act.put, List.setIfInBounds_toArray, List.set_cons_zero, List.set_cons_succ, DetSteps]
              refine And.intro ?_ (And.intro ?_ (And.intro ?_ (And.intro ?_ (And.intro ?_ (And.intro ?_ (And.intro ?_ (And.intro ?_ (And.intro ?_ (And.intro ?_ (And.intro ?_ (And.intro ?_ (And.intro ?_ (And.intro ?_ (And.intro ?_ (And.intro ?_ (And.intro ?_ (And.intro ?_ (And.intro ?_ (And.intro ?_ (trivial))))))))))))))))))))
              all_goals first | (refine Or.inl ⟨by rfl, ?_⟩; exact rfl) | (refine Or.inr ⟨by rfl, fun W hW => ?_⟩; obtain ⟨c0, c1, c2, c3, c4, c5, c6, c7, c8, c9, c10, c11, c12, c13, c14, c15, c16, c17, c18, c19, z0, z1, z2, z3⟩ := PK.out _ hW; first | (go_simp; first | exact rfl | exact ⟨rfl, hW⟩) | (go_simp; go_at_call 30; (with_reducible refine (M1.out _).mono ?_); rintro e w1 ⟨rfl, hb1⟩; (refine And.intro ?_ (stepA hW hb1)); exact rfl) | (go_simp; go_at_call 30; (with_reducible refine (M2.out _).mono ?_); rintro e w1 ⟨rfl, hb1⟩; (refine And.intro ?_ (stepA hW hb1)); exact rfl) | (go_simp; go_at_call 30; (with_reducible refine (M4.out _).mono ?_); rintro e w1 ⟨rfl, hb1⟩; (refine And.intro ?_ (stepA hW hb1)); exact rfl) | (go_simp; go_at_call 30; (with_reducible refine (M5.out _).mono ?_); rintro e w1 ⟨rfl, hb1⟩; (refine And.intro ?_ (stepA hW hb1)); exact rfl) | (go_simp; go_at_call 22; (with_reducible refine (M3.out _).mono ?_); rintro e w1 ⟨rfl, hb1⟩; (refine And.intro ?_ (stepA hW hb1)); exact rfl) | (go_simp; go_at_call 22; (with_reducible refine (M6.out _).mono ?_); rintro e w1 ⟨rfl, hb1⟩; (refine And.intro ?_ (stepA hW hb1)); exact rfl))
            case rest6 =>
              intro w1 hs1
              simp only [putAll, Act.put, List.setIfInBounds_toArray, List.set_cons_zero, List.set_cons_succ]
              go_wp2
              go_ret
              exact ⟨rfl, (by repeat (first | with_reducible exact Below.refl _ _ | with_reducible exact hs1 | with_reducible exact B0.out | with_reducible refine Below.setCell ?_ (by first | omega | (dsimp only; omega) | (simp; done) | (simp; omega)) _ | with_reducible refine Below.alloc ?_ (by first | omega | (dsimp only; omega) | (simp; done) | (simp; omega)) _ | with_reducible refine Below.drew ?_ | with_reducible refine drewnA ?_ _ | with_reducible refine Below.trans ?_ (hs1.mono (by first | omega | (dsimp only; omega) | (simp; done) | (simp; omega))) | with_reducible refine Below.trans ?_ (B0.out.mono (by first | omega | (dsimp only; omega) | (simp; done) | (simp; omega)))))⟩
end Go.Proofs.Ytnholabamjodhaa

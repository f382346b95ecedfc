import Derived.Test.YtdopjadlbhacfaaAz
import Derived.Test.YtdopjadlbhacfaaAri
import Derived.Test.YtdopjadlbhacfaaArj
import Derived.Test.YtdopjadlbhacfaaOp
import Derived.Deep.Cut
import Derived.Deep.DeepCutAuto
namespace Go.Proofs.Ytdopjadlbhacfaa
open Go.RowKit Go.Instr Sp
set_option linter.unusedVariables false
set_option linter.unusedSimpArgs false

/-! SpanMatchesReference: the law's walk. -/
set_option maxRecDepth 100000 in
set_option maxHeartbeats 8000000 in
theorem matches_walk (x0 x1 x2 x3 y0 y1 y2 y3 n0 n1 n2 n3 n4 n5 : Int) (a b o j m u c l z : Ab) (c1 c2 c6 is : Bool) (v v2 v3 lo hi : Int) (vk rk : Nat) (EX : Hid (∀ w, Calls Try.prog 9 #[] w fun e w' => e = .returned (.bool true) ∧ Below w.heap.size w w')) (CA : Hid (∀ w, Calls Try.prog 10 #[.agg #[.int .i64 x0, .int .i64 x1, .int .i64 x2, .int .i64 x3]] w fun e w' => e = .returned (.agg #[.int .i64 a.lo, .int .i64 a.hi, .int .i64 a.m, .int .i64 a.r, .int .i64 a.k]) ∧ Below w.heap.size w w')) (CB : Hid (∀ w, Calls Try.prog 10 #[.agg #[.int .i64 y0, .int .i64 y1, .int .i64 y2, .int .i64 y3]] w fun e w' => e = .returned (.agg #[.int .i64 b.lo, .int .i64 b.hi, .int .i64 b.m, .int .i64 b.r, .int .i64 b.k]) ∧ Below w.heap.size w w')) (W0 : Hid (∀ w, Calls Try.prog 11 #[.int .i64 n0] w fun e w' => e = .returned (.int .i64 v) ∧ w = w')) (EM1 : Hid (bits .and .i64 n1 255 = (vk : Int))) (W2 : Hid (∀ w, Calls Try.prog 11 #[.int .i64 n2] w fun e w' => e = .returned (.int .i64 v2) ∧ w = w')) (W3 : Hid (∀ w, Calls Try.prog 11 #[.int .i64 n3] w fun e w' => e = .returned (.int .i64 v3) ∧ w = w')) (C1 : Hid (∀ w, Calls Try.prog 12 #[.agg #[.int .i64 n0, .int .i64 n1, .int .i64 n2, .int .i64 n3, .int .i64 n4]] w fun e w' => e = .returned (.bool c1) ∧ Below w.heap.size w w')) (D1 : Hid (∀ w, Calls Try.prog 13 #[.agg #[.int .i64 n0, .int .i64 n1, .int .i64 n2, .int .i64 n3, .int .i64 n4]] w fun e w' => e = .returned (.bool c1) ∧ Below w.heap.size w w')) (C2 : Hid (∀ w, Calls Try.prog 14 #[.agg #[.int .i64 a.lo, .int .i64 a.hi, .int .i64 a.m, .int .i64 a.r, .int .i64 a.k], .agg #[.int .i64 v, .int .i64 vk]] w fun e w' => e = .returned (.bool c2) ∧ Below w.heap.size w w')) (D2 : Hid (∀ w, Calls Try.prog 15 #[.agg #[.int .i64 a.lo, .int .i64 a.hi, .int .i64 a.m, .int .i64 a.r, .int .i64 a.k], .agg #[.int .i64 v, .int .i64 vk]] w fun e w' => e = .returned (.bool c2) ∧ Below w.heap.size w w')) (C3 : Hid (∀ w, Calls Try.prog 16 #[.agg #[.int .i64 v, .int .i64 vk]] w fun e w' => e = .returned (.agg #[.int .i64 o.lo, .int .i64 o.hi, .int .i64 o.m, .int .i64 o.r, .int .i64 o.k]) ∧ Below w.heap.size w w')) (D3 : Hid (∀ w, Calls Try.prog 17 #[.agg #[.int .i64 v, .int .i64 vk]] w fun e w' => e = .returned (.agg #[.int .i64 o.lo, .int .i64 o.hi, .int .i64 o.m, .int .i64 o.r, .int .i64 o.k]) ∧ Below w.heap.size w w')) (C4 : Hid (∀ w, Calls Try.prog 18 #[.agg #[.int .i64 a.lo, .int .i64 a.hi, .int .i64 a.m, .int .i64 a.r, .int .i64 a.k], .agg #[.int .i64 b.lo, .int .i64 b.hi, .int .i64 b.m, .int .i64 b.r, .int .i64 b.k]] w fun e w' => e = .returned (.agg #[.int .i64 j.lo, .int .i64 j.hi, .int .i64 j.m, .int .i64 j.r, .int .i64 j.k]) ∧ Below w.heap.size w w')) (D4 : Hid (∀ w, Calls Try.prog 19 #[.agg #[.int .i64 a.lo, .int .i64 a.hi, .int .i64 a.m, .int .i64 a.r, .int .i64 a.k], .agg #[.int .i64 b.lo, .int .i64 b.hi, .int .i64 b.m, .int .i64 b.r, .int .i64 b.k]] w fun e w' => e = .returned (.agg #[.int .i64 j.lo, .int .i64 j.hi, .int .i64 j.m, .int .i64 j.r, .int .i64 j.k]) ∧ Below w.heap.size w w')) (C5 : Hid (∀ w, Calls Try.prog 20 #[.agg #[.int .i64 a.lo, .int .i64 a.hi, .int .i64 a.m, .int .i64 a.r, .int .i64 a.k], .agg #[.int .i64 b.lo, .int .i64 b.hi, .int .i64 b.m, .int .i64 b.r, .int .i64 b.k]] w fun e w' => e = .returned (.agg #[.int .i64 m.lo, .int .i64 m.hi, .int .i64 m.m, .int .i64 m.r, .int .i64 m.k, .bool is]) ∧ Below w.heap.size w w')) (D5 : Hid (∀ w, Calls Try.prog 21 #[.agg #[.int .i64 a.lo, .int .i64 a.hi, .int .i64 a.m, .int .i64 a.r, .int .i64 a.k], .agg #[.int .i64 b.lo, .int .i64 b.hi, .int .i64 b.m, .int .i64 b.r, .int .i64 b.k]] w fun e w' => e = .returned (.agg #[.int .i64 m.lo, .int .i64 m.hi, .int .i64 m.m, .int .i64 m.r, .int .i64 m.k, .bool is]) ∧ Below w.heap.size w w')) (C6 : Hid (∀ w, Calls Try.prog 22 #[.agg #[.int .i64 a.lo, .int .i64 a.hi, .int .i64 a.m, .int .i64 a.r, .int .i64 a.k], .agg #[.int .i64 b.lo, .int .i64 b.hi, .int .i64 b.m, .int .i64 b.r, .int .i64 b.k]] w fun e w' => e = .returned (.bool c6) ∧ Below w.heap.size w w')) (D6 : Hid (∀ w, Calls Try.prog 23 #[.agg #[.int .i64 a.lo, .int .i64 a.hi, .int .i64 a.m, .int .i64 a.r, .int .i64 a.k], .agg #[.int .i64 b.lo, .int .i64 b.hi, .int .i64 b.m, .int .i64 b.r, .int .i64 b.k]] w fun e w' => e = .returned (.bool c6) ∧ Below w.heap.size w w')) (C7 : Hid (∀ w, Calls Try.prog 24 #[.agg #[.int .i64 a.lo, .int .i64 a.hi, .int .i64 a.m, .int .i64 a.r, .int .i64 a.k], .agg #[.int .i64 b.lo, .int .i64 b.hi, .int .i64 b.m, .int .i64 b.r, .int .i64 b.k]] w fun e w' => e = .returned (.agg #[.int .i64 u.lo, .int .i64 u.hi, .int .i64 u.m, .int .i64 u.r, .int .i64 u.k]) ∧ Below w.heap.size w w')) (D7 : Hid (∀ w, Calls Try.prog 25 #[.agg #[.int .i64 a.lo, .int .i64 a.hi, .int .i64 a.m, .int .i64 a.r, .int .i64 a.k], .agg #[.int .i64 b.lo, .int .i64 b.hi, .int .i64 b.m, .int .i64 b.r, .int .i64 b.k]] w fun e w' => e = .returned (.agg #[.int .i64 u.lo, .int .i64 u.hi, .int .i64 u.m, .int .i64 u.r, .int .i64 u.k]) ∧ Below w.heap.size w w')) (LO : Hid ((if v3 < v2 then v3 else v2) = lo)) (HI : Hid ((if v2 < v3 then v3 else v2) = hi)) (EM4 : Hid (bits .and .i64 n4 255 = (rk : Int))) (C8 : Hid (∀ w, Calls Try.prog 26 #[.agg #[.int .i64 lo, .int .i64 hi, .int .i64 rk]] w fun e w' => e = .returned (.agg #[.int .i64 c.lo, .int .i64 c.hi, .int .i64 c.m, .int .i64 c.r, .int .i64 c.k]) ∧ Below w.heap.size w w')) (D8 : Hid (∀ w, Calls Try.prog 27 #[.agg #[.int .i64 lo, .int .i64 hi, .int .i64 rk]] w fun e w' => e = .returned (.agg #[.int .i64 c.lo, .int .i64 c.hi, .int .i64 c.m, .int .i64 c.r, .int .i64 c.k]) ∧ Below w.heap.size w w')) (C9 : Hid (∀ w, Calls Try.prog 28 #[.int .i64 rk] w fun e w' => e = .returned (.agg #[.int .i64 l.lo, .int .i64 l.hi, .int .i64 l.m, .int .i64 l.r, .int .i64 l.k]) ∧ Below w.heap.size w w')) (D9 : Hid (∀ w, Calls Try.prog 29 #[.int .i64 rk] w fun e w' => e = .returned (.agg #[.int .i64 l.lo, .int .i64 l.hi, .int .i64 l.m, .int .i64 l.r, .int .i64 l.k]) ∧ Below w.heap.size w w')) (C10 : Hid (∀ w, Calls Try.prog 30 #[.int .i64 n5, .agg #[.int .i64 a.lo, .int .i64 a.hi, .int .i64 a.m, .int .i64 a.r, .int .i64 a.k], .agg #[.int .i64 b.lo, .int .i64 b.hi, .int .i64 b.m, .int .i64 b.r, .int .i64 b.k]] w fun e w' => e = .returned (.agg #[.int .i64 z.lo, .int .i64 z.hi, .int .i64 z.m, .int .i64 z.r, .int .i64 z.k]) ∧ Below w.heap.size w w')) (D10 : Hid (∀ w, Calls Try.prog 31 #[.int .i64 n5, .agg #[.int .i64 a.lo, .int .i64 a.hi, .int .i64 a.m, .int .i64 a.r, .int .i64 a.k], .agg #[.int .i64 b.lo, .int .i64 b.hi, .int .i64 b.m, .int .i64 b.r, .int .i64 b.k]] w fun e w' => e = .returned (.agg #[.int .i64 z.lo, .int .i64 z.hi, .int .i64 z.m, .int .i64 z.r, .int .i64 z.k]) ∧ Below w.heap.size w w')) (PACK : Hid (∀ k, -1 ≤ k → k < 13 → ∃ (p q r s t : Ab) (i1 i2 : Bool), Hid (∀ w, Calls Try.prog 30 #[.int .i64 k, .agg #[.int .i64 a.lo, .int .i64 a.hi, .int .i64 a.m, .int .i64 a.r, .int .i64 a.k], .agg #[.int .i64 b.lo, .int .i64 b.hi, .int .i64 b.m, .int .i64 b.r, .int .i64 b.k]] w fun e w' => e = .returned (.agg #[.int .i64 p.lo, .int .i64 p.hi, .int .i64 p.m, .int .i64 p.r, .int .i64 p.k]) ∧ Below w.heap.size w w') ∧ Hid (∀ w, Calls Try.prog 31 #[.int .i64 k, .agg #[.int .i64 a.lo, .int .i64 a.hi, .int .i64 a.m, .int .i64 a.r, .int .i64 a.k], .agg #[.int .i64 b.lo, .int .i64 b.hi, .int .i64 b.m, .int .i64 b.r, .int .i64 b.k]] w fun e w' => e = .returned (.agg #[.int .i64 p.lo, .int .i64 p.hi, .int .i64 p.m, .int .i64 p.r, .int .i64 p.k]) ∧ Below w.heap.size w w') ∧ Hid (∀ w, Calls Try.prog 32 #[.int .i64 k, .bool true, .agg #[.int .i64 a.lo, .int .i64 a.hi, .int .i64 a.m, .int .i64 a.r, .int .i64 a.k, .int .i64 b.lo, .int .i64 b.hi, .int .i64 b.m, .int .i64 b.r, .int .i64 b.k]] w fun e w' => e = .returned (.agg #[.int .i64 q.lo, .int .i64 q.hi, .int .i64 q.m, .int .i64 q.r, .int .i64 q.k, .int .i64 r.lo, .int .i64 r.hi, .int .i64 r.m, .int .i64 r.r, .int .i64 r.k, .bool i1]) ∧ Below w.heap.size w w') ∧ Hid (∀ w, Calls Try.prog 33 #[.int .i64 k, .bool true, .agg #[.int .i64 a.lo, .int .i64 a.hi, .int .i64 a.m, .int .i64 a.r, .int .i64 a.k], .agg #[.int .i64 b.lo, .int .i64 b.hi, .int .i64 b.m, .int .i64 b.r, .int .i64 b.k]] w fun e w' => e = .returned (.agg #[.int .i64 q.lo, .int .i64 q.hi, .int .i64 q.m, .int .i64 q.r, .int .i64 q.k, .int .i64 r.lo, .int .i64 r.hi, .int .i64 r.m, .int .i64 r.r, .int .i64 r.k, .bool i1]) ∧ Below w.heap.size w w') ∧ Hid (∀ w, Calls Try.prog 32 #[.int .i64 k, .bool false, .agg #[.int .i64 a.lo, .int .i64 a.hi, .int .i64 a.m, .int .i64 a.r, .int .i64 a.k, .int .i64 b.lo, .int .i64 b.hi, .int .i64 b.m, .int .i64 b.r, .int .i64 b.k]] w fun e w' => e = .returned (.agg #[.int .i64 s.lo, .int .i64 s.hi, .int .i64 s.m, .int .i64 s.r, .int .i64 s.k, .int .i64 t.lo, .int .i64 t.hi, .int .i64 t.m, .int .i64 t.r, .int .i64 t.k, .bool i2]) ∧ Below w.heap.size w w') ∧ Hid (∀ w, Calls Try.prog 33 #[.int .i64 k, .bool false, .agg #[.int .i64 a.lo, .int .i64 a.hi, .int .i64 a.m, .int .i64 a.r, .int .i64 a.k], .agg #[.int .i64 b.lo, .int .i64 b.hi, .int .i64 b.m, .int .i64 b.r, .int .i64 b.k]] w fun e w' => e = .returned (.agg #[.int .i64 s.lo, .int .i64 s.hi, .int .i64 s.m, .int .i64 s.r, .int .i64 s.k, .int .i64 t.lo, .int .i64 t.hi, .int .i64 t.m, .int .i64 t.r, .int .i64 t.k, .bool i2]) ∧ Below w.heap.size w w'))) (w : World) :
    Calls Try.prog 3 #[.agg #[.int .i64 x0, .int .i64 x1, .int .i64 x2, .int .i64 x3], .agg #[.int .i64 y0, .int .i64 y1, .int .i64 y2, .int .i64 y3], .agg #[.int .i64 n0, .int .i64 n1, .int .i64 n2, .int .i64 n3, .int .i64 n4, .int .i64 n5]] w fun e w' => e = .returned (.bool true) ∧ Below w.heap.size w w' := by
  obtain ⟨w0, hw0⟩ : ∃ w0, (((w.alloc (.cells #[.int .i64 x0, .int .i64 x1, .int .i64 x2, .int .i64 x3] 23)).alloc (.cells #[.int .i64 y0, .int .i64 y1, .int .i64 y2, .int .i64 y3] 23)).alloc (.cells #[.int .i64 n0, .int .i64 n1, .int .i64 n2, .int .i64 n3, .int .i64 n4, .int .i64 n5] 24)) = w0 := ⟨_, rfl⟩
  have B0 : Hid (Below w.heap.size w w0) := hidA (by rw [← hw0]; exact (alA (alA (alA (Below.refl _ _) _) _) _))
  have hsz : w.heap.size + 1 + 1 < w0.heap.size := by rw [← hw0]; simp
  have PK : Hid (∀ W, Below w0.heap.size w0 W → w.heap.size < W.heap.size ∧ w.heap.size + 1 < W.heap.size ∧ w.heap.size + 1 + 1 < W.heap.size ∧ KnA W (w.heap.size) 23 #[.int .i64 x0, .int .i64 x1, .int .i64 x2, .int .i64 x3] ∧ KnA W (w.heap.size + 1) 23 #[.int .i64 y0, .int .i64 y1, .int .i64 y2, .int .i64 y3] ∧ KnA W (w.heap.size + 1 + 1) 24 #[.int .i64 n0, .int .i64 n1, .int .i64 n2, .int .i64 n3, .int .i64 n4, .int .i64 n5]) := hidA (fun W hW => by and_intros <;> first | exact (by have h0 := hW.size; have h1 := hsz; omega) | exact (KnA.below (by rw [← hw0]; have h1 := (((KnA.new w 23 #[.int .i64 x0, .int .i64 x1, .int .i64 x2, .int .i64 x3]).alloc (.cells #[.int .i64 y0, .int .i64 y1, .int .i64 y2, .int .i64 y3] 23)).alloc (.cells #[.int .i64 n0, .int .i64 n1, .int .i64 n2, .int .i64 n3, .int .i64 n4, .int .i64 n5] 24)); simpa using h1) hW (by have h1 := hsz; omega)) | exact (KnA.below (by rw [← hw0]; have h1 := ((KnA.new (w.alloc (.cells #[.int .i64 x0, .int .i64 x1, .int .i64 x2, .int .i64 x3] 23)) 23 #[.int .i64 y0, .int .i64 y1, .int .i64 y2, .int .i64 y3]).alloc (.cells #[.int .i64 n0, .int .i64 n1, .int .i64 n2, .int .i64 n3, .int .i64 n4, .int .i64 n5] 24)); simpa using h1) hW (by have h1 := hsz; omega)) | exact (KnA.below (by rw [← hw0]; have h1 := (KnA.new ((w.alloc (.cells #[.int .i64 x0, .int .i64 x1, .int .i64 x2, .int .i64 x3] 23)).alloc (.cells #[.int .i64 y0, .int .i64 y1, .int .i64 y2, .int .i64 y3] 23)) 24 #[.int .i64 n0, .int .i64 n1, .int .i64 n2, .int .i64 n3, .int .i64 n4, .int .i64 n5]); simpa using h1) hW (by have h1 := hsz; omega)))
  have Hw := hidA hw0; clear hw0
  go_enter Try.func3, Try.ntmps3
  go_wp2_with fail
  rw [Hw.out]
  clear Hw
  have HS : Hid (Below w0.heap.size w0 w0) := hidA (Below.refl _ _)
  obtain ⟨z0, z1, z2, kn0, kn1, kn2⟩ := PK.out _ HS.out
  go_wp2_with fail
  refine (EX.out _).mono ?_
  rintro e w1 ⟨rfl, hb⟩
  have hs1 := stepA HS.out hb
  clear hb
  try clear hsD
  clear HS; have HS := hidA hs1; clear hs1 z0 z1 z2 kn0 kn1 kn2; obtain ⟨z0, z1, z2, kn0, kn1, kn2⟩ := PK.out _ HS.out
  have PN : Hid (∀ V, Below w1.heap.size w1 V → _) := hidA (fun V hV => PK.out V (stepA HS.out hV))
  have BN : Hid (Below w.heap.size w w1) := hidA (B0.out.trans (HS.out.mono B0.out.size))
  have hszN : w.heap.size + 1 + 1 < w1.heap.size := by first | assumption | omega
  clear B0 PK HS hsz
  clear z0 z1 z2 kn0 kn1 kn2
  have PK := PN
  have B0 := BN
  have hsz := hszN
  clear PN BN hszN
  have HS : Hid (Below w1.heap.size w1 w1) := hidA (Below.refl _ _)
  generalize w1 = w0 at *
  obtain ⟨z0, z1, z2, kn0, kn1, kn2⟩ := PK.out _ HS.out
  go_upto_region 4 with (fail)
  refine wp_region_made (by kernel_rfl) (by kernel_rfl) [8, 9, 20, 21, 22, 23] w0 2 20 8 27 #[.int .i64 0, .int .i64 0, .int .i64 0, .int .i64 0, .int .i64 0] (fun k => if k = 0 then .agg #[.int .i64 x0, .int .i64 x1, .int .i64 x2, .int .i64 x3] else .agg #[.int .i64 y0, .int .i64 y1, .int .i64 y2, .int .i64 y3]) (fun k => if k = 0 then #[.int .i64 a.lo, .int .i64 a.hi, .int .i64 a.m, .int .i64 a.r, .int .i64 a.k] else #[.int .i64 b.lo, .int .i64 b.hi, .int .i64 b.m, .int .i64 b.r, .int .i64 b.k]) HS.out.drew ?_ (by decide) ?_
  · refine And.intro ?_ (And.intro ?_ (And.intro ?_ (And.intro ?_ (And.intro ?_ (And.intro ?_ (And.intro ?_ (And.intro ?_ (trivial))))))))
    · refine @made_load _ _ _ _ _ _ 2 20 8 _ _ _ _ _ 0 0 rfl (by omega) ?_ 23 3 ?_ ?_ ?_ (w.heap.size) ?_ 23 #[.int .i64 x0, .int .i64 x1, .int .i64 x2, .int .i64 x3] ?_ kn0 ?_ ?_ ?_ ?_ (by omega)
      all_goals first | with_reducible rfl | kernel_rfl | decide
    · refine @made_call _ _ _ _ _ _ 2 20 8 _ _ _ _ _ 0 1 rfl (by omega) ?_ ?_ 10 ?_ CA.out ?_ ?_ ?_ ?_ ?_ (by omega)
      all_goals first | with_reducible rfl | kernel_rfl | decide | (simp; done) | (intro ev w; simp [go_sem]; done)
    · refine @made_load _ _ _ _ _ _ 2 20 8 _ _ _ _ _ 1 2 rfl (by omega) ?_ 23 4 ?_ ?_ ?_ (w.heap.size + 1) ?_ 23 #[.int .i64 y0, .int .i64 y1, .int .i64 y2, .int .i64 y3] ?_ kn1 ?_ ?_ ?_ ?_ (by omega)
      all_goals first | with_reducible rfl | kernel_rfl | decide
    · refine @made_call _ _ _ _ _ _ 2 20 8 _ _ _ _ _ 1 3 rfl (by omega) ?_ ?_ 10 ?_ CB.out ?_ ?_ ?_ ?_ ?_ (by omega)
      all_goals first | with_reducible rfl | kernel_rfl | decide | (simp; done) | (intro ev w; simp [go_sem]; done)
    · refine @made_make _ _ _ _ _ _ 2 20 8 _ _ _ _ _ 0 4 rfl (by omega) ?_ ?_ ?_ ?_ ?_ (by omega)
      all_goals first | with_reducible rfl | kernel_rfl | decide | (intro ev w; simp [go_sem]; done)
    · refine @made_make _ _ _ _ _ _ 2 20 8 _ _ _ _ _ 1 5 rfl (by omega) ?_ ?_ ?_ ?_ ?_ (by omega)
      all_goals first | with_reducible rfl | kernel_rfl | decide | (intro ev w; simp [go_sem]; done)
    · refine @made_store _ _ _ _ _ _ 2 20 8 _ _ _ _ _ 0 6 rfl (by omega) ?_ ?_ 27 8 21 ?_ rfl rfl ?_ ?_ ?_ ?_ ?_ ?_ ?_ ?_ ?_
      all_goals first | with_reducible rfl | kernel_rfl | decide | (simp; done) | rfl
    · refine @made_store _ _ _ _ _ _ 2 20 8 _ _ _ _ _ 1 7 rfl (by omega) ?_ ?_ 27 9 23 ?_ rfl rfl ?_ ?_ ?_ ?_ ?_ ?_ ?_ ?_ ?_
      all_goals first | with_reducible rfl | kernel_rfl | decide | (simp; done) | rfl
  · intro V G wc hB hV hN
    obtain ⟨va0, la0, ka0⟩ := hV 0 (by omega)
    obtain ⟨va1, la1, ka1⟩ := hV 1 (by omega)
    clear hV hN
    simp only [putV, Act.put, List.setIfInBounds_toArray, List.set_cons_zero, List.set_cons_succ]
    rw [va0, va1]
    generalize V 20 = u20
    generalize V 21 = u21
    generalize V 22 = u22
    generalize V 23 = u23
    clear va0 va1 V
    generalize G 0 = g at *
    generalize G 1 = h at *
    clear G
    have P0 : Hid (wc.cell? ⟨g, 0, none⟩ = _) := hidA (cell_of_row wc g 0 _ _ _ ka0)
    have P1 : Hid (wc.cell? ⟨g, 1, none⟩ = _) := hidA (cell_of_row wc g 1 _ _ _ ka0)
    have P2 : Hid (wc.cell? ⟨g, 2, none⟩ = _) := hidA (cell_of_row wc g 2 _ _ _ ka0)
    have P3 : Hid (wc.cell? ⟨g, 3, none⟩ = _) := hidA (cell_of_row wc g 3 _ _ _ ka0)
    have P4 : Hid (wc.cell? ⟨g, 4, none⟩ = _) := hidA (cell_of_row wc g 4 _ _ _ ka0)
    have Q0 : Hid (wc.cell? ⟨h, 0, none⟩ = _) := hidA (cell_of_row wc h 0 _ _ _ ka1)
    have Q1 : Hid (wc.cell? ⟨h, 1, none⟩ = _) := hidA (cell_of_row wc h 1 _ _ _ ka1)
    have Q2 : Hid (wc.cell? ⟨h, 2, none⟩ = _) := hidA (cell_of_row wc h 2 _ _ _ ka1)
    have Q3 : Hid (wc.cell? ⟨h, 3, none⟩ = _) := hidA (cell_of_row wc h 3 _ _ _ ka1)
    have Q4 : Hid (wc.cell? ⟨h, 4, none⟩ = _) := hidA (cell_of_row wc h 4 _ _ _ ka1)
    clear z0 z1 z2 kn0 kn1 kn2
    obtain ⟨z0, z1, z2, kn0, kn1, kn2⟩ := PK.out _ hB
    have N2_0 : Hid (wc.cell? ⟨w.heap.size + 1 + 1, 0, none⟩ = _) := hidA (cell_of_row wc (w.heap.size + 1 + 1) 0 _ _ _ kn2)
    have N2_1 : Hid (wc.cell? ⟨w.heap.size + 1 + 1, 1, none⟩ = _) := hidA (cell_of_row wc (w.heap.size + 1 + 1) 1 _ _ _ kn2)
    have N2_2 : Hid (wc.cell? ⟨w.heap.size + 1 + 1, 2, none⟩ = _) := hidA (cell_of_row wc (w.heap.size + 1 + 1) 2 _ _ _ kn2)
    have N2_3 : Hid (wc.cell? ⟨w.heap.size + 1 + 1, 3, none⟩ = _) := hidA (cell_of_row wc (w.heap.size + 1 + 1) 3 _ _ _ kn2)
    have N2_4 : Hid (wc.cell? ⟨w.heap.size + 1 + 1, 4, none⟩ = _) := hidA (cell_of_row wc (w.heap.size + 1 + 1) 4 _ _ _ kn2)
    have N2_5 : Hid (wc.cell? ⟨w.heap.size + 1 + 1, 5, none⟩ = _) := hidA (cell_of_row wc (w.heap.size + 1 + 1) 5 _ _ _ kn2)
    clear ka0 la0 ka1 la1
    clear z0 z1 z2 kn0 kn1 kn2
    have BW := hidA (B0.out.trans (hB.mono (by first | omega | (dsimp only; omega) | (simp; done) | (simp; omega))))
    clear hB hsz
    have BN : Hid (Below w.heap.size w wc) := hidA BW.out
    have leW : w.heap.size ≤ wc.heap.size := BN.out.size
    clear B0 PK HS
    have PK : Hid (∀ V, Below wc.heap.size wc V → V.cell? ⟨w.heap.size + 1 + 1, 0, none⟩ = some (.int .i64 n0) ∧ V.cell? ⟨w.heap.size + 1 + 1, 1, none⟩ = some (.int .i64 n1) ∧ V.cell? ⟨w.heap.size + 1 + 1, 2, none⟩ = some (.int .i64 n2) ∧ V.cell? ⟨w.heap.size + 1 + 1, 3, none⟩ = some (.int .i64 n3) ∧ V.cell? ⟨w.heap.size + 1 + 1, 4, none⟩ = some (.int .i64 n4) ∧ V.cell? ⟨w.heap.size + 1 + 1, 5, none⟩ = some (.int .i64 n5) ∧ abF V g a (abF V h b (w.heap.size + 1 + 1 < V.heap.size ∧ g < V.heap.size ∧ h < V.heap.size))) := hidA (fun V hW => ⟨cellA hW N2_0.out, cellA hW N2_1.out, cellA hW N2_2.out, cellA hW N2_3.out, cellA hW N2_4.out, cellA hW N2_5.out, cellA hW P0.out, cellA hW P1.out, cellA hW P2.out, cellA hW P3.out, cellA hW P4.out, cellA hW Q0.out, cellA hW Q1.out, cellA hW Q2.out, cellA hW Q3.out, cellA hW Q4.out, Nat.lt_of_lt_of_le (World.block_lt_of_cell? _ _ N2_0.out) hW.size, Nat.lt_of_lt_of_le (World.block_lt_of_cell? _ _ P0.out) hW.size, Nat.lt_of_lt_of_le (World.block_lt_of_cell? _ _ Q0.out) hW.size⟩)
    clear N2_0 N2_1 N2_2 N2_3 N2_4 N2_5 P0 P1 P2 P3 P4 Q0 Q1 Q2 Q3 Q4
    have B0 := BN
    clear BN
    have HS : Hid (Below wc.heap.size wc wc) := hidA (Below.refl _ _)
    generalize wc = w0 at *
    obtain ⟨c0, c1, c2, c3, c4, c5, c6, c7, c8, c9, c10, c11, c12, c13, c14, c15, z0, z1, z2⟩ := PK.out _ HS.out
    clear BW
    go_upto_region 6 with (fail)
    obtain ⟨d, hd⟩ : ∃ d, w0.heap.size = d := ⟨_, rfl⟩
    obtain ⟨w2, hw2⟩ : ∃ w2, w0.alloc (.cells #[.int .i64 n0, .int .i64 n1, .int .i64 n2, .int .i64 n3, .int .i64 n4] 27) = w2 := ⟨_, rfl⟩
    have U : Hid (Below w0.heap.size w0 w2) := hidA (alloc_is hw2)
    have D := row_is hw2
    rw [hw2]
    try rw [hd]
    rw [hd] at D
    clear hw2 hd
    have hs1 := stepA HS.out U.out
    clear U
    clear HS; have HS := hidA hs1; clear hs1 c0 c1 c2 c3 c4 c5 c6 c7 c8 c9 c10 c11 c12 c13 c14 c15 z0 z1 z2; obtain ⟨c0, c1, c2, c3, c4, c5, c6, c7, c8, c9, c10, c11, c12, c13, c14, c15, z0, z1, z2⟩ := PK.out _ HS.out
    have D0 := hidA (D 0 _ rfl)
    have D1 := hidA (D 1 _ rfl)
    have D2 := hidA (D 2 _ rfl)
    have D3 := hidA (D 3 _ rfl)
    have D4 := hidA (D 4 _ rfl)
    clear D
    have N0 := hidA c0
    have N1 := hidA c1
    have N2 := hidA c2
    have N3 := hidA c3
    have N4 := hidA c4
    have N5 := hidA c5
    have P0 := hidA c6
    have P1 := hidA c7
    have P2 := hidA c8
    have P3 := hidA c9
    have P4 := hidA c10
    have Q0 := hidA c11
    have Q1 := hidA c12
    have Q2 := hidA c13
    have Q3 := hidA c14
    have Q4 := hidA c15
    clear c0 c1 c2 c3 c4 c5 c6 c7 c8 c9 c10 c11 c12 c13 c14 c15 z0 z1 z2
    have BW := hidA (B0.out.trans (HS.out.mono B0.out.size))
    have BN : Hid (Below w.heap.size w w2) := hidA BW.out
    have leW : w.heap.size ≤ w2.heap.size := BN.out.size
    clear B0 PK HS
    have PK : Hid (∀ V, Below w2.heap.size w2 V → V.cell? ⟨w.heap.size + 1 + 1, 0, none⟩ = some (.int .i64 n0) ∧ V.cell? ⟨w.heap.size + 1 + 1, 1, none⟩ = some (.int .i64 n1) ∧ V.cell? ⟨w.heap.size + 1 + 1, 2, none⟩ = some (.int .i64 n2) ∧ V.cell? ⟨w.heap.size + 1 + 1, 3, none⟩ = some (.int .i64 n3) ∧ V.cell? ⟨w.heap.size + 1 + 1, 4, none⟩ = some (.int .i64 n4) ∧ V.cell? ⟨w.heap.size + 1 + 1, 5, none⟩ = some (.int .i64 n5) ∧ abF V g a (abF V h b (V.cell? ⟨d, 0, none⟩ = some (.int .i64 n0) ∧ V.cell? ⟨d, 1, none⟩ = some (.int .i64 n1) ∧ V.cell? ⟨d, 2, none⟩ = some (.int .i64 n2) ∧ V.cell? ⟨d, 3, none⟩ = some (.int .i64 n3) ∧ V.cell? ⟨d, 4, none⟩ = some (.int .i64 n4) ∧ w.heap.size + 1 + 1 < V.heap.size ∧ g < V.heap.size ∧ h < V.heap.size ∧ d < V.heap.size))) := hidA (fun V hW => ⟨cellA hW N0.out, cellA hW N1.out, cellA hW N2.out, cellA hW N3.out, cellA hW N4.out, cellA hW N5.out, cellA hW P0.out, cellA hW P1.out, cellA hW P2.out, cellA hW P3.out, cellA hW P4.out, cellA hW Q0.out, cellA hW Q1.out, cellA hW Q2.out, cellA hW Q3.out, cellA hW Q4.out, cellA hW D0.out, cellA hW D1.out, cellA hW D2.out, cellA hW D3.out, cellA hW D4.out, Nat.lt_of_lt_of_le (World.block_lt_of_cell? _ _ N0.out) hW.size, Nat.lt_of_lt_of_le (World.block_lt_of_cell? _ _ P0.out) hW.size, Nat.lt_of_lt_of_le (World.block_lt_of_cell? _ _ Q0.out) hW.size, Nat.lt_of_lt_of_le (World.block_lt_of_cell? _ _ D0.out) hW.size⟩)
    clear N0 N1 N2 N3 N4 N5 P0 P1 P2 P3 P4 Q0 Q1 Q2 Q3 Q4 D0 D1 D2 D3 D4
    have B0 := BN
    clear BN
    have HS : Hid (Below w2.heap.size w2 w2) := hidA (Below.refl _ _)
    generalize w2 = w0 at *
    obtain ⟨c0, c1, c2, c3, c4, c5, c6, c7, c8, c9, c10, c11, c12, c13, c14, c15, c16, c17, c18, c19, c20, z0, z1, z2, z3⟩ := PK.out _ HS.out
    clear BW
    go_cut [11] (fun s W => ∃ e : Nat, s = .pointer (some ⟨e, 0, none⟩) ∧ Below w0.heap.size w0 W ∧ W.cell? ⟨e, 0, none⟩ = some (.int .i64 v) ∧ W.cell? ⟨e, 1, none⟩ = some (.int .i64 vk))
    case first =>
      have em := EM1.out
      have hsD := HS.out.drew
      have leD : w0.heap.size ≤ w0.heap.size := Nat.le_refl _
      go_region_held3 (fun w' => w'.cell? ⟨w.heap.size + 1 + 1, 0, none⟩ = some (.int .i64 n0) ∧ w'.cell? ⟨w.heap.size + 1 + 1, 1, none⟩ = some (.int .i64 n1) ∧ w'.cell? ⟨w.heap.size + 1 + 1, 2, none⟩ = some (.int .i64 n2) ∧ w'.cell? ⟨w.heap.size + 1 + 1, 3, none⟩ = some (.int .i64 n3) ∧ w'.cell? ⟨w.heap.size + 1 + 1, 4, none⟩ = some (.int .i64 n4) ∧ w'.cell? ⟨w.heap.size + 1 + 1, 5, none⟩ = some (.int .i64 n5) ∧ Below w0.heap.size w0 w')
        ((refine (fun hB => ⟨(PK.out _ hB).1, (PK.out _ hB).2.1, (PK.out _ hB).2.2.1, (PK.out _ hB).2.2.2.1, (PK.out _ hB).2.2.2.2.1, (PK.out _ hB).2.2.2.2.2.1, hB⟩) (?_ : Below w0.heap.size w0 _); exact (by repeat (first | with_reducible assumption | with_reducible exact Below.refl _ _ | with_reducible refine Below.setCell ?_ (by first | omega | (dsimp only; omega) | (simp; done) | (simp; omega)) _ | with_reducible refine Below.alloc ?_ (by first | omega | (dsimp only; omega) | (simp; done) | (simp; omega)) _ | with_reducible refine Below.drew ?_))))
        (first
          | ((go_at_call 11; refine (W0.out _).mono ?_; rintro e w1 ⟨rfl, rfl⟩)))
      all_goals
        go_wp2_with fail
        go_meet
        exact ⟨_, rfl, (by repeat (first | with_reducible assumption | with_reducible exact Below.refl _ _ | with_reducible refine Below.setCell ?_ (by first | omega | (dsimp only; omega) | (simp; done) | (simp; omega)) _ | with_reducible refine Below.alloc ?_ (by first | omega | (dsimp only; omega) | (simp; done) | (simp; omega)) _ | with_reducible refine Below.drew ?_)), (by simp [go_sem]), (by simp [go_sem])⟩
    case rest =>
      obtain ⟨e, rfl, hs1, r0, r1⟩ := hcut
      have D0 := hidA r0
      have D1 := hidA r1
      clear r0 r1
      clear HS; have HS := hidA hs1; clear hs1 c0 c1 c2 c3 c4 c5 c6 c7 c8 c9 c10 c11 c12 c13 c14 c15 c16 c17 c18 c19 c20 z0 z1 z2 z3; obtain ⟨c0, c1, c2, c3, c4, c5, c6, c7, c8, c9, c10, c11, c12, c13, c14, c15, c16, c17, c18, c19, c20, z0, z1, z2, z3⟩ := PK.out _ HS.out
      have N0 := hidA c0
      have N1 := hidA c1
      have N2 := hidA c2
      have N3 := hidA c3
      have N4 := hidA c4
      have N5 := hidA c5
      have P0 := hidA c6
      have P1 := hidA c7
      have P2 := hidA c8
      have P3 := hidA c9
      have P4 := hidA c10
      have Q0 := hidA c11
      have Q1 := hidA c12
      have Q2 := hidA c13
      have Q3 := hidA c14
      have Q4 := hidA c15
      have R0 := hidA c16
      have R1 := hidA c17
      have R2 := hidA c18
      have R3 := hidA c19
      have R4 := hidA c20
      clear c0 c1 c2 c3 c4 c5 c6 c7 c8 c9 c10 c11 c12 c13 c14 c15 c16 c17 c18 c19 c20 z0 z1 z2 z3
      have BW := hidA (B0.out.trans (HS.out.mono B0.out.size))
      have BN : Hid (Below w.heap.size w wc) := hidA BW.out
      have leW : w.heap.size ≤ wc.heap.size := BN.out.size
      clear B0 PK HS
      have PK : Hid (∀ V, Below wc.heap.size wc V → V.cell? ⟨w.heap.size + 1 + 1, 0, none⟩ = some (.int .i64 n0) ∧ V.cell? ⟨w.heap.size + 1 + 1, 1, none⟩ = some (.int .i64 n1) ∧ V.cell? ⟨w.heap.size + 1 + 1, 2, none⟩ = some (.int .i64 n2) ∧ V.cell? ⟨w.heap.size + 1 + 1, 3, none⟩ = some (.int .i64 n3) ∧ V.cell? ⟨w.heap.size + 1 + 1, 4, none⟩ = some (.int .i64 n4) ∧ V.cell? ⟨w.heap.size + 1 + 1, 5, none⟩ = some (.int .i64 n5) ∧ abF V g a (abF V h b (V.cell? ⟨d, 0, none⟩ = some (.int .i64 n0) ∧ V.cell? ⟨d, 1, none⟩ = some (.int .i64 n1) ∧ V.cell? ⟨d, 2, none⟩ = some (.int .i64 n2) ∧ V.cell? ⟨d, 3, none⟩ = some (.int .i64 n3) ∧ V.cell? ⟨d, 4, none⟩ = some (.int .i64 n4) ∧ V.cell? ⟨e, 0, none⟩ = some (.int .i64 v) ∧ V.cell? ⟨e, 1, none⟩ = some (.int .i64 vk) ∧ w.heap.size + 1 + 1 < V.heap.size ∧ g < V.heap.size ∧ h < V.heap.size ∧ d < V.heap.size ∧ e < V.heap.size))) := hidA (fun V hW => ⟨cellA hW N0.out, cellA hW N1.out, cellA hW N2.out, cellA hW N3.out, cellA hW N4.out, cellA hW N5.out, cellA hW P0.out, cellA hW P1.out, cellA hW P2.out, cellA hW P3.out, cellA hW P4.out, cellA hW Q0.out, cellA hW Q1.out, cellA hW Q2.out, cellA hW Q3.out, cellA hW Q4.out, cellA hW R0.out, cellA hW R1.out, cellA hW R2.out, cellA hW R3.out, cellA hW R4.out, cellA hW D0.out, cellA hW D1.out, Nat.lt_of_lt_of_le (World.block_lt_of_cell? _ _ N0.out) hW.size, Nat.lt_of_lt_of_le (World.block_lt_of_cell? _ _ P0.out) hW.size, Nat.lt_of_lt_of_le (World.block_lt_of_cell? _ _ Q0.out) hW.size, Nat.lt_of_lt_of_le (World.block_lt_of_cell? _ _ R0.out) hW.size, Nat.lt_of_lt_of_le (World.block_lt_of_cell? _ _ D0.out) hW.size⟩)
      clear N0 N1 N2 N3 N4 N5 P0 P1 P2 P3 P4 Q0 Q1 Q2 Q3 Q4 R0 R1 R2 R3 R4 D0 D1
      have B0 := BN
      clear BN
      have HS : Hid (Below wc.heap.size wc wc) := hidA (Below.refl _ _)
      generalize wc = w0 at *
      obtain ⟨c0, c1, c2, c3, c4, c5, c6, c7, c8, c9, c10, c11, c12, c13, c14, c15, c16, c17, c18, c19, c20, c21, c22, z0, z1, z2, z3, z4⟩ := PK.out _ HS.out
      clear BW
      go_upto_region 7 with (fail)
      go_cut [98] (fun s W => s = .bool false ∧ Below w0.heap.size w0 W)
      case first =>
        refine' wp_region_det (by kernel_rfl) [_, _, _, _, _, _, _, _, _, _, _, _, _, _, _, _, _, _, _, _, _, _, _, _, _, _, _, _, _, _, _, _, _, _, _, _, _, _, _, _, _, _, _, _, _, _, _, _, _, _, _, _, _, _, _, _, _] (fun W => Below w0.heap.size w0 W) (by kernel_rfl) HS.out.drew ?steps1 ?rest1
        case steps1 =>
          simp only [putAll, Act.put, List.setIfInBounds_toArray, List.set_cons_zero, List.set_cons_succ]
          refine detSteps_cons ?_ ?_
          · (refine det_run [10] (by kernel_rfl) (by rfl) (fun a ha W hW => ?_); have g10 : a.tmps[10]? = some _ := (ha 10 rfl).trans rfl; clear ha; obtain ⟨c0, c1, c2, c3, c4, c5, c6, c7, c8, c9, c10, c11, c12, c13, c14, c15, c16, c17, c18, c19, c20, c21, c22, z0, z1, z2, z3, z4⟩ := PK.out _ hW; go_simp; first  | (refine yield1_value ?_ hW; exact rfl))
          refine detSteps_cons ?_ ?_
          · (refine det_run [42] (by kernel_rfl) (by rfl) (fun a ha W hW => ?_); have g42 : a.tmps[42]? = some _ := (ha 42 rfl).trans rfl; clear ha; go_simp; (refine yield1_enter ?_; go_at_call 12; (with_reducible refine (C1.out _).mono ?_); rintro e w1 ⟨rfl, hb1⟩; (refine And.intro ?_ (stepA hW hb1)); exact rfl))
          refine detSteps_cons ?_ ?_
          · (refine det_run [10] (by kernel_rfl) (by rfl) (fun a ha W hW => ?_); have g10 : a.tmps[10]? = some _ := (ha 10 rfl).trans rfl; clear ha; obtain ⟨c0, c1, c2, c3, c4, c5, c6, c7, c8, c9, c10, c11, c12, c13, c14, c15, c16, c17, c18, c19, c20, c21, c22, z0, z1, z2, z3, z4⟩ := PK.out _ hW; go_simp; first  | (refine yield1_value ?_ hW; exact rfl))
          refine detSteps_cons ?_ ?_
          · (refine det_run [44] (by kernel_rfl) (by rfl) (fun a ha W hW => ?_); have g44 : a.tmps[44]? = some _ := (ha 44 rfl).trans rfl; clear ha; go_simp; (refine yield1_enter ?_; go_at_call 13; (with_reducible refine (D1.out _).mono ?_); rintro e w1 ⟨rfl, hb1⟩; (refine And.intro ?_ (stepA hW hb1)); exact rfl))
          refine detSteps_cons ?_ ?_
          · (refine det_run [43, 45] (by kernel_rfl) (by rfl) (fun a ha W hW => ?_); have g43 : a.tmps[43]? = some _ := (ha 43 rfl).trans rfl; have g45 : a.tmps[45]? = some _ := (ha 45 rfl).trans rfl; clear ha; go_simp; first  | (refine yield1_value ?_ hW; exact rfl))
          refine detSteps_cons ?_ ?_
          · (refine det_run [46] (by kernel_rfl) (by rfl) (fun a ha W hW => ?_); have g46 : a.tmps[46]? = some _ := (ha 46 rfl).trans rfl; clear ha; go_simp; first  | (refine yield1_value ?_ hW; exact rfl))
          refine detSteps_cons ?_ ?_
          · (refine det_run [8] (by kernel_rfl) (by rfl) (fun a ha W hW => ?_); have g8 : a.tmps[8]? = some _ := (ha 8 rfl).trans rfl; clear ha; obtain ⟨c0, c1, c2, c3, c4, c5, c6, c7, c8, c9, c10, c11, c12, c13, c14, c15, c16, c17, c18, c19, c20, c21, c22, z0, z1, z2, z3, z4⟩ := PK.out _ hW; go_simp; first  | (refine yield1_value ?_ hW; exact rfl))
          refine detSteps_cons ?_ ?_
          · (refine det_run [11] (by kernel_rfl) (by rfl) (fun a ha W hW => ?_); have g11 : a.tmps[11]? = some _ := (ha 11 rfl).trans rfl; clear ha; obtain ⟨c0, c1, c2, c3, c4, c5, c6, c7, c8, c9, c10, c11, c12, c13, c14, c15, c16, c17, c18, c19, c20, c21, c22, z0, z1, z2, z3, z4⟩ := PK.out _ hW; go_simp; first  | (refine yield1_value ?_ hW; exact rfl))
          refine detSteps_cons ?_ ?_
          · (refine det_run [48, 49] (by kernel_rfl) (by rfl) (fun a ha W hW => ?_); have g48 : a.tmps[48]? = some _ := (ha 48 rfl).trans rfl; have g49 : a.tmps[49]? = some _ := (ha 49 rfl).trans rfl; clear ha; go_simp; (refine yield1_enter ?_; go_at_call 14; (with_reducible refine (C2.out _).mono ?_); rintro e w1 ⟨rfl, hb1⟩; (refine And.intro ?_ (stepA hW hb1)); exact rfl))
          refine detSteps_cons ?_ ?_
          · (refine det_run [8] (by kernel_rfl) (by rfl) (fun a ha W hW => ?_); have g8 : a.tmps[8]? = some _ := (ha 8 rfl).trans rfl; clear ha; obtain ⟨c0, c1, c2, c3, c4, c5, c6, c7, c8, c9, c10, c11, c12, c13, c14, c15, c16, c17, c18, c19, c20, c21, c22, z0, z1, z2, z3, z4⟩ := PK.out _ hW; go_simp; first  | (refine yield1_value ?_ hW; exact rfl))
          refine detSteps_cons ?_ ?_
          · (refine det_run [11] (by kernel_rfl) (by rfl) (fun a ha W hW => ?_); have g11 : a.tmps[11]? = some _ := (ha 11 rfl).trans rfl; clear ha; obtain ⟨c0, c1, c2, c3, c4, c5, c6, c7, c8, c9, c10, c11, c12, c13, c14, c15, c16, c17, c18, c19, c20, c21, c22, z0, z1, z2, z3, z4⟩ := PK.out _ hW; go_simp; first  | (refine yield1_value ?_ hW; exact rfl))
          refine detSteps_cons ?_ ?_
          · (refine det_run [51, 52] (by kernel_rfl) (by rfl) (fun a ha W hW => ?_); have g51 : a.tmps[51]? = some _ := (ha 51 rfl).trans rfl; have g52 : a.tmps[52]? = some _ := (ha 52 rfl).trans rfl; clear ha; go_simp; (refine yield1_enter ?_; go_at_call 15; (with_reducible refine (D2.out _).mono ?_); rintro e w1 ⟨rfl, hb1⟩; (refine And.intro ?_ (stepA hW hb1)); exact rfl))
          refine detSteps_cons ?_ ?_
          · (refine det_run [50, 53] (by kernel_rfl) (by rfl) (fun a ha W hW => ?_); have g50 : a.tmps[50]? = some _ := (ha 50 rfl).trans rfl; have g53 : a.tmps[53]? = some _ := (ha 53 rfl).trans rfl; clear ha; go_simp; first  | (refine yield1_value ?_ hW; exact rfl))
          refine detSteps_cons ?_ ?_
          · (refine det_run [47, 54] (by kernel_rfl) (by rfl) (fun a ha W hW => ?_); have g47 : a.tmps[47]? = some _ := (ha 47 rfl).trans rfl; have g54 : a.tmps[54]? = some _ := (ha 54 rfl).trans rfl; clear ha; go_simp; first  | (refine yield1_value ?_ hW; exact rfl))
          refine detSteps_cons ?_ ?_
          · (refine det_run [55] (by kernel_rfl) (by rfl) (fun a ha W hW => ?_); have g55 : a.tmps[55]? = some _ := (ha 55 rfl).trans rfl; clear ha; go_simp; first  | (refine yield1_value ?_ hW; exact rfl))
          refine detSteps_cons ?_ ?_
          · (refine det_run [11] (by kernel_rfl) (by rfl) (fun a ha W hW => ?_); have g11 : a.tmps[11]? = some _ := (ha 11 rfl).trans rfl; clear ha; obtain ⟨c0, c1, c2, c3, c4, c5, c6, c7, c8, c9, c10, c11, c12, c13, c14, c15, c16, c17, c18, c19, c20, c21, c22, z0, z1, z2, z3, z4⟩ := PK.out _ hW; go_simp; first  | (refine yield1_value ?_ hW; exact rfl))
          refine detSteps_cons ?_ ?_
          · (refine det_run [57] (by kernel_rfl) (by rfl) (fun a ha W hW => ?_); have g57 : a.tmps[57]? = some _ := (ha 57 rfl).trans rfl; clear ha; go_simp; (refine yield1_enter ?_; go_at_call 16; (with_reducible refine (C3.out _).mono ?_); rintro e w1 ⟨rfl, hb1⟩; (refine And.intro ?_ (stepA hW hb1)); exact rfl))
          refine detSteps_cons ?_ ?_
          · (refine det_run [11] (by kernel_rfl) (by rfl) (fun a ha W hW => ?_); have g11 : a.tmps[11]? = some _ := (ha 11 rfl).trans rfl; clear ha; obtain ⟨c0, c1, c2, c3, c4, c5, c6, c7, c8, c9, c10, c11, c12, c13, c14, c15, c16, c17, c18, c19, c20, c21, c22, z0, z1, z2, z3, z4⟩ := PK.out _ hW; go_simp; first  | (refine yield1_value ?_ hW; exact rfl))
          refine detSteps_cons ?_ ?_
          · (refine det_run [59] (by kernel_rfl) (by rfl) (fun a ha W hW => ?_); have g59 : a.tmps[59]? = some _ := (ha 59 rfl).trans rfl; clear ha; go_simp; (refine yield1_enter ?_; go_at_call 17; (with_reducible refine (D3.out _).mono ?_); rintro e w1 ⟨rfl, hb1⟩; (refine And.intro ?_ (stepA hW hb1)); exact rfl))
          refine detSteps_cons ?_ ?_
          · (refine det_run [58, 60] (by kernel_rfl) (by rfl) (fun a ha W hW => ?_); have g58 : a.tmps[58]? = some _ := (ha 58 rfl).trans rfl; have g60 : a.tmps[60]? = some _ := (ha 60 rfl).trans rfl; clear ha; go_simp; first  | (refine yield1_value ?_ hW; exact rfl))
          refine detSteps_cons ?_ ?_
          · (refine det_run [56, 61] (by kernel_rfl) (by rfl) (fun a ha W hW => ?_); have g56 : a.tmps[56]? = some _ := (ha 56 rfl).trans rfl; have g61 : a.tmps[61]? = some _ := (ha 61 rfl).trans rfl; clear ha; go_simp; first  | (refine yield1_value ?_ hW; exact rfl))
          refine detSteps_cons ?_ ?_
          · (refine det_run [62] (by kernel_rfl) (by rfl) (fun a ha W hW => ?_); have g62 : a.tmps[62]? = some _ := (ha 62 rfl).trans rfl; clear ha; go_simp; first  | (refine yield1_value ?_ hW; exact rfl))
          refine detSteps_cons ?_ ?_
          · (refine det_run [8] (by kernel_rfl) (by rfl) (fun a ha W hW => ?_); have g8 : a.tmps[8]? = some _ := (ha 8 rfl).trans rfl; clear ha; obtain ⟨c0, c1, c2, c3, c4, c5, c6, c7, c8, c9, c10, c11, c12, c13, c14, c15, c16, c17, c18, c19, c20, c21, c22, z0, z1, z2, z3, z4⟩ := PK.out _ hW; go_simp; first  | (refine yield1_value ?_ hW; exact rfl))
          refine detSteps_cons ?_ ?_
          · (refine det_run [9] (by kernel_rfl) (by rfl) (fun a ha W hW => ?_); have g9 : a.tmps[9]? = some _ := (ha 9 rfl).trans rfl; clear ha; obtain ⟨c0, c1, c2, c3, c4, c5, c6, c7, c8, c9, c10, c11, c12, c13, c14, c15, c16, c17, c18, c19, c20, c21, c22, z0, z1, z2, z3, z4⟩ := PK.out _ hW; go_simp; first  | (refine yield1_value ?_ hW; exact rfl))
          refine detSteps_cons ?_ ?_
          · (refine det_run [64, 65] (by kernel_rfl) (by rfl) (fun a ha W hW => ?_); have g64 : a.tmps[64]? = some _ := (ha 64 rfl).trans rfl; have g65 : a.tmps[65]? = some _ := (ha 65 rfl).trans rfl; clear ha; go_simp; (refine yield1_enter ?_; go_at_call 18; (with_reducible refine (C4.out _).mono ?_); rintro e w1 ⟨rfl, hb1⟩; (refine And.intro ?_ (stepA hW hb1)); exact rfl))
          refine detSteps_cons ?_ ?_
          · (refine det_run [8] (by kernel_rfl) (by rfl) (fun a ha W hW => ?_); have g8 : a.tmps[8]? = some _ := (ha 8 rfl).trans rfl; clear ha; obtain ⟨c0, c1, c2, c3, c4, c5, c6, c7, c8, c9, c10, c11, c12, c13, c14, c15, c16, c17, c18, c19, c20, c21, c22, z0, z1, z2, z3, z4⟩ := PK.out _ hW; go_simp; first  | (refine yield1_value ?_ hW; exact rfl))
          refine detSteps_cons ?_ ?_
          · (refine det_run [9] (by kernel_rfl) (by rfl) (fun a ha W hW => ?_); have g9 : a.tmps[9]? = some _ := (ha 9 rfl).trans rfl; clear ha; obtain ⟨c0, c1, c2, c3, c4, c5, c6, c7, c8, c9, c10, c11, c12, c13, c14, c15, c16, c17, c18, c19, c20, c21, c22, z0, z1, z2, z3, z4⟩ := PK.out _ hW; go_simp; first  | (refine yield1_value ?_ hW; exact rfl))
          refine detSteps_cons ?_ ?_
          · (refine det_run [67, 68] (by kernel_rfl) (by rfl) (fun a ha W hW => ?_); have g67 : a.tmps[67]? = some _ := (ha 67 rfl).trans rfl; have g68 : a.tmps[68]? = some _ := (ha 68 rfl).trans rfl; clear ha; go_simp; (refine yield1_enter ?_; go_at_call 19; (with_reducible refine (D4.out _).mono ?_); rintro e w1 ⟨rfl, hb1⟩; (refine And.intro ?_ (stepA hW hb1)); exact rfl))
          refine detSteps_cons ?_ ?_
          · (refine det_run [66, 69] (by kernel_rfl) (by rfl) (fun a ha W hW => ?_); have g66 : a.tmps[66]? = some _ := (ha 66 rfl).trans rfl; have g69 : a.tmps[69]? = some _ := (ha 69 rfl).trans rfl; clear ha; go_simp; first  | (refine yield1_value ?_ hW; exact rfl))
          refine detSteps_cons ?_ ?_
          · (refine det_run [63, 70] (by kernel_rfl) (by rfl) (fun a ha W hW => ?_); have g63 : a.tmps[63]? = some _ := (ha 63 rfl).trans rfl; have g70 : a.tmps[70]? = some _ := (ha 70 rfl).trans rfl; clear ha; go_simp; first  | (refine yield1_value ?_ hW; exact rfl))
          refine detSteps_cons ?_ ?_
          · (refine det_run [71] (by kernel_rfl) (by rfl) (fun a ha W hW => ?_); have g71 : a.tmps[71]? = some _ := (ha 71 rfl).trans rfl; clear ha; go_simp; first  | (refine yield1_value ?_ hW; exact rfl))
          refine detSteps_cons ?_ ?_
          · (refine det_run [8] (by kernel_rfl) (by rfl) (fun a ha W hW => ?_); have g8 : a.tmps[8]? = some _ := (ha 8 rfl).trans rfl; clear ha; obtain ⟨c0, c1, c2, c3, c4, c5, c6, c7, c8, c9, c10, c11, c12, c13, c14, c15, c16, c17, c18, c19, c20, c21, c22, z0, z1, z2, z3, z4⟩ := PK.out _ hW; go_simp; first  | (refine yield1_value ?_ hW; exact rfl))
          refine detSteps_cons ?_ ?_
          · (refine det_run [9] (by kernel_rfl) (by rfl) (fun a ha W hW => ?_); have g9 : a.tmps[9]? = some _ := (ha 9 rfl).trans rfl; clear ha; obtain ⟨c0, c1, c2, c3, c4, c5, c6, c7, c8, c9, c10, c11, c12, c13, c14, c15, c16, c17, c18, c19, c20, c21, c22, z0, z1, z2, z3, z4⟩ := PK.out _ hW; go_simp; first  | (refine yield1_value ?_ hW; exact rfl))
          refine detSteps_cons ?_ ?_
          · (refine det_run [73, 74] (by kernel_rfl) (by rfl) (fun a ha W hW => ?_); have g73 : a.tmps[73]? = some _ := (ha 73 rfl).trans rfl; have g74 : a.tmps[74]? = some _ := (ha 74 rfl).trans rfl; clear ha; go_simp; (refine yield1_enter ?_; go_at_call 20; (with_reducible refine (C5.out _).mono ?_); rintro e w1 ⟨rfl, hb1⟩; (refine And.intro ?_ (stepA hW hb1)); exact rfl))
          refine detSteps_cons ?_ ?_
          · (refine det_run [8] (by kernel_rfl) (by rfl) (fun a ha W hW => ?_); have g8 : a.tmps[8]? = some _ := (ha 8 rfl).trans rfl; clear ha; obtain ⟨c0, c1, c2, c3, c4, c5, c6, c7, c8, c9, c10, c11, c12, c13, c14, c15, c16, c17, c18, c19, c20, c21, c22, z0, z1, z2, z3, z4⟩ := PK.out _ hW; go_simp; first  | (refine yield1_value ?_ hW; exact rfl))
          refine detSteps_cons ?_ ?_
          · (refine det_run [9] (by kernel_rfl) (by rfl) (fun a ha W hW => ?_); have g9 : a.tmps[9]? = some _ := (ha 9 rfl).trans rfl; clear ha; obtain ⟨c0, c1, c2, c3, c4, c5, c6, c7, c8, c9, c10, c11, c12, c13, c14, c15, c16, c17, c18, c19, c20, c21, c22, z0, z1, z2, z3, z4⟩ := PK.out _ hW; go_simp; first  | (refine yield1_value ?_ hW; exact rfl))
          refine detSteps_cons ?_ ?_
          · (refine det_run [76, 77] (by kernel_rfl) (by rfl) (fun a ha W hW => ?_); have g76 : a.tmps[76]? = some _ := (ha 76 rfl).trans rfl; have g77 : a.tmps[77]? = some _ := (ha 77 rfl).trans rfl; clear ha; go_simp; (refine yield1_enter ?_; go_at_call 21; (with_reducible refine (D5.out _).mono ?_); rintro e w1 ⟨rfl, hb1⟩; (refine And.intro ?_ (stepA hW hb1)); exact rfl))
          refine detSteps_cons ?_ ?_
          · (refine det_run [75, 78] (by kernel_rfl) (by rfl) (fun a ha W hW => ?_); have g75 : a.tmps[75]? = some _ := (ha 75 rfl).trans rfl; have g78 : a.tmps[78]? = some _ := (ha 78 rfl).trans rfl; clear ha; go_simp; first  | (refine yield1_value ?_ hW; exact rfl))
          refine detSteps_cons ?_ ?_
          · (refine det_run [72, 79] (by kernel_rfl) (by rfl) (fun a ha W hW => ?_); have g72 : a.tmps[72]? = some _ := (ha 72 rfl).trans rfl; have g79 : a.tmps[79]? = some _ := (ha 79 rfl).trans rfl; clear ha; go_simp; first  | (refine yield1_value ?_ hW; exact rfl))
          refine detSteps_cons ?_ ?_
          · (refine det_run [80] (by kernel_rfl) (by rfl) (fun a ha W hW => ?_); have g80 : a.tmps[80]? = some _ := (ha 80 rfl).trans rfl; clear ha; go_simp; first  | (refine yield1_value ?_ hW; exact rfl))
          refine detSteps_cons ?_ ?_
          · (refine det_run [8] (by kernel_rfl) (by rfl) (fun a ha W hW => ?_); have g8 : a.tmps[8]? = some _ := (ha 8 rfl).trans rfl; clear ha; obtain ⟨c0, c1, c2, c3, c4, c5, c6, c7, c8, c9, c10, c11, c12, c13, c14, c15, c16, c17, c18, c19, c20, c21, c22, z0, z1, z2, z3, z4⟩ := PK.out _ hW; go_simp; first  | (refine yield1_value ?_ hW; exact rfl))
          refine detSteps_cons ?_ ?_
          · (refine det_run [9] (by kernel_rfl) (by rfl) (fun a ha W hW => ?_); have g9 : a.tmps[9]? = some _ := (ha 9 rfl).trans rfl; clear ha; obtain ⟨c0, c1, c2, c3, c4, c5, c6, c7, c8, c9, c10, c11, c12, c13, c14, c15, c16, c17, c18, c19, c20, c21, c22, z0, z1, z2, z3, z4⟩ := PK.out _ hW; go_simp; first  | (refine yield1_value ?_ hW; exact rfl))
          refine detSteps_cons ?_ ?_
          · (refine det_run [82, 83] (by kernel_rfl) (by rfl) (fun a ha W hW => ?_); have g82 : a.tmps[82]? = some _ := (ha 82 rfl).trans rfl; have g83 : a.tmps[83]? = some _ := (ha 83 rfl).trans rfl; clear ha; go_simp; (refine yield1_enter ?_; go_at_call 22; (with_reducible refine (C6.out _).mono ?_); rintro e w1 ⟨rfl, hb1⟩; (refine And.intro ?_ (stepA hW hb1)); exact rfl))
          refine detSteps_cons ?_ ?_
          · (refine det_run [8] (by kernel_rfl) (by rfl) (fun a ha W hW => ?_); have g8 : a.tmps[8]? = some _ := (ha 8 rfl).trans rfl; clear ha; obtain ⟨c0, c1, c2, c3, c4, c5, c6, c7, c8, c9, c10, c11, c12, c13, c14, c15, c16, c17, c18, c19, c20, c21, c22, z0, z1, z2, z3, z4⟩ := PK.out _ hW; go_simp; first  | (refine yield1_value ?_ hW; exact rfl))
          refine detSteps_cons ?_ ?_
          · (refine det_run [9] (by kernel_rfl) (by rfl) (fun a ha W hW => ?_); have g9 : a.tmps[9]? = some _ := (ha 9 rfl).trans rfl; clear ha; obtain ⟨c0, c1, c2, c3, c4, c5, c6, c7, c8, c9, c10, c11, c12, c13, c14, c15, c16, c17, c18, c19, c20, c21, c22, z0, z1, z2, z3, z4⟩ := PK.out _ hW; go_simp; first  | (refine yield1_value ?_ hW; exact rfl))
          refine detSteps_cons ?_ ?_
          · (refine det_run [85, 86] (by kernel_rfl) (by rfl) (fun a ha W hW => ?_); have g85 : a.tmps[85]? = some _ := (ha 85 rfl).trans rfl; have g86 : a.tmps[86]? = some _ := (ha 86 rfl).trans rfl; clear ha; go_simp; (refine yield1_enter ?_; go_at_call 23; (with_reducible refine (D6.out _).mono ?_); rintro e w1 ⟨rfl, hb1⟩; (refine And.intro ?_ (stepA hW hb1)); exact rfl))
          refine detSteps_cons ?_ ?_
          · (refine det_run [84, 87] (by kernel_rfl) (by rfl) (fun a ha W hW => ?_); have g84 : a.tmps[84]? = some _ := (ha 84 rfl).trans rfl; have g87 : a.tmps[87]? = some _ := (ha 87 rfl).trans rfl; clear ha; go_simp; first  | (refine yield1_value ?_ hW; exact rfl))
          refine detSteps_cons ?_ ?_
          · (refine det_run [81, 88] (by kernel_rfl) (by rfl) (fun a ha W hW => ?_); have g81 : a.tmps[81]? = some _ := (ha 81 rfl).trans rfl; have g88 : a.tmps[88]? = some _ := (ha 88 rfl).trans rfl; clear ha; go_simp; first  | (refine yield1_value ?_ hW; exact rfl))
          refine detSteps_cons ?_ ?_
          · (refine det_run [89] (by kernel_rfl) (by rfl) (fun a ha W hW => ?_); have g89 : a.tmps[89]? = some _ := (ha 89 rfl).trans rfl; clear ha; go_simp; first  | (refine yield1_value ?_ hW; exact rfl))
          refine detSteps_cons ?_ ?_
          · (refine det_run [8] (by kernel_rfl) (by rfl) (fun a ha W hW => ?_); have g8 : a.tmps[8]? = some _ := (ha 8 rfl).trans rfl; clear ha; obtain ⟨c0, c1, c2, c3, c4, c5, c6, c7, c8, c9, c10, c11, c12, c13, c14, c15, c16, c17, c18, c19, c20, c21, c22, z0, z1, z2, z3, z4⟩ := PK.out _ hW; go_simp; first  | (refine yield1_value ?_ hW; exact rfl))
          refine detSteps_cons ?_ ?_
          · (refine det_run [9] (by kernel_rfl) (by rfl) (fun a ha W hW => ?_); have g9 : a.tmps[9]? = some _ := (ha 9 rfl).trans rfl; clear ha; obtain ⟨c0, c1, c2, c3, c4, c5, c6, c7, c8, c9, c10, c11, c12, c13, c14, c15, c16, c17, c18, c19, c20, c21, c22, z0, z1, z2, z3, z4⟩ := PK.out _ hW; go_simp; first  | (refine yield1_value ?_ hW; exact rfl))
          refine detSteps_cons ?_ ?_
          · (refine det_run [91, 92] (by kernel_rfl) (by rfl) (fun a ha W hW => ?_); have g91 : a.tmps[91]? = some _ := (ha 91 rfl).trans rfl; have g92 : a.tmps[92]? = some _ := (ha 92 rfl).trans rfl; clear ha; go_simp; (refine yield1_enter ?_; go_at_call 24; (with_reducible refine (C7.out _).mono ?_); rintro e w1 ⟨rfl, hb1⟩; (refine And.intro ?_ (stepA hW hb1)); exact rfl))
          refine detSteps_cons ?_ ?_
          · (refine det_run [8] (by kernel_rfl) (by rfl) (fun a ha W hW => ?_); have g8 : a.tmps[8]? = some _ := (ha 8 rfl).trans rfl; clear ha; obtain ⟨c0, c1, c2, c3, c4, c5, c6, c7, c8, c9, c10, c11, c12, c13, c14, c15, c16, c17, c18, c19, c20, c21, c22, z0, z1, z2, z3, z4⟩ := PK.out _ hW; go_simp; first  | (refine yield1_value ?_ hW; exact rfl))
          refine detSteps_cons ?_ ?_
          · (refine det_run [9] (by kernel_rfl) (by rfl) (fun a ha W hW => ?_); have g9 : a.tmps[9]? = some _ := (ha 9 rfl).trans rfl; clear ha; obtain ⟨c0, c1, c2, c3, c4, c5, c6, c7, c8, c9, c10, c11, c12, c13, c14, c15, c16, c17, c18, c19, c20, c21, c22, z0, z1, z2, z3, z4⟩ := PK.out _ hW; go_simp; first  | (refine yield1_value ?_ hW; exact rfl))
          refine detSteps_cons ?_ ?_
          · (refine det_run [94, 95] (by kernel_rfl) (by rfl) (fun a ha W hW => ?_); have g94 : a.tmps[94]? = some _ := (ha 94 rfl).trans rfl; have g95 : a.tmps[95]? = some _ := (ha 95 rfl).trans rfl; clear ha; go_simp; (refine yield1_enter ?_; go_at_call 25; (with_reducible refine (D7.out _).mono ?_); rintro e w1 ⟨rfl, hb1⟩; (refine And.intro ?_ (stepA hW hb1)); exact rfl))
          refine detSteps_cons ?_ ?_
          · (refine det_run [93, 96] (by kernel_rfl) (by rfl) (fun a ha W hW => ?_); have g93 : a.tmps[93]? = some _ := (ha 93 rfl).trans rfl; have g96 : a.tmps[96]? = some _ := (ha 96 rfl).trans rfl; clear ha; go_simp; first  | (refine yield1_value ?_ hW; exact rfl))
          refine detSteps_cons ?_ ?_
          · (refine det_run [90, 97] (by kernel_rfl) (by rfl) (fun a ha W hW => ?_); have g90 : a.tmps[90]? = some _ := (ha 90 rfl).trans rfl; have g97 : a.tmps[97]? = some _ := (ha 97 rfl).trans rfl; clear ha; go_simp; first  | (refine yield1_value ?_ hW; exact rfl))
          exact detSteps_nil
        case rest1 =>
          intro w1 hs1
          simp only [putAll, Act.put, List.setIfInBounds_toArray, List.set_cons_zero, List.set_cons_succ]
          go_wp2_with fail
          go_meet
          exact ⟨rfl, hs1⟩
      case rest =>
        obtain ⟨rfl, hs1⟩ := hcut
        have hsz := z4
        try clear hsD
        clear HS; have HS := hidA hs1; clear hs1 c0 c1 c2 c3 c4 c5 c6 c7 c8 c9 c10 c11 c12 c13 c14 c15 c16 c17 c18 c19 c20 c21 c22 z0 z1 z2 z3 z4; obtain ⟨c0, c1, c2, c3, c4, c5, c6, c7, c8, c9, c10, c11, c12, c13, c14, c15, c16, c17, c18, c19, c20, c21, c22, z0, z1, z2, z3, z4⟩ := PK.out _ HS.out
        have PN : Hid (∀ V, Below wc.heap.size wc V → _) := hidA (fun V hV => PK.out V (stepA HS.out hV))
        have BN : Hid (Below w.heap.size w wc) := hidA (B0.out.trans (HS.out.mono B0.out.size))
        have hszN : e < wc.heap.size := by first | assumption | omega
        clear B0 PK HS hsz
        clear c0 c1 c2 c3 c4 c5 c6 c7 c8 c9 c10 c11 c12 c13 c14 c15 c16 c17 c18 c19 c20 c21 c22 z0 z1 z2 z3 z4
        have PK := PN
        have B0 := BN
        have hsz := hszN
        clear PN BN hszN
        have HS : Hid (Below wc.heap.size wc wc) := hidA (Below.refl _ _)
        generalize wc = w0 at *
        obtain ⟨c0, c1, c2, c3, c4, c5, c6, c7, c8, c9, c10, c11, c12, c13, c14, c15, c16, c17, c18, c19, c20, c21, c22, z0, z1, z2, z3, z4⟩ := PK.out _ HS.out
        go_upto_region 9 with (fail)
        refine' wp_region_det (by kernel_rfl) [_, _, _, _, _, _, _, _, _, _, _, _, _, _, _, _] (fun W => Below w0.heap.size w0 W) (by kernel_rfl) HS.out.drew ?steps2 ?rest2
        case steps2 =>
          simp only [putAll, Act.put, List.setIfInBounds_toArray, List.set_cons_zero, List.set_cons_succ]
          refine detSteps_cons ?_ ?_
          · (refine det_run [5] (by kernel_rfl) (by rfl) (fun a ha W hW => ?_); have g5 : a.tmps[5]? = some _ := (ha 5 rfl).trans rfl; clear ha; go_simp; first  | (refine yield1_value ?_ hW; exact rfl))
          refine detSteps_cons ?_ ?_
          · (refine det_run [99] (by kernel_rfl) (by rfl) (fun a ha W hW => ?_); have g99 : a.tmps[99]? = some _ := (ha 99 rfl).trans rfl; clear ha; obtain ⟨c0, c1, c2, c3, c4, c5, c6, c7, c8, c9, c10, c11, c12, c13, c14, c15, c16, c17, c18, c19, c20, c21, c22, z0, z1, z2, z3, z4⟩ := PK.out _ hW; go_simp; first  | (refine yield1_value ?_ hW; exact rfl))
          refine detSteps_cons ?_ ?_
          · (refine det_run [100] (by kernel_rfl) (by rfl) (fun a ha W hW => ?_); have g100 : a.tmps[100]? = some _ := (ha 100 rfl).trans rfl; clear ha; go_simp; first  | (refine yield1_enter ?_; go_at_call 11; (with_reducible refine (W2.out _).mono ?_); rintro e w1 ⟨rfl, rfl⟩; (refine And.intro ?_ hW); exact rfl) | (refine yield1_enter ?_; go_at_call 11; (with_reducible refine (W3.out _).mono ?_); rintro e w1 ⟨rfl, rfl⟩; (refine And.intro ?_ hW); exact rfl) | (refine yield1_value ?_ hW; exact rfl))
          refine detSteps_cons ?_ ?_
          · (refine det_run [5] (by kernel_rfl) (by rfl) (fun a ha W hW => ?_); have g5 : a.tmps[5]? = some _ := (ha 5 rfl).trans rfl; clear ha; go_simp; first  | (refine yield1_value ?_ hW; exact rfl))
          refine detSteps_cons ?_ ?_
          · (refine det_run [102] (by kernel_rfl) (by rfl) (fun a ha W hW => ?_); have g102 : a.tmps[102]? = some _ := (ha 102 rfl).trans rfl; clear ha; obtain ⟨c0, c1, c2, c3, c4, c5, c6, c7, c8, c9, c10, c11, c12, c13, c14, c15, c16, c17, c18, c19, c20, c21, c22, z0, z1, z2, z3, z4⟩ := PK.out _ hW; go_simp; first  | (refine yield1_value ?_ hW; exact rfl))
          refine detSteps_cons ?_ ?_
          · (refine det_run [103] (by kernel_rfl) (by rfl) (fun a ha W hW => ?_); have g103 : a.tmps[103]? = some _ := (ha 103 rfl).trans rfl; clear ha; go_simp; first  | (refine yield1_enter ?_; go_at_call 11; (with_reducible refine (W2.out _).mono ?_); rintro e w1 ⟨rfl, rfl⟩; (refine And.intro ?_ hW); exact rfl) | (refine yield1_enter ?_; go_at_call 11; (with_reducible refine (W3.out _).mono ?_); rintro e w1 ⟨rfl, rfl⟩; (refine And.intro ?_ hW); exact rfl) | (refine yield1_value ?_ hW; exact rfl))
          refine detSteps_cons ?_ ?_
          · (refine det_run [101, 104] (by kernel_rfl) (by rfl) (fun a ha W hW => ?_); have g101 : a.tmps[101]? = some _ := (ha 101 rfl).trans rfl; have g104 : a.tmps[104]? = some _ := (ha 104 rfl).trans rfl; clear ha; go_simp; first  | (refine yield1_enter ?_; go_at_call 11; (with_reducible refine (W2.out _).mono ?_); rintro e w1 ⟨rfl, rfl⟩; (refine And.intro ?_ hW); exact rfl) | (refine yield1_enter ?_; go_at_call 11; (with_reducible refine (W3.out _).mono ?_); rintro e w1 ⟨rfl, rfl⟩; (refine And.intro ?_ hW); exact rfl) | (refine yield1_value ?_ hW; exact rfl))
          refine detSteps_cons ?_ ?_
          · (refine det_run [5] (by kernel_rfl) (by rfl) (fun a ha W hW => ?_); have g5 : a.tmps[5]? = some _ := (ha 5 rfl).trans rfl; clear ha; go_simp; first  | (refine yield1_value ?_ hW; exact rfl))
          refine detSteps_cons ?_ ?_
          · (refine det_run [106] (by kernel_rfl) (by rfl) (fun a ha W hW => ?_); have g106 : a.tmps[106]? = some _ := (ha 106 rfl).trans rfl; clear ha; obtain ⟨c0, c1, c2, c3, c4, c5, c6, c7, c8, c9, c10, c11, c12, c13, c14, c15, c16, c17, c18, c19, c20, c21, c22, z0, z1, z2, z3, z4⟩ := PK.out _ hW; go_simp; first  | (refine yield1_value ?_ hW; exact rfl))
          refine detSteps_cons ?_ ?_
          · (refine det_run [107] (by kernel_rfl) (by rfl) (fun a ha W hW => ?_); have g107 : a.tmps[107]? = some _ := (ha 107 rfl).trans rfl; clear ha; go_simp; first  | (refine yield1_enter ?_; go_at_call 11; (with_reducible refine (W2.out _).mono ?_); rintro e w1 ⟨rfl, rfl⟩; (refine And.intro ?_ hW); exact rfl) | (refine yield1_enter ?_; go_at_call 11; (with_reducible refine (W3.out _).mono ?_); rintro e w1 ⟨rfl, rfl⟩; (refine And.intro ?_ hW); exact rfl) | (refine yield1_value ?_ hW; exact rfl))
          refine detSteps_cons ?_ ?_
          · (refine det_run [5] (by kernel_rfl) (by rfl) (fun a ha W hW => ?_); have g5 : a.tmps[5]? = some _ := (ha 5 rfl).trans rfl; clear ha; go_simp; first  | (refine yield1_value ?_ hW; exact rfl))
          refine detSteps_cons ?_ ?_
          · (refine det_run [109] (by kernel_rfl) (by rfl) (fun a ha W hW => ?_); have g109 : a.tmps[109]? = some _ := (ha 109 rfl).trans rfl; clear ha; obtain ⟨c0, c1, c2, c3, c4, c5, c6, c7, c8, c9, c10, c11, c12, c13, c14, c15, c16, c17, c18, c19, c20, c21, c22, z0, z1, z2, z3, z4⟩ := PK.out _ hW; go_simp; first  | (refine yield1_value ?_ hW; exact rfl))
          refine detSteps_cons ?_ ?_
          · (refine det_run [110] (by kernel_rfl) (by rfl) (fun a ha W hW => ?_); have g110 : a.tmps[110]? = some _ := (ha 110 rfl).trans rfl; clear ha; go_simp; first  | (refine yield1_enter ?_; go_at_call 11; (with_reducible refine (W2.out _).mono ?_); rintro e w1 ⟨rfl, rfl⟩; (refine And.intro ?_ hW); exact rfl) | (refine yield1_enter ?_; go_at_call 11; (with_reducible refine (W3.out _).mono ?_); rintro e w1 ⟨rfl, rfl⟩; (refine And.intro ?_ hW); exact rfl) | (refine yield1_value ?_ hW; exact rfl))
          refine detSteps_cons ?_ ?_
          · (refine det_run [108, 111] (by kernel_rfl) (by rfl) (fun a ha W hW => ?_); have g108 : a.tmps[108]? = some _ := (ha 108 rfl).trans rfl; have g111 : a.tmps[111]? = some _ := (ha 111 rfl).trans rfl; clear ha; go_simp; first  | (refine yield1_enter ?_; go_at_call 11; (with_reducible refine (W2.out _).mono ?_); rintro e w1 ⟨rfl, rfl⟩; (refine And.intro ?_ hW); exact rfl) | (refine yield1_enter ?_; go_at_call 11; (with_reducible refine (W3.out _).mono ?_); rintro e w1 ⟨rfl, rfl⟩; (refine And.intro ?_ hW); exact rfl) | (refine yield1_value ?_ hW; exact rfl))
          refine detSteps_cons ?_ ?_
          · (refine det_run [105] (by kernel_rfl) (by rfl) (fun a ha W hW => ?_); have g105 : a.tmps[105]? = some _ := (ha 105 rfl).trans rfl; clear ha; go_simp; first  | (refine yield1_value ?_ hW; exact rfl))
          refine detSteps_cons ?_ ?_
          · (refine det_run [112] (by kernel_rfl) (by rfl) (fun a ha W hW => ?_); have g112 : a.tmps[112]? = some _ := (ha 112 rfl).trans rfl; clear ha; go_simp; first  | (refine yield1_value ?_ hW; exact rfl))
          exact detSteps_nil
        case rest2 =>
          intro w1 hs1
          simp only [putAll, Act.put, List.setIfInBounds_toArray, List.set_cons_zero, List.set_cons_succ]
          try clear hsD
          clear HS; have HS := hidA hs1; clear hs1 c0 c1 c2 c3 c4 c5 c6 c7 c8 c9 c10 c11 c12 c13 c14 c15 c16 c17 c18 c19 c20 c21 c22 z0 z1 z2 z3 z4; obtain ⟨c0, c1, c2, c3, c4, c5, c6, c7, c8, c9, c10, c11, c12, c13, c14, c15, c16, c17, c18, c19, c20, c21, c22, z0, z1, z2, z3, z4⟩ := PK.out _ HS.out
          have PN : Hid (∀ V, Below w1.heap.size w1 V → _) := hidA (fun V hV => PK.out V (stepA HS.out hV))
          have BN : Hid (Below w.heap.size w w1) := hidA (B0.out.trans (HS.out.mono B0.out.size))
          have hszN : e < w1.heap.size := by first | assumption | omega
          clear B0 PK HS hsz
          clear c0 c1 c2 c3 c4 c5 c6 c7 c8 c9 c10 c11 c12 c13 c14 c15 c16 c17 c18 c19 c20 c21 c22 z0 z1 z2 z3 z4
          have PK := PN
          have B0 := BN
          have hsz := hszN
          clear PN BN hszN
          have HS : Hid (Below w1.heap.size w1 w1) := hidA (Below.refl _ _)
          generalize w1 = w0 at *
          obtain ⟨c0, c1, c2, c3, c4, c5, c6, c7, c8, c9, c10, c11, c12, c13, c14, c15, c16, c17, c18, c19, c20, c21, c22, z0, z1, z2, z3, z4⟩ := PK.out _ HS.out
          rw [LO.out, HI.out]
          have em4 := EM4.out
          go_upto_region 11 with (fail)
          obtain ⟨i, hd⟩ : ∃ d, w0.heap.size = d := ⟨_, rfl⟩
          obtain ⟨w2, hw2⟩ : ∃ w2, w0.alloc (.cells #[.int .i64 lo, .int .i64 hi, .int .i64 rk] 41) = w2 := ⟨_, rfl⟩
          have U : Hid (Below w0.heap.size w0 w2) := hidA (alloc_is hw2)
          have D := row_is hw2
          rw [hw2]
          try rw [hd]
          rw [hd] at D
          clear hw2 hd
          have hs1 := stepA HS.out U.out
          clear U
          clear HS; have HS := hidA hs1; clear hs1 c0 c1 c2 c3 c4 c5 c6 c7 c8 c9 c10 c11 c12 c13 c14 c15 c16 c17 c18 c19 c20 c21 c22 z0 z1 z2 z3 z4; obtain ⟨c0, c1, c2, c3, c4, c5, c6, c7, c8, c9, c10, c11, c12, c13, c14, c15, c16, c17, c18, c19, c20, c21, c22, z0, z1, z2, z3, z4⟩ := PK.out _ HS.out
          have D0 := hidA (D 0 _ rfl)
          have D1 := hidA (D 1 _ rfl)
          have D2 := hidA (D 2 _ rfl)
          clear D
          have N0 := hidA c0
          have N1 := hidA c1
          have N2 := hidA c2
          have N3 := hidA c3
          have N4 := hidA c4
          have N5 := hidA c5
          have P0 := hidA c6
          have P1 := hidA c7
          have P2 := hidA c8
          have P3 := hidA c9
          have P4 := hidA c10
          have Q0 := hidA c11
          have Q1 := hidA c12
          have Q2 := hidA c13
          have Q3 := hidA c14
          have Q4 := hidA c15
          clear c0 c1 c2 c3 c4 c5 c6 c7 c8 c9 c10 c11 c12 c13 c14 c15 c16 c17 c18 c19 c20 c21 c22 z0 z1 z2 z3 z4
          have BW := hidA (B0.out.trans (HS.out.mono B0.out.size))
          have BN : Hid (Below w.heap.size w w2) := hidA BW.out
          have leW : w.heap.size ≤ w2.heap.size := BN.out.size
          clear B0 PK HS
          have PK : Hid (∀ V, Below w2.heap.size w2 V → V.cell? ⟨w.heap.size + 1 + 1, 0, none⟩ = some (.int .i64 n0) ∧ V.cell? ⟨w.heap.size + 1 + 1, 1, none⟩ = some (.int .i64 n1) ∧ V.cell? ⟨w.heap.size + 1 + 1, 2, none⟩ = some (.int .i64 n2) ∧ V.cell? ⟨w.heap.size + 1 + 1, 3, none⟩ = some (.int .i64 n3) ∧ V.cell? ⟨w.heap.size + 1 + 1, 4, none⟩ = some (.int .i64 n4) ∧ V.cell? ⟨w.heap.size + 1 + 1, 5, none⟩ = some (.int .i64 n5) ∧ abF V g a (abF V h b (V.cell? ⟨i, 0, none⟩ = some (.int .i64 lo) ∧ V.cell? ⟨i, 1, none⟩ = some (.int .i64 hi) ∧ V.cell? ⟨i, 2, none⟩ = some (.int .i64 rk) ∧ w.heap.size + 1 + 1 < V.heap.size ∧ g < V.heap.size ∧ h < V.heap.size ∧ i < V.heap.size))) := hidA (fun V hW => ⟨cellA hW N0.out, cellA hW N1.out, cellA hW N2.out, cellA hW N3.out, cellA hW N4.out, cellA hW N5.out, cellA hW P0.out, cellA hW P1.out, cellA hW P2.out, cellA hW P3.out, cellA hW P4.out, cellA hW Q0.out, cellA hW Q1.out, cellA hW Q2.out, cellA hW Q3.out, cellA hW Q4.out, cellA hW D0.out, cellA hW D1.out, cellA hW D2.out, Nat.lt_of_lt_of_le (World.block_lt_of_cell? _ _ N0.out) hW.size, Nat.lt_of_lt_of_le (World.block_lt_of_cell? _ _ P0.out) hW.size, Nat.lt_of_lt_of_le (World.block_lt_of_cell? _ _ Q0.out) hW.size, Nat.lt_of_lt_of_le (World.block_lt_of_cell? _ _ D0.out) hW.size⟩)
          clear N0 N1 N2 N3 N4 N5 P0 P1 P2 P3 P4 Q0 Q1 Q2 Q3 Q4 D0 D1 D2
          have B0 := BN
          clear BN
          have HS : Hid (Below w2.heap.size w2 w2) := hidA (Below.refl _ _)
          generalize w2 = w0 at *
          obtain ⟨c0, c1, c2, c3, c4, c5, c6, c7, c8, c9, c10, c11, c12, c13, c14, c15, c16, c17, c18, z0, z1, z2, z3⟩ := PK.out _ HS.out
          clear BW
          go_cut [134] (fun s W => s = .bool false ∧ Below w0.heap.size w0 W)
          case first =>
            refine' wp_region_det (by kernel_rfl) [_, _, _, _, _, _, _, _, _, _, _, _, _, _, _, _] (fun W => Below w0.heap.size w0 W) (by kernel_rfl) HS.out.drew ?steps3 ?rest3
            case steps3 =>
              simp only [putAll, Act.put, List.setIfInBounds_toArray, List.set_cons_zero, List.set_cons_succ]
              refine detSteps_cons ?_ ?_
              · (refine det_run [14] (by kernel_rfl) (by rfl) (fun a ha W hW => ?_); have g14 : a.tmps[14]? = some _ := (ha 14 rfl).trans rfl; clear ha; obtain ⟨c0, c1, c2, c3, c4, c5, c6, c7, c8, c9, c10, c11, c12, c13, c14, c15, c16, c17, c18, z0, z1, z2, z3⟩ := PK.out _ hW; go_simp; first  | (refine yield1_value ?_ hW; exact rfl))
              refine detSteps_cons ?_ ?_
              · (refine det_run [119] (by kernel_rfl) (by rfl) (fun a ha W hW => ?_); have g119 : a.tmps[119]? = some _ := (ha 119 rfl).trans rfl; clear ha; go_simp; (refine yield1_enter ?_; go_at_call 26; (with_reducible refine (C8.out _).mono ?_); rintro e w1 ⟨rfl, hb1⟩; (refine And.intro ?_ (stepA hW hb1)); exact rfl))
              refine detSteps_cons ?_ ?_
              · (refine det_run [14] (by kernel_rfl) (by rfl) (fun a ha W hW => ?_); have g14 : a.tmps[14]? = some _ := (ha 14 rfl).trans rfl; clear ha; obtain ⟨c0, c1, c2, c3, c4, c5, c6, c7, c8, c9, c10, c11, c12, c13, c14, c15, c16, c17, c18, z0, z1, z2, z3⟩ := PK.out _ hW; go_simp; first  | (refine yield1_value ?_ hW; exact rfl))
              refine detSteps_cons ?_ ?_
              · (refine det_run [121] (by kernel_rfl) (by rfl) (fun a ha W hW => ?_); have g121 : a.tmps[121]? = some _ := (ha 121 rfl).trans rfl; clear ha; go_simp; (refine yield1_enter ?_; go_at_call 27; (with_reducible refine (D8.out _).mono ?_); rintro e w1 ⟨rfl, hb1⟩; (refine And.intro ?_ (stepA hW hb1)); exact rfl))
              refine detSteps_cons ?_ ?_
              · (refine det_run [120, 122] (by kernel_rfl) (by rfl) (fun a ha W hW => ?_); have g120 : a.tmps[120]? = some _ := (ha 120 rfl).trans rfl; have g122 : a.tmps[122]? = some _ := (ha 122 rfl).trans rfl; clear ha; go_simp; first  | (refine yield1_value ?_ hW; exact rfl))
              refine detSteps_cons ?_ ?_
              · (refine det_run [123] (by kernel_rfl) (by rfl) (fun a ha W hW => ?_); have g123 : a.tmps[123]? = some _ := (ha 123 rfl).trans rfl; clear ha; go_simp; first  | (refine yield1_value ?_ hW; exact rfl))
              refine detSteps_cons ?_ ?_
              · (refine det_run [5] (by kernel_rfl) (by rfl) (fun a ha W hW => ?_); have g5 : a.tmps[5]? = some _ := (ha 5 rfl).trans rfl; clear ha; go_simp; first  | (refine yield1_value ?_ hW; exact rfl))
              refine detSteps_cons ?_ ?_
              · (refine det_run [125] (by kernel_rfl) (by rfl) (fun a ha W hW => ?_); have g125 : a.tmps[125]? = some _ := (ha 125 rfl).trans rfl; clear ha; obtain ⟨c0, c1, c2, c3, c4, c5, c6, c7, c8, c9, c10, c11, c12, c13, c14, c15, c16, c17, c18, z0, z1, z2, z3⟩ := PK.out _ hW; go_simp; first  | (refine yield1_value ?_ hW; exact rfl))
              refine detSteps_cons ?_ ?_
              · (refine det_run [126] (by kernel_rfl) (by rfl) (fun a ha W hW => ?_); have g126 : a.tmps[126]? = some _ := (ha 126 rfl).trans rfl; clear ha; go_simp; first  | (refine yield1_value ?_ hW; exact rfl))
              refine detSteps_cons ?_ ?_
              · (refine det_run [127] (by kernel_rfl) (by rfl) (fun a ha W hW => ?_); have g127 : a.tmps[127]? = some _ := (ha 127 rfl).trans rfl; clear ha; go_simp; (refine yield1_enter ?_; go_at_call 28; (with_reducible refine (C9.out _).mono ?_); rintro e w1 ⟨rfl, hb1⟩; (refine And.intro ?_ (stepA hW hb1)); exact rfl))
              refine detSteps_cons ?_ ?_
              · (refine det_run [5] (by kernel_rfl) (by rfl) (fun a ha W hW => ?_); have g5 : a.tmps[5]? = some _ := (ha 5 rfl).trans rfl; clear ha; go_simp; first  | (refine yield1_value ?_ hW; exact rfl))
              refine detSteps_cons ?_ ?_
              · (refine det_run [129] (by kernel_rfl) (by rfl) (fun a ha W hW => ?_); have g129 : a.tmps[129]? = some _ := (ha 129 rfl).trans rfl; clear ha; obtain ⟨c0, c1, c2, c3, c4, c5, c6, c7, c8, c9, c10, c11, c12, c13, c14, c15, c16, c17, c18, z0, z1, z2, z3⟩ := PK.out _ hW; go_simp; first  | (refine yield1_value ?_ hW; exact rfl))
              refine detSteps_cons ?_ ?_
              · (refine det_run [130] (by kernel_rfl) (by rfl) (fun a ha W hW => ?_); have g130 : a.tmps[130]? = some _ := (ha 130 rfl).trans rfl; clear ha; go_simp; first  | (refine yield1_value ?_ hW; exact rfl))
              refine detSteps_cons ?_ ?_
              · (refine det_run [131] (by kernel_rfl) (by rfl) (fun a ha W hW => ?_); have g131 : a.tmps[131]? = some _ := (ha 131 rfl).trans rfl; clear ha; go_simp; (refine yield1_enter ?_; go_at_call 29; (with_reducible refine (D9.out _).mono ?_); rintro e w1 ⟨rfl, hb1⟩; (refine And.intro ?_ (stepA hW hb1)); exact rfl))
              refine detSteps_cons ?_ ?_
              · (refine det_run [128, 132] (by kernel_rfl) (by rfl) (fun a ha W hW => ?_); have g128 : a.tmps[128]? = some _ := (ha 128 rfl).trans rfl; have g132 : a.tmps[132]? = some _ := (ha 132 rfl).trans rfl; clear ha; go_simp; first  | (refine yield1_value ?_ hW; exact rfl))
              refine detSteps_cons ?_ ?_
              · (refine det_run [124, 133] (by kernel_rfl) (by rfl) (fun a ha W hW => ?_); have g124 : a.tmps[124]? = some _ := (ha 124 rfl).trans rfl; have g133 : a.tmps[133]? = some _ := (ha 133 rfl).trans rfl; clear ha; go_simp; first  | (refine yield1_value ?_ hW; exact rfl))
              exact detSteps_nil
            case rest3 =>
              intro w1 hs1
              simp only [putAll, Act.put, List.setIfInBounds_toArray, List.set_cons_zero, List.set_cons_succ]
              go_wp2_with fail
              go_meet
              exact ⟨rfl, hs1⟩
          case rest =>
            obtain ⟨rfl, hs1⟩ := hcut
            have hsz := z3
            try clear hsD
            clear HS; have HS := hidA hs1; clear hs1 c0 c1 c2 c3 c4 c5 c6 c7 c8 c9 c10 c11 c12 c13 c14 c15 c16 c17 c18 z0 z1 z2 z3; obtain ⟨c0, c1, c2, c3, c4, c5, c6, c7, c8, c9, c10, c11, c12, c13, c14, c15, c16, c17, c18, z0, z1, z2, z3⟩ := PK.out _ HS.out
            have PN : Hid (∀ V, Below wc.heap.size wc V → _) := hidA (fun V hV => PK.out V (stepA HS.out hV))
            have BN : Hid (Below w.heap.size w wc) := hidA (B0.out.trans (HS.out.mono B0.out.size))
            have hszN : i < wc.heap.size := by first | assumption | omega
            clear B0 PK HS hsz
            clear c0 c1 c2 c3 c4 c5 c6 c7 c8 c9 c10 c11 c12 c13 c14 c15 c16 c17 c18 z0 z1 z2 z3
            have PK := PN
            have B0 := BN
            have hsz := hszN
            clear PN BN hszN
            have HS : Hid (Below wc.heap.size wc wc) := hidA (Below.refl _ _)
            generalize wc = w0 at *
            obtain ⟨c0, c1, c2, c3, c4, c5, c6, c7, c8, c9, c10, c11, c12, c13, c14, c15, c16, c17, c18, z0, z1, z2, z3⟩ := PK.out _ HS.out
            have leB := B0.out.size
            go_wp2_with fail
            go_loopw [15] (fun s W => ∃ k : Int, -1 ≤ k ∧ k ≤ 13 ∧ s = .int .i64 k ∧ Below w0.heap.size w0 W) (fun s _ => (13 - intOf s).toNat)
            case atStart => exact ⟨-1, by omega, by omega, rfl, HS.out⟩
            case round =>
              obtain ⟨k, k1, k2, rfl, hB⟩ := hrel
              have HR := hidA hB
              clear hB HS
              clear c0 c1 c2 c3 c4 c5 c6 c7 c8 c9 c10 c11 c12 c13 c14 c15 c16 c17 c18 z0 z1 z2 z3
              have HS := HR
              clear HR
              obtain ⟨c0, c1, c2, c3, c4, c5, c6, c7, c8, c9, c10, c11, c12, c13, c14, c15, c16, c17, c18, z0, z1, z2, z3⟩ := PK.out _ HS.out
              by_cases hk : k < 13
              · obtain ⟨p, q, r, s, t, i1, i2, O1, O2, R1, R2, R3, R4⟩ := PACK.out k k1 hk
                go_upto_region 17 with (fail)
                obtain ⟨o, hd⟩ : ∃ d, wr.heap.size = d := ⟨_, rfl⟩
                obtain ⟨w2, hw2⟩ : ∃ w2, wr.alloc (.cells #[.int .i64 a.lo, .int .i64 a.hi, .int .i64 a.m, .int .i64 a.r, .int .i64 a.k, .int .i64 b.lo, .int .i64 b.hi, .int .i64 b.m, .int .i64 b.r, .int .i64 b.k] 44) = w2 := ⟨_, rfl⟩
                have U : Hid (Below wr.heap.size wr w2) := hidA (alloc_is hw2)
                have D := row_is hw2
                rw [hw2]
                try rw [hd]
                rw [hd] at D
                clear hw2 hd
                have hs1 := stepA HS.out U.out
                clear U
                clear HS; have HS := hidA hs1; clear hs1 c0 c1 c2 c3 c4 c5 c6 c7 c8 c9 c10 c11 c12 c13 c14 c15 c16 c17 c18 z0 z1 z2 z3; obtain ⟨c0, c1, c2, c3, c4, c5, c6, c7, c8, c9, c10, c11, c12, c13, c14, c15, c16, c17, c18, z0, z1, z2, z3⟩ := PK.out _ HS.out
                have D0 := hidA (D 0 _ rfl)
                have D1 := hidA (D 1 _ rfl)
                have D2 := hidA (D 2 _ rfl)
                have D3 := hidA (D 3 _ rfl)
                have D4 := hidA (D 4 _ rfl)
                have D5 := hidA (D 5 _ rfl)
                have D6 := hidA (D 6 _ rfl)
                have D7 := hidA (D 7 _ rfl)
                have D8 := hidA (D 8 _ rfl)
                have D9 := hidA (D 9 _ rfl)
                clear D
                have P0 := hidA c6
                have P1 := hidA c7
                have P2 := hidA c8
                have P3 := hidA c9
                have P4 := hidA c10
                have Q0 := hidA c11
                have Q1 := hidA c12
                have Q2 := hidA c13
                have Q3 := hidA c14
                have Q4 := hidA c15
                clear c0 c1 c2 c3 c4 c5 c6 c7 c8 c9 c10 c11 c12 c13 c14 c15 c16 c17 c18 z0 z1 z2 z3
                have BO := HS
                have BW := hidA (B0.out.trans (HS.out.mono B0.out.size))
                have BN : Hid (Below w.heap.size w w2) := hidA BW.out
                have leW : w.heap.size ≤ w2.heap.size := BN.out.size
                clear B0 PK HS
                have PK : Hid (∀ V, Below w2.heap.size w2 V → abF V g a (abF V h b (abF V o a (V.cell? ⟨o, 5, none⟩ = some (.int .i64 b.lo) ∧ V.cell? ⟨o, 6, none⟩ = some (.int .i64 b.hi) ∧ V.cell? ⟨o, 7, none⟩ = some (.int .i64 b.m) ∧ V.cell? ⟨o, 8, none⟩ = some (.int .i64 b.r) ∧ V.cell? ⟨o, 9, none⟩ = some (.int .i64 b.k) ∧ g < V.heap.size ∧ h < V.heap.size ∧ o < V.heap.size)))) := hidA (fun V hW => ⟨cellA hW P0.out, cellA hW P1.out, cellA hW P2.out, cellA hW P3.out, cellA hW P4.out, cellA hW Q0.out, cellA hW Q1.out, cellA hW Q2.out, cellA hW Q3.out, cellA hW Q4.out, cellA hW D0.out, cellA hW D1.out, cellA hW D2.out, cellA hW D3.out, cellA hW D4.out, cellA hW D5.out, cellA hW D6.out, cellA hW D7.out, cellA hW D8.out, cellA hW D9.out, Nat.lt_of_lt_of_le (World.block_lt_of_cell? _ _ P0.out) hW.size, Nat.lt_of_lt_of_le (World.block_lt_of_cell? _ _ Q0.out) hW.size, Nat.lt_of_lt_of_le (World.block_lt_of_cell? _ _ D0.out) hW.size⟩)
                clear P0 P1 P2 P3 P4 Q0 Q1 Q2 Q3 Q4 D0 D1 D2 D3 D4 D5 D6 D7 D8 D9
                have B0 := BN
                clear BN
                have HS : Hid (Below w2.heap.size w2 w2) := hidA (Below.refl _ _)
                generalize w2 = w0 at *
                obtain ⟨c0, c1, c2, c3, c4, c5, c6, c7, c8, c9, c10, c11, c12, c13, c14, c15, c16, c17, c18, c19, z0, z1, z2⟩ := PK.out _ HS.out
                clear BW
                refine' wp_region_det (by kernel_rfl) [_, _, _, _, _, _, _, _, _, _, _, _, _, _, _, _, _, _, _, _, _, _, _, _, _, _, _, _, _] (fun W => Below w0.heap.size w0 W) (by kernel_rfl) HS.out.drew ?steps4 ?rest4
                case steps4 =>
                  simp only [putAll, Act.put, List.setIfInBounds_toArray, List.set_cons_zero, List.set_cons_succ]
                  refine detSteps_cons ?_ ?_
                  · (refine det_run [15] (by kernel_rfl) (by rfl) (fun a ha W hW => ?_); have g15 : a.tmps[15]? = some _ := (ha 15 rfl).trans rfl; clear ha; go_simp; first  | (refine yield1_value ?_ hW; exact rfl))
                  refine detSteps_cons ?_ ?_
                  · (refine det_run [8] (by kernel_rfl) (by rfl) (fun a ha W hW => ?_); have g8 : a.tmps[8]? = some _ := (ha 8 rfl).trans rfl; clear ha; obtain ⟨c0, c1, c2, c3, c4, c5, c6, c7, c8, c9, c10, c11, c12, c13, c14, c15, c16, c17, c18, c19, z0, z1, z2⟩ := PK.out _ hW; go_simp; first  | (refine yield1_value ?_ hW; exact rfl))
                  refine detSteps_cons ?_ ?_
                  · (refine det_run [9] (by kernel_rfl) (by rfl) (fun a ha W hW => ?_); have g9 : a.tmps[9]? = some _ := (ha 9 rfl).trans rfl; clear ha; obtain ⟨c0, c1, c2, c3, c4, c5, c6, c7, c8, c9, c10, c11, c12, c13, c14, c15, c16, c17, c18, c19, z0, z1, z2⟩ := PK.out _ hW; go_simp; first  | (refine yield1_value ?_ hW; exact rfl))
                  refine detSteps_cons ?_ ?_
                  · (refine det_run [142, 143, 144] (by kernel_rfl) (by rfl) (fun a ha W hW => ?_); have g142 : a.tmps[142]? = some _ := (ha 142 rfl).trans rfl; have g143 : a.tmps[143]? = some _ := (ha 143 rfl).trans rfl; have g144 : a.tmps[144]? = some _ := (ha 144 rfl).trans rfl; clear ha; go_simp; (refine yield1_enter ?_; go_at_call 30; (with_reducible refine (O1.out _).mono ?_); rintro e w1 ⟨rfl, hb1⟩; (refine And.intro ?_ (stepA hW hb1)); exact rfl))
                  refine detSteps_cons ?_ ?_
                  · (refine det_run [15] (by kernel_rfl) (by rfl) (fun a ha W hW => ?_); have g15 : a.tmps[15]? = some _ := (ha 15 rfl).trans rfl; clear ha; go_simp; first  | (refine yield1_value ?_ hW; exact rfl))
                  refine detSteps_cons ?_ ?_
                  · (refine det_run [8] (by kernel_rfl) (by rfl) (fun a ha W hW => ?_); have g8 : a.tmps[8]? = some _ := (ha 8 rfl).trans rfl; clear ha; obtain ⟨c0, c1, c2, c3, c4, c5, c6, c7, c8, c9, c10, c11, c12, c13, c14, c15, c16, c17, c18, c19, z0, z1, z2⟩ := PK.out _ hW; go_simp; first  | (refine yield1_value ?_ hW; exact rfl))
                  refine detSteps_cons ?_ ?_
                  · (refine det_run [9] (by kernel_rfl) (by rfl) (fun a ha W hW => ?_); have g9 : a.tmps[9]? = some _ := (ha 9 rfl).trans rfl; clear ha; obtain ⟨c0, c1, c2, c3, c4, c5, c6, c7, c8, c9, c10, c11, c12, c13, c14, c15, c16, c17, c18, c19, z0, z1, z2⟩ := PK.out _ hW; go_simp; first  | (refine yield1_value ?_ hW; exact rfl))
                  refine detSteps_cons ?_ ?_
                  · (refine det_run [146, 147, 148] (by kernel_rfl) (by rfl) (fun a ha W hW => ?_); have g146 : a.tmps[146]? = some _ := (ha 146 rfl).trans rfl; have g147 : a.tmps[147]? = some _ := (ha 147 rfl).trans rfl; have g148 : a.tmps[148]? = some _ := (ha 148 rfl).trans rfl; clear ha; go_simp; (refine yield1_enter ?_; go_at_call 31; (with_reducible refine (O2.out _).mono ?_); rintro e w1 ⟨rfl, hb1⟩; (refine And.intro ?_ (stepA hW hb1)); exact rfl))
                  refine detSteps_cons ?_ ?_
                  · (refine det_run [145, 149] (by kernel_rfl) (by rfl) (fun a ha W hW => ?_); have g145 : a.tmps[145]? = some _ := (ha 145 rfl).trans rfl; have g149 : a.tmps[149]? = some _ := (ha 149 rfl).trans rfl; clear ha; go_simp; first  | (refine yield1_value ?_ hW; exact rfl))
                  refine detSteps_cons ?_ ?_
                  · (refine det_run [150] (by kernel_rfl) (by rfl) (fun a ha W hW => ?_); have g150 : a.tmps[150]? = some _ := (ha 150 rfl).trans rfl; clear ha; go_simp; first  | (refine yield1_value ?_ hW; exact rfl))
                  refine detSteps_cons ?_ ?_
                  · (refine det_run [15] (by kernel_rfl) (by rfl) (fun a ha W hW => ?_); have g15 : a.tmps[15]? = some _ := (ha 15 rfl).trans rfl; clear ha; go_simp; first  | (refine yield1_value ?_ hW; exact rfl))
                  refine detSteps_cons ?_ ?_
                  · (refine det_run [16] (by kernel_rfl) (by rfl) (fun a ha W hW => ?_); have g16 : a.tmps[16]? = some _ := (ha 16 rfl).trans rfl; clear ha; obtain ⟨c0, c1, c2, c3, c4, c5, c6, c7, c8, c9, c10, c11, c12, c13, c14, c15, c16, c17, c18, c19, z0, z1, z2⟩ := PK.out _ hW; go_simp; first  | (refine yield1_value ?_ hW; exact rfl))
                  refine detSteps_cons ?_ ?_
                  · (refine det_run [152, 153] (by kernel_rfl) (by rfl) (fun a ha W hW => ?_); have g152 : a.tmps[152]? = some _ := (ha 152 rfl).trans rfl; have g153 : a.tmps[153]? = some _ := (ha 153 rfl).trans rfl; clear ha; go_simp; (refine yield1_enter ?_; go_at_call 32; (with_reducible refine (R1.out _).mono ?_); rintro e w1 ⟨rfl, hb1⟩; (refine And.intro ?_ (stepA hW hb1)); exact rfl))
                  refine detSteps_cons ?_ ?_
                  · (refine det_run [15] (by kernel_rfl) (by rfl) (fun a ha W hW => ?_); have g15 : a.tmps[15]? = some _ := (ha 15 rfl).trans rfl; clear ha; go_simp; first  | (refine yield1_value ?_ hW; exact rfl))
                  refine detSteps_cons ?_ ?_
                  · (refine det_run [8] (by kernel_rfl) (by rfl) (fun a ha W hW => ?_); have g8 : a.tmps[8]? = some _ := (ha 8 rfl).trans rfl; clear ha; obtain ⟨c0, c1, c2, c3, c4, c5, c6, c7, c8, c9, c10, c11, c12, c13, c14, c15, c16, c17, c18, c19, z0, z1, z2⟩ := PK.out _ hW; go_simp; first  | (refine yield1_value ?_ hW; exact rfl))
                  refine detSteps_cons ?_ ?_
                  · (refine det_run [9] (by kernel_rfl) (by rfl) (fun a ha W hW => ?_); have g9 : a.tmps[9]? = some _ := (ha 9 rfl).trans rfl; clear ha; obtain ⟨c0, c1, c2, c3, c4, c5, c6, c7, c8, c9, c10, c11, c12, c13, c14, c15, c16, c17, c18, c19, z0, z1, z2⟩ := PK.out _ hW; go_simp; first  | (refine yield1_value ?_ hW; exact rfl))
                  refine detSteps_cons ?_ ?_
                  · (refine det_run [155, 156, 157] (by kernel_rfl) (by rfl) (fun a ha W hW => ?_); have g155 : a.tmps[155]? = some _ := (ha 155 rfl).trans rfl; have g156 : a.tmps[156]? = some _ := (ha 156 rfl).trans rfl; have g157 : a.tmps[157]? = some _ := (ha 157 rfl).trans rfl; clear ha; go_simp; (refine yield1_enter ?_; go_at_call 33; (with_reducible refine (R2.out _).mono ?_); rintro e w1 ⟨rfl, hb1⟩; (refine And.intro ?_ (stepA hW hb1)); exact rfl))
                  refine detSteps_cons ?_ ?_
                  · (refine det_run [154, 158] (by kernel_rfl) (by rfl) (fun a ha W hW => ?_); have g154 : a.tmps[154]? = some _ := (ha 154 rfl).trans rfl; have g158 : a.tmps[158]? = some _ := (ha 158 rfl).trans rfl; clear ha; go_simp; first  | (refine yield1_value ?_ hW; exact rfl))
                  refine detSteps_cons ?_ ?_
                  · (refine det_run [151, 159] (by kernel_rfl) (by rfl) (fun a ha W hW => ?_); have g151 : a.tmps[151]? = some _ := (ha 151 rfl).trans rfl; have g159 : a.tmps[159]? = some _ := (ha 159 rfl).trans rfl; clear ha; go_simp; first  | (refine yield1_value ?_ hW; exact rfl))
                  refine detSteps_cons ?_ ?_
                  · (refine det_run [160] (by kernel_rfl) (by rfl) (fun a ha W hW => ?_); have g160 : a.tmps[160]? = some _ := (ha 160 rfl).trans rfl; clear ha; go_simp; first  | (refine yield1_value ?_ hW; exact rfl))
                  refine detSteps_cons ?_ ?_
                  · (refine det_run [15] (by kernel_rfl) (by rfl) (fun a ha W hW => ?_); have g15 : a.tmps[15]? = some _ := (ha 15 rfl).trans rfl; clear ha; go_simp; first  | (refine yield1_value ?_ hW; exact rfl))
                  refine detSteps_cons ?_ ?_
                  · (refine det_run [16] (by kernel_rfl) (by rfl) (fun a ha W hW => ?_); have g16 : a.tmps[16]? = some _ := (ha 16 rfl).trans rfl; clear ha; obtain ⟨c0, c1, c2, c3, c4, c5, c6, c7, c8, c9, c10, c11, c12, c13, c14, c15, c16, c17, c18, c19, z0, z1, z2⟩ := PK.out _ hW; go_simp; first  | (refine yield1_value ?_ hW; exact rfl))
                  refine detSteps_cons ?_ ?_
                  · (refine det_run [162, 163] (by kernel_rfl) (by rfl) (fun a ha W hW => ?_); have g162 : a.tmps[162]? = some _ := (ha 162 rfl).trans rfl; have g163 : a.tmps[163]? = some _ := (ha 163 rfl).trans rfl; clear ha; go_simp; (refine yield1_enter ?_; go_at_call 32; (with_reducible refine (R3.out _).mono ?_); rintro e w1 ⟨rfl, hb1⟩; (refine And.intro ?_ (stepA hW hb1)); exact rfl))
                  refine detSteps_cons ?_ ?_
                  · (refine det_run [15] (by kernel_rfl) (by rfl) (fun a ha W hW => ?_); have g15 : a.tmps[15]? = some _ := (ha 15 rfl).trans rfl; clear ha; go_simp; first  | (refine yield1_value ?_ hW; exact rfl))
                  refine detSteps_cons ?_ ?_
                  · (refine det_run [8] (by kernel_rfl) (by rfl) (fun a ha W hW => ?_); have g8 : a.tmps[8]? = some _ := (ha 8 rfl).trans rfl; clear ha; obtain ⟨c0, c1, c2, c3, c4, c5, c6, c7, c8, c9, c10, c11, c12, c13, c14, c15, c16, c17, c18, c19, z0, z1, z2⟩ := PK.out _ hW; go_simp; first  | (refine yield1_value ?_ hW; exact rfl))
                  refine detSteps_cons ?_ ?_
                  · (refine det_run [9] (by kernel_rfl) (by rfl) (fun a ha W hW => ?_); have g9 : a.tmps[9]? = some _ := (ha 9 rfl).trans rfl; clear ha; obtain ⟨c0, c1, c2, c3, c4, c5, c6, c7, c8, c9, c10, c11, c12, c13, c14, c15, c16, c17, c18, c19, z0, z1, z2⟩ := PK.out _ hW; go_simp; first  | (refine yield1_value ?_ hW; exact rfl))
                  refine detSteps_cons ?_ ?_
                  · (refine det_run [165, 166, 167] (by kernel_rfl) (by rfl) (fun a ha W hW => ?_); have g165 : a.tmps[165]? = some _ := (ha 165 rfl).trans rfl; have g166 : a.tmps[166]? = some _ := (ha 166 rfl).trans rfl; have g167 : a.tmps[167]? = some _ := (ha 167 rfl).trans rfl; clear ha; go_simp; (refine yield1_enter ?_; go_at_call 33; (with_reducible refine (R4.out _).mono ?_); rintro e w1 ⟨rfl, hb1⟩; (refine And.intro ?_ (stepA hW hb1)); exact rfl))
                  refine detSteps_cons ?_ ?_
                  · (refine det_run [164, 168] (by kernel_rfl) (by rfl) (fun a ha W hW => ?_); have g164 : a.tmps[164]? = some _ := (ha 164 rfl).trans rfl; have g168 : a.tmps[168]? = some _ := (ha 168 rfl).trans rfl; clear ha; go_simp; first  | (refine yield1_value ?_ hW; exact rfl))
                  refine detSteps_cons ?_ ?_
                  · (refine det_run [161, 169] (by kernel_rfl) (by rfl) (fun a ha W hW => ?_); have g161 : a.tmps[161]? = some _ := (ha 161 rfl).trans rfl; have g169 : a.tmps[169]? = some _ := (ha 169 rfl).trans rfl; clear ha; go_simp; first  | (refine yield1_value ?_ hW; exact rfl))
                  exact detSteps_nil
                case rest4 =>
                  intro w1 hs1
                  simp only [putAll, Act.put, List.setIfInBounds_toArray, List.set_cons_zero, List.set_cons_succ]
                  go_wp2
                  go_roundw
                  case rel => exact ⟨k + 1, by omega, by omega, rfl, stepA BO.out hs1⟩
                  case measure => simp [intOf]; omega
              · have hk11 : k = 13 := by omega
                subst hk11
                go_upto_region 19 with (fail)
                refine' wp_region_det (by kernel_rfl) [_, _, _, _, _, _, _, _, _, _, _, _, _, _, _] (fun W => Below w0.heap.size w0 W) (by kernel_rfl) HS.out.drew ?steps5 ?rest5
                case steps5 =>
                  simp only [putAll, Act.put, List.setIfInBounds_toArray, List.set_cons_zero, List.set_cons_succ]
                  refine detSteps_cons ?_ ?_
                  · (refine det_run [5] (by kernel_rfl) (by rfl) (fun a ha W hW => ?_); have g5 : a.tmps[5]? = some _ := (ha 5 rfl).trans rfl; clear ha; go_simp; first  | (refine yield1_value ?_ hW; exact rfl))
                  refine detSteps_cons ?_ ?_
                  · (refine det_run [171] (by kernel_rfl) (by rfl) (fun a ha W hW => ?_); have g171 : a.tmps[171]? = some _ := (ha 171 rfl).trans rfl; clear ha; obtain ⟨c0, c1, c2, c3, c4, c5, c6, c7, c8, c9, c10, c11, c12, c13, c14, c15, c16, c17, c18, z0, z1, z2, z3⟩ := PK.out _ hW; go_simp; first  | (refine yield1_value ?_ hW; exact rfl))
                  refine detSteps_cons ?_ ?_
                  · (refine det_run [8] (by kernel_rfl) (by rfl) (fun a ha W hW => ?_); have g8 : a.tmps[8]? = some _ := (ha 8 rfl).trans rfl; clear ha; obtain ⟨c0, c1, c2, c3, c4, c5, c6, c7, c8, c9, c10, c11, c12, c13, c14, c15, c16, c17, c18, z0, z1, z2, z3⟩ := PK.out _ hW; go_simp; first  | (refine yield1_value ?_ hW; exact rfl))
                  refine detSteps_cons ?_ ?_
                  · (refine det_run [9] (by kernel_rfl) (by rfl) (fun a ha W hW => ?_); have g9 : a.tmps[9]? = some _ := (ha 9 rfl).trans rfl; clear ha; obtain ⟨c0, c1, c2, c3, c4, c5, c6, c7, c8, c9, c10, c11, c12, c13, c14, c15, c16, c17, c18, z0, z1, z2, z3⟩ := PK.out _ hW; go_simp; first  | (refine yield1_value ?_ hW; exact rfl))
                  refine detSteps_cons ?_ ?_
                  · (refine det_run [172, 173, 174] (by kernel_rfl) (by rfl) (fun a ha W hW => ?_); have g172 : a.tmps[172]? = some _ := (ha 172 rfl).trans rfl; have g173 : a.tmps[173]? = some _ := (ha 173 rfl).trans rfl; have g174 : a.tmps[174]? = some _ := (ha 174 rfl).trans rfl; clear ha; go_simp; first  | (refine yield1_enter ?_; go_at_call 30; (with_reducible refine (C10.out _).mono ?_); rintro e w1 ⟨rfl, hb1⟩; (refine And.intro ?_ (stepA hW hb1)); exact rfl) | (refine yield1_enter ?_; go_at_call 31; (with_reducible refine (D10.out _).mono ?_); rintro e w1 ⟨rfl, hb1⟩; (refine And.intro ?_ (stepA hW hb1)); exact rfl) | (refine yield1_value ?_ hW; exact rfl))
                  refine detSteps_cons ?_ ?_
                  · (refine det_run [5] (by kernel_rfl) (by rfl) (fun a ha W hW => ?_); have g5 : a.tmps[5]? = some _ := (ha 5 rfl).trans rfl; clear ha; go_simp; first  | (refine yield1_value ?_ hW; exact rfl))
                  refine detSteps_cons ?_ ?_
                  · (refine det_run [176] (by kernel_rfl) (by rfl) (fun a ha W hW => ?_); have g176 : a.tmps[176]? = some _ := (ha 176 rfl).trans rfl; clear ha; obtain ⟨c0, c1, c2, c3, c4, c5, c6, c7, c8, c9, c10, c11, c12, c13, c14, c15, c16, c17, c18, z0, z1, z2, z3⟩ := PK.out _ hW; go_simp; first  | (refine yield1_value ?_ hW; exact rfl))
                  refine detSteps_cons ?_ ?_
                  · (refine det_run [8] (by kernel_rfl) (by rfl) (fun a ha W hW => ?_); have g8 : a.tmps[8]? = some _ := (ha 8 rfl).trans rfl; clear ha; obtain ⟨c0, c1, c2, c3, c4, c5, c6, c7, c8, c9, c10, c11, c12, c13, c14, c15, c16, c17, c18, z0, z1, z2, z3⟩ := PK.out _ hW; go_simp; first  | (refine yield1_value ?_ hW; exact rfl))
                  refine detSteps_cons ?_ ?_
                  · (refine det_run [9] (by kernel_rfl) (by rfl) (fun a ha W hW => ?_); have g9 : a.tmps[9]? = some _ := (ha 9 rfl).trans rfl; clear ha; obtain ⟨c0, c1, c2, c3, c4, c5, c6, c7, c8, c9, c10, c11, c12, c13, c14, c15, c16, c17, c18, z0, z1, z2, z3⟩ := PK.out _ hW; go_simp; first  | (refine yield1_value ?_ hW; exact rfl))
                  refine detSteps_cons ?_ ?_
                  · (refine det_run [177, 178, 179] (by kernel_rfl) (by rfl) (fun a ha W hW => ?_); have g177 : a.tmps[177]? = some _ := (ha 177 rfl).trans rfl; have g178 : a.tmps[178]? = some _ := (ha 178 rfl).trans rfl; have g179 : a.tmps[179]? = some _ := (ha 179 rfl).trans rfl; clear ha; go_simp; first  | (refine yield1_enter ?_; go_at_call 30; (with_reducible refine (C10.out _).mono ?_); rintro e w1 ⟨rfl, hb1⟩; (refine And.intro ?_ (stepA hW hb1)); exact rfl) | (refine yield1_enter ?_; go_at_call 31; (with_reducible refine (D10.out _).mono ?_); rintro e w1 ⟨rfl, hb1⟩; (refine And.intro ?_ (stepA hW hb1)); exact rfl) | (refine yield1_value ?_ hW; exact rfl))
                  refine detSteps_cons ?_ ?_
                  · (refine det_run [175, 180] (by kernel_rfl) (by rfl) (fun a ha W hW => ?_); have g175 : a.tmps[175]? = some _ := (ha 175 rfl).trans rfl; have g180 : a.tmps[180]? = some _ := (ha 180 rfl).trans rfl; clear ha; go_simp; first  | (refine yield1_value ?_ hW; exact rfl))
                  refine detSteps_cons ?_ ?_
                  · (refine det_run [181] (by kernel_rfl) (by rfl) (fun a ha W hW => ?_); have g181 : a.tmps[181]? = some _ := (ha 181 rfl).trans rfl; clear ha; go_simp; first  | (refine yield1_value ?_ hW; exact rfl))
                  refine detSteps_cons ?_ ?_
                  · (refine det_run [7] (by kernel_rfl) (by rfl) (fun a ha W hW => ?_); have g7 : a.tmps[7]? = some _ := (ha 7 rfl).trans rfl; clear ha; go_simp; first  | (refine yield1_value ?_ hW; exact rfl))
                  refine detSteps_cons ?_ ?_
                  · (refine det_run [182, 183] (by kernel_rfl) (by rfl) (fun a ha W hW => ?_); have g182 : a.tmps[182]? = some _ := (ha 182 rfl).trans rfl; have g183 : a.tmps[183]? = some _ := (ha 183 rfl).trans rfl; clear ha; go_simp; first  | (refine yield1_value ?_ hW; exact rfl))
                  refine detSteps_cons ?_ ?_
                  · (refine det_run [184] (by kernel_rfl) (by rfl) (fun a ha W hW => ?_); have g184 : a.tmps[184]? = some _ := (ha 184 rfl).trans rfl; clear ha; go_simp; first  | (refine yield1_value ?_ hW; exact rfl))
                  exact detSteps_nil
                case rest5 =>
                  intro w1 hs1
                  simp only [putAll, Act.put, List.setIfInBounds_toArray, List.set_cons_zero, List.set_cons_succ]
                  go_wp2
                  go_ret
                  exact ⟨rfl, (by repeat (first | with_reducible exact Below.refl _ _ | with_reducible exact hs1 | with_reducible exact B0.out | with_reducible refine Below.setCell ?_ (by first | omega | (dsimp only; omega) | (simp; done) | (simp; omega)) _ | with_reducible refine Below.alloc ?_ (by first | omega | (dsimp only; omega) | (simp; done) | (simp; omega)) _ | with_reducible refine Below.drew ?_ | with_reducible refine drewnA ?_ _ | with_reducible refine Below.trans ?_ (hs1.mono (by first | omega | (dsimp only; omega) | (simp; done) | (simp; omega))) | with_reducible refine Below.trans ?_ (B0.out.mono (by first | omega | (dsimp only; omega) | (simp; done) | (simp; omega)))))⟩
end Go.Proofs.Ytdopjadlbhacfaa

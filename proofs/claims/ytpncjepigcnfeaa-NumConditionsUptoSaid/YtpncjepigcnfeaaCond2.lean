/-
  The law NumConditions of package num holds: a condition and its negation do not hold at the same time; and, or and not obey De Morgan; what is not less is at least as great.
  Condition: the arguments hold together at most 1048576 values (without it a condition that is 2^63 deep, too great for any machine, is against it: its depth and one more is no integer of 64 bits).
-/
import Derived.Test.YtpncjepigcnfeaaNot
import Derived.Test.YtpncjepigcnfeaaDepc
import Derived.Test.YtpncjepigcnfeaaSizc
import Derived.Test.YtpncjepigcnfeaaOpen
import Derived.Test.YtpncjepigcnfeaaDb
import Derived.Test.YtpncjepigcnfeaaPl
import Derived.JoinedCond
import Derived.Deep.RegionHeld3
import Derived.BigRegion
namespace Go.Proofs.Ytpncjepigcnfeaa
open Go.ChangeShapes Go.WideShapes Go.ChangeAt Go.RowKit
set_option linter.unusedVariables false

theorem hold_not (V L : List Int) (t : Cd) : holdsC V L (.mk 5 [] [t]) = !holdsC V L t := by
  rw [holdsC]; simp [holdsCs]
theorem hold_and (V L : List Int) (t u : Cd) : holdsC V L (.mk 6 [] [t, u]) = (holdsC V L t && holdsC V L u) := by
  rw [holdsC]; simp [holdsCs]
theorem hold_or (V L : List Int) (t u : Cd) : holdsC V L (.mk 7 [] [t, u]) = (holdsC V L t || holdsC V L u) := by
  rw [holdsC]; simp [holdsCs]
theorem depth_not (t : Cd) : depthC (.mk 5 [] [t]) = wrap64 (max 0 (depthC t) + 1) := by
  rw [depthC]; simp [depthsC, depthsE, maxL, eN, cN]

theorem le_in {w' : World} {n : Nat} {o0 n0 v0 o1 n1 v1 : Int} {f0 f1 : Option Addr} {ln0 cp0 ln1 cp1 : Nat} {e0 e1 : Ex} (c0 : w'.cell? ⟨n, 0, none⟩ = some (.int .i64 o1)) (c1 : w'.cell? ⟨n, 1, none⟩ = some (.int .i64 n1)) (c2 : w'.cell? ⟨n, 2, none⟩ = some (.int .i64 v1))
    (c3 : w'.cell? ⟨n, 3, none⟩ = some (.slice f1 ln1 cp1)) (c4 : w'.cell? ⟨n, 4, none⟩ = some (.int .i64 o0)) (c5 : w'.cell? ⟨n, 5, none⟩ = some (.int .i64 n0)) (c6 : w'.cell? ⟨n, 6, none⟩ = some (.int .i64 v0)) (c7 : w'.cell? ⟨n, 7, none⟩ = some (.slice f0 ln0 cp0))
    (h1 : exIn w' e1 (.agg #[.int .i64 o1, .int .i64 n1, .int .i64 v1, .slice f1 ln1 cp1])) (h0 : exIn w' e0 (.agg #[.int .i64 o0, .int .i64 n0, .int .i64 v0, .slice f0 ln0 cp0])) :
    cdIn w' (.mk 3 [e1, e0] []) (.agg #[.int .i64 3, .slice (some ⟨n, 0, none⟩) 2 2, .slice none 0 0]) := by
  rw [cdIn]
  refine ⟨_, none, 2, 0, rfl, Nat.le_refl _, by omega, ?_, Nat.le_refl _, by omega, by rw [cdsIn]; trivial⟩
  rw [exsIn, exsIn, exsIn]
  exact ⟨⟨_, 0, _, _, _, _, rfl, c0, c1, c2, c3, h1⟩, ⟨_, 0, _, _, _, _, rfl, c4, c5, c6, c7, h0⟩, trivial⟩

theorem cd_parts {w : World} {o' : Int} {t : Cd} {a1 a2 : Option Addr} {l1 c1 l2 c2 : Nat} (h : cdIn w t (.agg #[.int .i64 o', .slice a1 l1 c1, .slice a2 l2 c2])) :
    ∃ l r, t = .mk o' l r ∧ l.length = l1 ∧ exsIn w l a1 0 := by
  obtain ⟨o, l, r⟩ := t
  rw [cdIn] at h
  obtain ⟨oa, ob, ca, cb, h1, -, -, h2, -⟩ := h
  simp only [Value.agg.injEq, Array.mk.injEq, List.cons.injEq, Value.int.injEq, Value.slice.injEq, and_true, true_and] at h1
  obtain ⟨rfl, ⟨rfl, rfl, rfl⟩, -⟩ := h1
  exact ⟨l, r, rfl, rfl, h2⟩

theorem hold_lt (V L : List Int) (a b : Ex) (r : List Ex) (q : List Cd) : holdsC V L (.mk 2 (a :: b :: r) q) = decide (evalE V L a < evalE V L b) := by
  rw [holdsC, if_neg (by omega), if_pos rfl]; simp [evalsE]
theorem hold_le (V L : List Int) (a b : Ex) (r : List Ex) (q : List Cd) : holdsC V L (.mk 3 (a :: b :: r) q) = decide (evalE V L a ≤ evalE V L b) := by
  rw [holdsC, if_neg (by omega), if_neg (by omega), if_pos rfl]; simp [evalsE]
theorem hold_le_lt (V L : List Int) (a b : Ex) (r : List Ex) (q : List Cd) (x : Bool) (h : holdsC V L (.mk 2 (a :: b :: r) q) = x) : holdsC V L (.mk 3 [b, a] []) = !x := by
  rw [hold_lt] at h
  rw [hold_le, ← h]
  by_cases h1 : evalE V L a < evalE V L b
  · rw [decide_eq_true h1]; simp; omega
  · rw [decide_eq_false h1]; simp; omega

set_option maxRecDepth 100000 in
set_option maxHeartbeats 20000000 in
theorem cond_walk (t u : Cd) (V : List Int) (o p : Int) (a1 a2 b1 b2 : Option Addr) (l1 c1 l2 c2 m1 d1 m2 d2 : Nat) (va : Option Addr) (vc : Nat) (w : World)
    (ht : cdIn w t (.agg #[.int .i64 o, .slice a1 l1 c1, .slice a2 l2 c2])) (hu : cdIn w u (.agg #[.int .i64 p, .slice b1 m1 d1, .slice b2 m2 d2])) (hv : intsIn w V (.slice va V.length vc)) (hd1 : 1 ≤ depthC t) (hd2 : depthC t ≤ 4194304) :
    Calls Try.prog 7 #[.agg #[.int .i64 o, .slice a1 l1 c1, .slice a2 l2 c2], .agg #[.int .i64 p, .slice b1 m1 d1, .slice b2 m2 d2], .slice va V.length vc] w fun e w' => e = .returned (.bool true) ∧ Below w.heap.size w w' := by
  obtain ⟨lA, rA, htd, hl1, hAx⟩ := cd_parts ht
  have Htd := hid htd; clear htd
  obtain ⟨w0, hw0⟩ : ∃ w0, (w.alloc (.cells #[.int .i64 o, .slice a1 l1 c1, .slice a2 l2 c2] 27)).alloc (.cells #[.int .i64 p, .slice b1 m1 d1, .slice b2 m2 d2] 27) = w0 := ⟨_, rfl⟩
  have hb0 : Below w.heap.size w w0 := by rw [← hw0]; exact ((Below.refl _ _).alloc (Nat.le_refl _) _).alloc (by simp) _
  have g0 : w0.cell? ⟨w.heap.size, 0, none⟩ = some (.int .i64 o) := by rw [← hw0]; simp [go_sem]
  have g1 : w0.cell? ⟨w.heap.size, 1, none⟩ = some (.slice a1 l1 c1) := by rw [← hw0]; simp [go_sem]
  have g2 : w0.cell? ⟨w.heap.size, 2, none⟩ = some (.slice a2 l2 c2) := by rw [← hw0]; simp [go_sem]
  have g3 : w0.cell? ⟨w.heap.size + 1, 0, none⟩ = some (.int .i64 p) := by rw [← hw0]; simp [go_sem]
  have g4 : w0.cell? ⟨w.heap.size + 1, 1, none⟩ = some (.slice b1 m1 d1) := by rw [← hw0]; simp [go_sem]
  have g5 : w0.cell? ⟨w.heap.size + 1, 2, none⟩ = some (.slice b2 m2 d2) := by rw [← hw0]; simp [go_sem]
  have hlt0 : w.heap.size + 1 < w0.heap.size := by rw [← hw0]; simp
  have A0 := hid (exsIn_below hb0 _ _ _ hAx)
  clear hAx
  have Hl1 := hid hl1; clear hl1
  have T0 := hid (cdIn_below hb0 _ _ ht)
  have U0 := hid (cdIn_below hb0 _ _ hu)
  have V0 := hid (intsIn_below hb0 hv)
  have G0 := hid g0
  have G1 := hid g1
  have G2 := hid g2
  have G3 := hid g3
  have G4 := hid g4
  have G5 := hid g5
  have B0 := hid hb0
  clear ht hu hv g0 g1 g2 g3 g4 g5 hb0
  have Hw := hid hw0; clear hw0
  obtain ⟨vn, hvn⟩ : ∃ n, V.length = n := ⟨_, rfl⟩
  rw [hvn] at V0 ⊢
  clear hvn
  obtain ⟨d, hd⟩ : ∃ d, depthC t = d := ⟨_, rfl⟩
  rw [hd] at hd1 hd2
  have Hd := hid hd; clear hd
  have Hdn : Hid (depthC (.mk 5 [] [t]) = d + 1) := by
    have h : depthC (.mk 5 [] [t]) = d + 1 := by rw [depth_not, Hd.out]; unfold wrap64; omega
    exact hid h
  obtain ⟨x, hx⟩ : ∃ x, holdsC V [] t = x := ⟨_, rfl⟩
  obtain ⟨y, hy⟩ : ∃ y, holdsC V [] u = y := ⟨_, rfl⟩
  have Hx := hid hx; clear hx
  have Hy := hid hy; clear hy
  go_enter Try.func7, Try.ntmps7
  go_wp2_with fail
  rw [Hw.out]
  refine (examples_any _).mono ?_
  rintro e w1 ⟨rfl, hb⟩
  have B1 := hid hb
  have g0 := cell_below hb G0.out
  have g1 := cell_below hb G1.out
  have g2 := cell_below hb G2.out
  clear hb
  go_wp2_with fail
  refine (sizec_any t _ _ (cdIn_below B1.out _ _ T0.out)).mono ?_
  rintro e w2 ⟨z1, rfl, hb⟩
  have B2 := hid (below_step B1.out hb)
  clear hb g0 g1 g2
  by_cases hz1 : 200 < z1
  · go_wp2
    go_ret
    exact ⟨rfl, below_step B0.out B2.out⟩
  have g3 := cell_below B2.out G3.out
  have g4 := cell_below B2.out G4.out
  have g5 := cell_below B2.out G5.out
  go_wp2_with fail
  refine (sizec_any u _ _ (cdIn_below B2.out _ _ U0.out)).mono ?_
  rintro e w3 ⟨z2, rfl, hb⟩
  have B3 := hid (below_step B2.out hb)
  clear hb g3 g4 g5
  by_cases hz2 : 200 < z2
  · go_wp2
    go_ret
    exact ⟨rfl, below_step B0.out B3.out⟩
  by_cases hvl : (100 : Int) < (vn : Int)
  · go_wp2
    go_ret
    exact ⟨rfl, below_step B0.out B3.out⟩
  go_wp2_with fail
  clear hz1 hz2 hvl
  have hs : Below w0.heap.size w0 w3.drew := B3.out.drew
  have g0 := cell_below hs G0.out
  have g1 := cell_below hs G1.out
  have g2 := cell_below hs G2.out
  have g3 := cell_below hs G3.out
  have g4 := cell_below hs G4.out
  have g5 := cell_below hs G5.out
  go_region_held3 (fun w' => w'.cell? ⟨w.heap.size, 0, none⟩ = some (.int .i64 o) ∧ w'.cell? ⟨w.heap.size, 1, none⟩ = some (.slice a1 l1 c1) ∧ w'.cell? ⟨w.heap.size, 2, none⟩ = some (.slice a2 l2 c2) ∧
      w'.cell? ⟨w.heap.size + 1, 0, none⟩ = some (.int .i64 p) ∧ w'.cell? ⟨w.heap.size + 1, 1, none⟩ = some (.slice b1 m1 d1) ∧ w'.cell? ⟨w.heap.size + 1, 2, none⟩ = some (.slice b2 m2 d2) ∧ Below w0.heap.size w0 w')
    (first | exact ⟨g0, g1, g2, g3, g4, g5, hs⟩ | exact ⟨cell_below (by assumption) G0.out, cell_below (by assumption) G1.out, cell_below (by assumption) G2.out, cell_below (by assumption) G3.out, cell_below (by assumption) G4.out, cell_below (by assumption) G5.out, by assumption⟩)
    (first
      | (go_at_call_of 19 (Value.slice a1 l1 c1); refine (holds_any V [] t _ _ _ _ (cdIn_below (by assumption) _ _ T0.out) (intsIn_below (by assumption) V0.out) (nil_ints _)).mono ?_; rw [Hx.out]; rintro e w5 ⟨rfl, hb5⟩; have hs5 : Below w0.heap.size w0 w5 := below_step (by assumption) hb5)
      | (go_at_call_of 19 (Value.slice b1 m1 d1); refine (holds_any V [] u _ _ _ _ (cdIn_below (by assumption) _ _ U0.out) (intsIn_below (by assumption) V0.out) (nil_ints _)).mono ?_; rw [Hy.out]; rintro e w6 ⟨rfl, hb6⟩; have hs6 : Below w0.heap.size w0 w6 := below_step (by assumption) hb6))
  have HS := hid hs6
  clear hs g0 g1 g2 g3 g4 g5 hb5 hs5 hb6 hs6
  cases x <;> cases y
  all_goals
    have g0 := cell_below HS.out G0.out
    have g1 := cell_below HS.out G1.out
    have g2 := cell_below HS.out G2.out
    go_wp2_with fail
    refine (not_any o a1 a2 l1 c1 l2 c2 t _ (cdIn_below HS.out _ _ T0.out)).mono ?_
    rintro e w7 ⟨n1, rfl, hb, hi⟩
    have HS := hid (below_step HS.out hb)
    have I1 := hid hi; clear hi
    clear hb
    clear g0 g1 g2
    go_wp2_with fail
    refine (holds_any V [] (.mk 5 [] [t]) _ _ _ _ I1.out (intsIn_below HS.out V0.out) (nil_ints _)).mono ?_
    rw [hold_not, Hx.out]
    rintro e w8 ⟨rfl, hb⟩
    have HS := hid (below_step HS.out hb)
    have I1 := hid (cdIn_below hb _ _ I1.out)
    clear hb
    have g3 := cell_below HS.out G3.out
    have g4 := cell_below HS.out G4.out
    have g5 := cell_below HS.out G5.out
    go_wp2_with fail
    refine (not_any p b1 b2 m1 d1 m2 d2 u _ (cdIn_below HS.out _ _ U0.out)).mono ?_
    rintro e w9 ⟨n2, rfl, hb, hi⟩
    have HS := hid (below_step HS.out hb)
    have I2 := hid hi; clear hi
    clear hb
    clear g3 g4 g5
    go_wp2_with fail
    refine (not_any 5 none (some ⟨n2, 0, none⟩) 0 0 1 1 (.mk 5 [] [u]) _ I2.out).mono ?_
    rintro e w10 ⟨n3, rfl, hb, hi⟩
    have HS := hid (below_step HS.out hb)
    have I2 := hid (cdIn_below hb _ _ I2.out)
    have I3 := hid hi; clear hi
    clear hb
    go_wp2_with fail
    refine (holds_any V [] (.mk 5 [] [.mk 5 [] [u]]) _ _ _ _ I3.out (intsIn_below HS.out V0.out) (nil_ints _)).mono ?_
    rw [hold_not, hold_not, Hy.out]
    rintro e w11 ⟨rfl, hb⟩
    have HS := hid (below_step HS.out hb)
    have I2 := hid (cdIn_below hb _ _ I2.out)
    have I3 := hid (cdIn_below hb _ _ I3.out)
    clear hb
    have g0 := cell_below HS.out G0.out
    have g1 := cell_below HS.out G1.out
    have g2 := cell_below HS.out G2.out
    have g3 := cell_below HS.out G3.out
    have g4 := cell_below HS.out G4.out
    have g5 := cell_below HS.out G5.out
    go_wp2_with fail
    refine (both_any 6 o p a1 a2 b1 b2 l1 c1 l2 c2 m1 d1 m2 d2 t u _ (cdIn_below HS.out _ _ T0.out) (cdIn_below HS.out _ _ U0.out)).mono ?_
    rintro e w12 ⟨n4, rfl, hb, hi⟩
    have HS := hid (below_step HS.out hb)
    have I4 := hid hi; clear hi
    clear hb
    clear g0 g1 g2 g3 g4 g5
    go_wp2_with fail
    refine (holds_any V [] (.mk 6 [] [t, u]) _ _ _ _ I4.out (intsIn_below HS.out V0.out) (nil_ints _)).mono ?_
    rw [hold_and, Hx.out, Hy.out]
    rintro e w13 ⟨rfl, hb⟩
    have HS := hid (below_step HS.out hb)
    have I4 := hid (cdIn_below hb _ _ I4.out)
    clear hb
    have g0 := cell_below HS.out G0.out
    have g1 := cell_below HS.out G1.out
    have g2 := cell_below HS.out G2.out
    have g3 := cell_below HS.out G3.out
    have g4 := cell_below HS.out G4.out
    have g5 := cell_below HS.out G5.out
    go_wp2_with fail
    refine (both_any 7 o p a1 a2 b1 b2 l1 c1 l2 c2 m1 d1 m2 d2 t u _ (cdIn_below HS.out _ _ T0.out) (cdIn_below HS.out _ _ U0.out)).mono ?_
    rintro e w14 ⟨n5, rfl, hb, hi⟩
    have HS := hid (below_step HS.out hb)
    have I5 := hid hi; clear hi
    clear hb
    clear g0 g1 g2 g3 g4 g5
    go_wp2_with fail
    refine (holds_any V [] (.mk 7 [] [t, u]) _ _ _ _ I5.out (intsIn_below HS.out V0.out) (nil_ints _)).mono ?_
    rw [hold_or, Hx.out, Hy.out]
    rintro e w15 ⟨rfl, hb⟩
    have HS := hid (below_step HS.out hb)
    have I5 := hid (cdIn_below hb _ _ I5.out)
    clear hb
    go_wp2_with fail
    have hs := HS.out.drew
    have g0 := cell_below hs G0.out
    have g1 := cell_below hs G1.out
    have g2 := cell_below hs G2.out
    have g3 := cell_below hs G3.out
    have g4 := cell_below hs G4.out
    have g5 := cell_below hs G5.out
    go_region_held3 (fun w' => w'.cell? ⟨w.heap.size, 0, none⟩ = some (.int .i64 o) ∧ w'.cell? ⟨w.heap.size, 1, none⟩ = some (.slice a1 l1 c1) ∧ w'.cell? ⟨w.heap.size, 2, none⟩ = some (.slice a2 l2 c2) ∧ w'.cell? ⟨w.heap.size + 1, 0, none⟩ = some (.int .i64 p) ∧ w'.cell? ⟨w.heap.size + 1, 1, none⟩ = some (.slice b1 m1 d1) ∧ w'.cell? ⟨w.heap.size + 1, 2, none⟩ = some (.slice b2 m2 d2) ∧ Below w0.heap.size w0 w')
      (first | exact ⟨g0, g1, g2, g3, g4, g5, hs⟩ | exact ⟨cell_below (by assumption) G0.out, cell_below (by assumption) G1.out, cell_below (by assumption) G2.out, cell_below (by assumption) G3.out, cell_below (by assumption) G4.out, cell_below (by assumption) G5.out, by assumption⟩)
      (first
        | (go_at_call_of 33 (Value.int IntKind.i64 6); refine (both_any 6 o p a1 a2 b1 b2 l1 c1 l2 c2 m1 d1 m2 d2 t u _ (cdIn_below (by assumption) _ _ T0.out) (cdIn_below (by assumption) _ _ U0.out)).mono ?_; rintro e y1 ⟨k1, rfl, hy1, hi1⟩; have hz1 : Below w0.heap.size w0 y1 := below_step (by assumption) hy1)
        | (go_at_call_of 32 (Value.int IntKind.i64 6); refine (not_any 6 none (some ⟨k1, 0, none⟩) 0 0 2 2 (.mk 6 [] [t, u]) _ hi1).mono ?_; rintro e y2 ⟨k2, rfl, hy2, hi2⟩; have hz2 : Below w0.heap.size w0 y2 := below_step (by assumption) hy2)
        | (go_at_call_of 19 (Value.int IntKind.i64 5); refine (holds_any V [] (.mk 5 [] [.mk 6 [] [t, u]]) _ _ _ _ hi2 (intsIn_below (by assumption) V0.out) (nil_ints _)).mono ?_; rw [hold_not, hold_and, Hx.out, Hy.out]; rintro e y3 ⟨rfl, hy3⟩; have hz3 : Below w0.heap.size w0 y3 := below_step (by assumption) hy3)
        | (go_at_call_of 32 (Value.slice a1 l1 c1); refine (not_any o a1 a2 l1 c1 l2 c2 t _ (cdIn_below (by assumption) _ _ T0.out)).mono ?_; rintro e y4 ⟨k4, rfl, hy4, hi4⟩; have hz4 : Below w0.heap.size w0 y4 := below_step (by assumption) hy4)
        | (go_at_call_of 32 (Value.slice b1 m1 d1); refine (not_any p b1 b2 m1 d1 m2 d2 u _ (cdIn_below (by assumption) _ _ U0.out)).mono ?_; rintro e y5 ⟨k5, rfl, hy5, hi5⟩; have hi4' := cdIn_below hy5 _ _ hi4; have hz5 : Below w0.heap.size w0 y5 := below_step (by assumption) hy5)
        | (go_at_call_of 33 (Value.int IntKind.i64 7); refine (both_any 7 5 5 none (some ⟨k4, 0, none⟩) none (some ⟨k5, 0, none⟩) 0 0 1 1 0 0 1 1 (.mk 5 [] [t]) (.mk 5 [] [u]) _ hi4' hi5).mono ?_; rintro e y6 ⟨k6, rfl, hy6, hi6⟩; have hz6 : Below w0.heap.size w0 y6 := below_step (by assumption) hy6)
        | (go_at_call_of 19 (Value.int IntKind.i64 7); refine (holds_any V [] (.mk 7 [] [.mk 5 [] [t], .mk 5 [] [u]]) _ _ _ _ hi6 (intsIn_below (by assumption) V0.out) (nil_ints _)).mono ?_; rw [hold_or, hold_not, hold_not, Hx.out, Hy.out]; rintro e y7 ⟨rfl, hy7⟩; have hz7 : Below w0.heap.size w0 y7 := below_step (by assumption) hy7)
        | (go_at_call_of 23 (Value.int IntKind.i64 5); refine (depthC_any (.mk 5 [] [t]) _ _ hi4).mono ?_; rw [Hdn.out]; rintro e y8 ⟨rfl, hy8⟩; have hz8 : Below w0.heap.size w0 y8 := below_step (by assumption) hy8)
        | (go_at_call_of 23 (Value.slice a1 l1 c1); refine (depthC_any t _ _ (cdIn_below (by assumption) _ _ T0.out)).mono ?_; rw [Hd.out]; rintro e y9 ⟨rfl, hy9⟩; have hz9 : Below w0.heap.size w0 y9 := below_step (by assumption) hy9))
    have HZ := hid hz9
    clear hy1 hy2 hy3 hy4 hy5 hy6 hy7 hy8 hy9 hz1 hz2 hz3 hz4 hz5 hz6 hz7 hz8 hz9 hi1 hi2 hi4 hi4' hi5 hi6 hs g0 g1 g2 g3 g4 g5
    have hwd : (d + 1 != IntKind.i64.wrap (d + 1)) = false := by rw [IntWalk.i64_in _ (by omega)]; simp
    rw [hwd]
    clear hwd
    have g0 := cell_below HZ.out G0.out
    have g1 := cell_below HZ.out G1.out
    by_cases ho2 : o = 2
    · subst ho2
      by_cases hll : (l1 : Int) < 2
      · go_wp2
        go_ret
        exact ⟨rfl, below_step B0.out HZ.out⟩
      · obtain ⟨e0, e1, lr, rfl⟩ : ∃ e0 e1 lr, lA = e0 :: e1 :: lr := by
          have hh := Hl1.out
          match lA, hh with
          | [], hh => simp only [List.length_nil] at hh; exact absurd hh (by omega)
          | [_], hh => simp only [List.length_cons, List.length_nil] at hh; exact absurd hh (by omega)
          | a :: b :: r, _ => exact ⟨a, b, r, rfl⟩
        obtain ⟨b, off, rfl, hall⟩ := exsIn_all A0.out (by simp)
        obtain ⟨o0, n0, v0, f0, ln0, cp0, q0, q1, q2, q3, in0⟩ := hall 0 e0 rfl
        obtain ⟨oo1, n1', v1, f1, ln1, cp1, q4, q5, q6, q7, in1⟩ := hall 1 e1 rfl
        simp only [Nat.zero_mul, Nat.one_mul, Nat.add_zero, Nat.add_assoc, Nat.reduceAdd] at q0 q1 q2 q3 q4 q5 q6 q7
        have hx' := Hx.out
        rw [Htd.out] at hx'
        have hle := hid (hold_le_lt V [] e0 e1 lr rA _ hx')
        clear hx'
        go_wp2_with fail
        have hs := HZ.out
        have g1 := cell_below hs G1.out
        have q0 := cell_below hs q0
        have q1 := cell_below hs q1
        have q2 := cell_below hs q2
        have q3 := cell_below hs q3
        have q4 := cell_below hs q4
        have q5 := cell_below hs q5
        have q6 := cell_below hs q6
        have q7 := cell_below hs q7
        have hl2 : (1 : Int) < (l1 : Int) := by omega
        have hl0 : (0 : Int) < (l1 : Int) := by omega
        have hl0n : 0 < l1 := by omega
        have hl1n : 1 < l1 := by omega
        have nn0 := World.new_ne _ _ g1
        have nn1 := World.new_ne _ _ q0
        have nn2 := World.new_ne _ _ q1
        have nn3 := World.new_ne _ _ q2
        have nn4 := World.new_ne _ _ q3
        have nn5 := World.new_ne _ _ q4
        have nn6 := World.new_ne _ _ q5
        have nn7 := World.new_ne _ _ q6
        have nn8 := World.new_ne _ _ q7
        go_region_held3 (fun w' => w'.cell? ⟨w.heap.size, 1, none⟩ = some (.slice (some ⟨b, off, none⟩) l1 c1) ∧ w'.cell? ⟨b, off, none⟩ = some (.int .i64 o0) ∧ w'.cell? ⟨b, off + 1, none⟩ = some (.int .i64 n0) ∧ w'.cell? ⟨b, off + 2, none⟩ = some (.int .i64 v0) ∧
            w'.cell? ⟨b, off + 3, none⟩ = some (.slice f0 ln0 cp0) ∧ w'.cell? ⟨b, off + 4, none⟩ = some (.int .i64 oo1) ∧ w'.cell? ⟨b, off + 5, none⟩ = some (.int .i64 n1') ∧ w'.cell? ⟨b, off + 6, none⟩ = some (.int .i64 v1) ∧ w'.cell? ⟨b, off + 7, none⟩ = some (.slice f1 ln1 cp1))
          (go_keep)
          (fail)
        · have hbz : Below y9.heap.size y9 (((y9.alloc (.cells #[.int .i64 oo1, .int .i64 n1', .int .i64 v1, .slice f1 ln1 cp1, .int .i64 o0, .int .i64 n0, .int .i64 v0, .slice f0 ln0 cp0] 24)).alloc (.cells #[.int .i64 3, .slice (some ⟨y9.heap.size, 0, none⟩) 2 2, .slice none 0 0] 27)).drew) := (((Below.refl _ _).alloc (Nat.le_refl _) _).alloc (by simp) _).drew
          have in0' := exIn_below hbz _ _ (exIn_below HZ.out _ _ in0)
          have in1' := exIn_below hbz _ _ (exIn_below HZ.out _ _ in1)
          have vv' := intsIn_below hbz (intsIn_below HZ.out V0.out)
          have Hbz := hid (below_step HZ.out hbz)
          clear hbz g0 g1 q0 q1 q2 q3 q4 q5 q6 q7 nn0 nn1 nn2 nn3 nn4 nn5 nn6 nn7 nn8 hs
          have hcd := le_in (n := y9.heap.size) (by simp [go_sem]) (by simp [go_sem]) (by simp [go_sem]) (by simp [go_sem]) (by simp [go_sem]) (by simp [go_sem]) (by simp [go_sem]) (by simp [go_sem]) in1' in0'
          have Hcd := hid hcd; clear hcd
          have Vv := hid vv'; clear vv'
          clear in0' in1'
          go_wp2_with fail
          refine (holds_any V [] (.mk 3 [e1, e0] []) _ _ _ _ Hcd.out Vv.out (nil_ints _)).mono ?_
          rw [hle.out]
          rintro e z1 ⟨rfl, hb⟩
          have HE := hid (below_step Hbz.out hb); clear hb
          go_wp2
          go_ret
          exact ⟨by simp, below_step B0.out HE.out⟩
        · have hbz : Below y9.heap.size y9 (((y9.alloc (.cells #[.int .i64 3, .slice (some ⟨y9.heap.size + 1, 0, none⟩) 2 2, .slice none 0 0] 27)).alloc (.cells #[.int .i64 oo1, .int .i64 n1', .int .i64 v1, .slice f1 ln1 cp1, .int .i64 o0, .int .i64 n0, .int .i64 v0, .slice f0 ln0 cp0] 24)).drew) := (((Below.refl _ _).alloc (Nat.le_refl _) _).alloc (by simp) _).drew
          have in0' := exIn_below hbz _ _ (exIn_below HZ.out _ _ in0)
          have in1' := exIn_below hbz _ _ (exIn_below HZ.out _ _ in1)
          have vv' := intsIn_below hbz (intsIn_below HZ.out V0.out)
          have Hbz := hid (below_step HZ.out hbz)
          clear hbz g0 g1 q0 q1 q2 q3 q4 q5 q6 q7 nn0 nn1 nn2 nn3 nn4 nn5 nn6 nn7 nn8 hs
          have hcd := le_in (n := y9.heap.size + 1) (by simp [go_sem]) (by simp [go_sem]) (by simp [go_sem]) (by simp [go_sem]) (by simp [go_sem]) (by simp [go_sem]) (by simp [go_sem]) (by simp [go_sem]) in1' in0'
          have Hcd := hid hcd; clear hcd
          have Vv := hid vv'; clear vv'
          clear in0' in1'
          go_wp2_with fail
          refine (holds_any V [] (.mk 3 [e1, e0] []) _ _ _ _ Hcd.out Vv.out (nil_ints _)).mono ?_
          rw [hle.out]
          rintro e z1 ⟨rfl, hb⟩
          have HE := hid (below_step Hbz.out hb); clear hb
          go_wp2
          go_ret
          exact ⟨by simp, below_step B0.out HE.out⟩
    · have ho2' := ne_b ho2
      go_wp2
      go_ret
      exact ⟨rfl, below_step B0.out HZ.out⟩

theorem numConditions_contract (H : Type) (enc : TypeId × Value → H) (W : World) (base : Nat) (args : Array Value) (ds gs : List (DataW H)) (before : List MemPlace)
    (hval : ∀ (j : Nat) t v, Try.f7.params[j]? = some t → args[j]? = some v → Value.okWide Try.prog W .any base t v)
    (hW : DataW.Whole enc Try.prog Try.f7.params.toList Rows.numConditionsSpec.vars false W args.toList ds gs before) (hk : Rows.uptoSmall H (ds ++ gs) = true) :
    Calls Try.prog 7 args W fun e W' => ∃ v, e = .returned v ∧ Rows.numConditionsSpec.post enc Try.prog Try.f7 false true false false W args v W' := by
  have hW' := hW
  obtain ⟨p, q, hA0, hV, rfl, hfz, hnd⟩ := hW
  have hA : DataW.TrodAll enc Try.prog W 0 (fun _ => true) true Try.f7.params.toList args.toList ds p := hA0
  rw [Try.params7] at hA hval
  obtain ⟨v0, vs0, d0, ds0, p0, q0, hargs, rfl, rfl, h0, r0⟩ := trodAll_cons hA
  obtain ⟨v1, vs1, d1, ds1, p1, q1, rfl, rfl, rfl, h1, r1⟩ := trodAll_cons r0
  obtain ⟨v2, vs2, d2, ds2, p2, q2, rfl, rfl, rfl, h2, r2⟩ := trodAll_cons r1
  obtain ⟨rfl, rfl, rfl⟩ := trodAll_nil r2
  obtain rfl : args = #[v0, v1, v2] := by cases args; simp_all
  obtain ⟨rfl, rfl⟩ := trodVars_none hV
  have hbulk : Rows.uptoBulkAll ([d0, d1, d2] ++ []) ≤ 1048576 := of_decide_eq_true hk
  simp only [List.append_nil, Rows.uptoBulkAll] at hbulk
  obtain ⟨t0, in0, sz0⟩ := open_cd (hval 0 _ v0 rfl rfl) h0
  obtain ⟨t1, in1, sz1⟩ := open_cd (hval 1 _ v1 rfl rfl) h1
  obtain ⟨t2, in2, sz2⟩ := open_intl (hval 2 _ v2 rfl rfl) h2
  obtain ⟨o0, l0, r0'⟩ := t0
  obtain ⟨o1, l1, r1'⟩ := t1
  have k0 := in0
  have k1 := in1
  have k2 := in2
  rw [cdIn] at k0 k1
  obtain ⟨oa, ob, ca, cb, rfl, -⟩ := k0
  obtain ⟨oc, od, cc, cd', rfl, -⟩ := k1
  obtain ⟨va, vc, rfl, -⟩ := k2
  have hdep := depthC_le (.mk o0 l0 r0') (by omega)
  refine (cond_walk (.mk o0 l0 r0') (.mk o1 l1 r1') t2 o0 o1 oa ob oc od _ _ _ _ _ _ _ _ va vc W in0 in1 in2 hdep.1 (by omega)).mono fun e W' ⟨he, hg⟩ => ?_
  subst he
  exact ⟨_, rfl, post_true (T := 4) (by kernel_rfl) (by kernel_rfl) rfl rfl (by kernel_rfl) hW' hg rfl⟩

set_option maxRecDepth 100000 in
theorem numConditions_lifted (os : Os) (started : os.Started) (H : Type) (enc : TypeId × Value → H) (F : Stop.Interp) :
    ReturnsInHanded {} Try.checked os 7 .any ((Rows.OpenSpec.upto Rows.numConditionsSpec).pre6 enc Try.prog Try.f7 Rows.numConditionsUptoRow.domain false) (((Rows.OpenSpec.upto Rows.numConditionsSpec).at F).post enc Try.prog Try.f7 false true false false) := by
  refine returnsInHanded_of_cond (C := Try.checked) (s := Rows.OpenSpec.upto Rows.numConditionsSpec) (k := Rows.uptoSmall) rfl own started (by kernel_rfl) Try.func7
    (OpenSpec.witness (enc := enc) (C := Try.checked) (s := Rows.OpenSpec.upto Rows.numConditionsSpec) (k := Rows.uptoSmall) rfl false ⟨#[], #[.agg #[.int .i64 0, .slice none 0 0, .slice none 0 0], .agg #[.int .i64 0, .slice none 0 0, .slice none 0 0], .slice none 0 0], []⟩ 8 (by kernel_rfl) (by kernel_rfl) (by kernel_rfl)
      (x := ([.agg [.lit (.int .i64 0), .nil, .nil], .agg [.lit (.int .i64 0), .nil, .nil], .nil], [], [])) (by kernel_rfl) rfl (by kernel_rfl)) ?_
  intro W base args ds gs before hval hW _ hk _
  exact numConditions_contract H enc W base args ds gs before hval hW hk

theorem numConditions_holds : Rows.NumConditionsUptoSaid :=
  OpenClaim.holds_of_cond 7 Try.f7 rfl rfl rfl rfl rfl rfl rfl ⟨rfl, rfl, rfl, rfl, rfl⟩ rfl rfl rfl rfl rfl (by kernel_rfl) Try.func7 (by kernel_rfl)
    (of_decide_eq_true (by kernel_rfl)) (by unfold Func.isWrapper; rw [if_neg (of_decide_eq_false (by kernel_rfl))]; exact ⟨rfl, rfl⟩)
    (fun os started H enc _ F => numConditions_lifted os started H enc F)
end Go.Proofs.Ytpncjepigcnfeaa

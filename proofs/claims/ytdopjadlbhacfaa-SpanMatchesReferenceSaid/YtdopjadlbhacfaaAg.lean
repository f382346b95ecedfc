import Derived.Test.YtdopjadlbhacfaaAa
import Derived.Deep.Cut
import Derived.Deep.DeepCutAuto
namespace Go.Proofs.Ytdopjadlbhacfaa
open Go.RowKit Go.Instr Sp
set_option linter.unusedVariables false
set_option linter.unusedSimpArgs false

/-! The reference's sets, by value: widening. -/
/-- Widening. -/
def widenA (a b : Ab) : Ab :=
  if joinA a b = a then a
  else if stp (joinA a b) = 0 then joinA a b
  else likeA (joinA a b).lo (joinA a b).m (if (joinA a b).lo = a.lo then a.lo else -2147483648) (if (joinA a b).hi = a.hi then a.hi else 2147483647) (joinA a b).k
theorem alloc_is3 {w1 w2 : World} {o : Obj} (h : w1.alloc o = w2) : Below w1.heap.size w1 w2 := by rw [← h]; exact (Below.refl _ _).alloc (Nat.le_refl _) _
theorem row_is3 {w1 w2 : World} {cs : Array Value} {t : TypeId} (h : w1.alloc (.cells cs t) = w2) (i : Nat) (v : Value) (hv : cs[i]? = some v) : w2.cell? ⟨w1.heap.size, i, none⟩ = some v := by
  have h2 := heap_alloc_new w1 (.cells cs t)
  rw [h] at h2
  simp [World.cell?, h2, hv]
set_option maxRecDepth 100000 in
set_option maxHeartbeats 4000000 in
theorem rwid_eq (a b : Ab) (C1 : Hid (∀ w, Calls Try.prog 19 #[.agg #[.int .i64 a.lo, .int .i64 a.hi, .int .i64 a.m, .int .i64 a.r, .int .i64 a.k], .agg #[.int .i64 b.lo, .int .i64 b.hi, .int .i64 b.m, .int .i64 b.r, .int .i64 b.k]] w fun e w' => e = .returned (.agg #[.int .i64 a.lo, .int .i64 a.hi, .int .i64 a.m, .int .i64 a.r, .int .i64 a.k]) ∧ Below w.heap.size w w')) (w : World) :
    Calls Try.prog 25 #[.agg #[.int .i64 a.lo, .int .i64 a.hi, .int .i64 a.m, .int .i64 a.r, .int .i64 a.k], .agg #[.int .i64 b.lo, .int .i64 b.hi, .int .i64 b.m, .int .i64 b.r, .int .i64 b.k]] w fun e w' => e = .returned (.agg #[.int .i64 a.lo, .int .i64 a.hi, .int .i64 a.m, .int .i64 a.r, .int .i64 a.k]) ∧ Below w.heap.size w w' := by
  obtain ⟨w0, hw0⟩ : ∃ w0, (((w.alloc (.cells #[.int .i64 a.lo, .int .i64 a.hi, .int .i64 a.m, .int .i64 a.r, .int .i64 a.k] 27)).alloc (.cells #[.int .i64 b.lo, .int .i64 b.hi, .int .i64 b.m, .int .i64 b.r, .int .i64 b.k] 27)).alloc (.cells #[.int .i64 0, .int .i64 0, .int .i64 0, .int .i64 0, .int .i64 0] 27)) = w0 := ⟨_, rfl⟩
  have B0 : Hid (Below w.heap.size w w0) := hidA (by rw [← hw0]; exact (alA (alA (alA (Below.refl _ _) _) _) _))
  have hsz : w.heap.size + 1 + 1 < w0.heap.size := by rw [← hw0]; simp
  have PK : Hid (∀ W, Below w0.heap.size w0 W → abF W (w.heap.size) a (abF W (w.heap.size + 1) b (W.cell? ⟨w.heap.size + 1 + 1, 0, none⟩ = some (.int .i64 0) ∧ W.cell? ⟨w.heap.size + 1 + 1, 1, none⟩ = some (.int .i64 0) ∧ W.cell? ⟨w.heap.size + 1 + 1, 2, none⟩ = some (.int .i64 0) ∧ W.cell? ⟨w.heap.size + 1 + 1, 3, none⟩ = some (.int .i64 0) ∧ W.cell? ⟨w.heap.size + 1 + 1, 4, none⟩ = some (.int .i64 0) ∧ w.heap.size < W.heap.size ∧ w.heap.size + 1 < W.heap.size ∧ w.heap.size + 1 + 1 < W.heap.size ∧ (∀ i, W.frozen? ⟨w.heap.size + 1 + 1, i, none⟩ = false)))) := hidA (fun W hW => by and_intros <;> first | exact cellA hW (by rw [← hw0]; simp [go_sem]) | exact (by have h0 := hW.size; have h1 := hsz; omega) | exact (fun i => (hW.frozen (p := ⟨w.heap.size + 1 + 1, i, none⟩) (show w.heap.size + 1 + 1 < w0.heap.size by have h1 := hsz; omega)).trans (by rw [← hw0]; simp [go_sem])))
  have Hw := hidA hw0; clear hw0
  go_enter Try.func25, Try.ntmps25
  go_wp2_with fail
  rw [Hw.out]
  clear Hw
  have HS : Hid (Below w0.heap.size w0 w0) := hidA (Below.refl _ _)
  obtain ⟨c0, c1, c2, c3, c4, c5, c6, c7, c8, c9, c10, c11, c12, c13, c14, z0, z1, z2, fr2⟩ := PK.out _ HS.out
  go_wp2_with ((go_at_call 19; (with_reducible refine (C1.out _).mono ?_); rintro e w1 ⟨rfl, hb⟩; have hsE := HS.out; have leE := HS.out.size; have hs1 : Below w0.heap.size w0 w1 := stepA (by repeat (first | with_reducible assumption | with_reducible exact Below.refl _ _ | with_reducible refine Below.setCell ?_ (by first | omega | simp <;> omega) _ | with_reducible refine Below.alloc ?_ (by first | omega | simp <;> omega) _ | with_reducible refine Below.drew ?_)) hb; clear hb hsE leE; clear HS; have HS := hidA hs1; clear hs1 c0 c1 c2 c3 c4 c5 c6 c7 c8 c9 c10 c11 c12 c13 c14 z0 z1 z2 fr2; obtain ⟨c0, c1, c2, c3, c4, c5, c6, c7, c8, c9, c10, c11, c12, c13, c14, z0, z1, z2, fr2⟩ := PK.out _ HS.out))
  exact bodyPost_ret (v := .agg #[.int .i64 a.lo, .int .i64 a.hi, .int .i64 a.m, .int .i64 a.r, .int .i64 a.k]) (by simp [results, Try.results25, go_sem, c10, c11, c12, c13, c14, z2, fr2]) rfl ⟨by rfl, (by repeat (first | with_reducible exact Below.refl _ _ | with_reducible exact HS.out | with_reducible exact B0.out | with_reducible refine Below.setCell ?_ (by first | omega | simp <;> omega) _ | with_reducible refine Below.alloc ?_ (by first | omega | simp <;> omega) _ | with_reducible refine Below.drew ?_ | with_reducible refine drewnA ?_ _ | with_reducible refine Below.trans ?_ (HS.out.mono (by first | omega | simp <;> omega)) | with_reducible refine Below.trans ?_ (B0.out.mono (by first | omega | simp <;> omega))))⟩
set_option maxRecDepth 100000 in
set_option maxHeartbeats 8000000 in
theorem rwid_ne (a b j v : Ab) (s lo hi : Int) (hne : ¬ (j.lo = a.lo ∧ j.hi = a.hi ∧ j.m = a.m ∧ j.r = a.r ∧ (j.k : Int) = (a.k : Int))) (hc : ((j.lo == a.lo) = true ∧ lo = a.lo ∨ (j.lo == a.lo) = false ∧ lo = -2147483648)) (hd : ((j.hi == a.hi) = true ∧ hi = a.hi ∨ (j.hi == a.hi) = false ∧ hi = 2147483647)) (C1 : Hid (∀ w, Calls Try.prog 19 #[.agg #[.int .i64 a.lo, .int .i64 a.hi, .int .i64 a.m, .int .i64 a.r, .int .i64 a.k], .agg #[.int .i64 b.lo, .int .i64 b.hi, .int .i64 b.m, .int .i64 b.r, .int .i64 b.k]] w fun e w' => e = .returned (.agg #[.int .i64 j.lo, .int .i64 j.hi, .int .i64 j.m, .int .i64 j.r, .int .i64 j.k]) ∧ Below w.heap.size w w')) (C2 : Hid (∀ w, Calls Try.prog 50 #[.agg #[.int .i64 j.lo, .int .i64 j.hi, .int .i64 j.m, .int .i64 j.r, .int .i64 j.k]] w fun e w' => e = .returned (.int .i64 s) ∧ Below w.heap.size w w')) (hs : (((s == 0) = true ∧ v = j) ∨ ((s == 0) = false ∧ Hid (∀ w, Calls Try.prog 55 #[.int .i64 j.lo, .int .i64 j.m, .int .i64 lo, .int .i64 hi, .int .i64 j.k] w fun e w' => e = .returned (.agg #[.int .i64 v.lo, .int .i64 v.hi, .int .i64 v.m, .int .i64 v.r, .int .i64 v.k]) ∧ Below w.heap.size w w')))) (w : World) :
    Calls Try.prog 25 #[.agg #[.int .i64 a.lo, .int .i64 a.hi, .int .i64 a.m, .int .i64 a.r, .int .i64 a.k], .agg #[.int .i64 b.lo, .int .i64 b.hi, .int .i64 b.m, .int .i64 b.r, .int .i64 b.k]] w fun e w' => e = .returned (.agg #[.int .i64 v.lo, .int .i64 v.hi, .int .i64 v.m, .int .i64 v.r, .int .i64 v.k]) ∧ Below w.heap.size w w' := by
  obtain ⟨w0, hw0⟩ : ∃ w0, (((w.alloc (.cells #[.int .i64 a.lo, .int .i64 a.hi, .int .i64 a.m, .int .i64 a.r, .int .i64 a.k] 27)).alloc (.cells #[.int .i64 b.lo, .int .i64 b.hi, .int .i64 b.m, .int .i64 b.r, .int .i64 b.k] 27)).alloc (.cells #[.int .i64 0, .int .i64 0, .int .i64 0, .int .i64 0, .int .i64 0] 27)) = w0 := ⟨_, rfl⟩
  have B0 : Hid (Below w.heap.size w w0) := hidA (by rw [← hw0]; exact (alA (alA (alA (Below.refl _ _) _) _) _))
  have hsz : w.heap.size + 1 + 1 < w0.heap.size := by rw [← hw0]; simp
  have PK : Hid (∀ W, Below w0.heap.size w0 W → abF W (w.heap.size) a (abF W (w.heap.size + 1) b (W.cell? ⟨w.heap.size + 1 + 1, 0, none⟩ = some (.int .i64 0) ∧ W.cell? ⟨w.heap.size + 1 + 1, 1, none⟩ = some (.int .i64 0) ∧ W.cell? ⟨w.heap.size + 1 + 1, 2, none⟩ = some (.int .i64 0) ∧ W.cell? ⟨w.heap.size + 1 + 1, 3, none⟩ = some (.int .i64 0) ∧ W.cell? ⟨w.heap.size + 1 + 1, 4, none⟩ = some (.int .i64 0) ∧ w.heap.size < W.heap.size ∧ w.heap.size + 1 < W.heap.size ∧ w.heap.size + 1 + 1 < W.heap.size ∧ (∀ i, W.frozen? ⟨w.heap.size + 1 + 1, i, none⟩ = false)))) := hidA (fun W hW => by and_intros <;> first | exact cellA hW (by rw [← hw0]; simp [go_sem]) | exact (by have h0 := hW.size; have h1 := hsz; omega) | exact (fun i => (hW.frozen (p := ⟨w.heap.size + 1 + 1, i, none⟩) (show w.heap.size + 1 + 1 < w0.heap.size by have h1 := hsz; omega)).trans (by rw [← hw0]; simp [go_sem])))
  have Hw := hidA hw0; clear hw0
  go_enter Try.func25, Try.ntmps25
  go_wp2_with fail
  rw [Hw.out]
  clear Hw
  have HS : Hid (Below w0.heap.size w0 w0) := hidA (Below.refl _ _)
  obtain ⟨c0, c1, c2, c3, c4, c5, c6, c7, c8, c9, c10, c11, c12, c13, c14, z0, z1, z2, fr2⟩ := PK.out _ HS.out
  go_upto_region 2 with ((go_at_call 19; (with_reducible refine (C1.out _).mono ?_); rintro e w1 ⟨rfl, hb⟩; have hsE := HS.out; have leE := HS.out.size; have hs1 : Below w0.heap.size w0 w1 := stepA (by repeat (first | with_reducible assumption | with_reducible exact Below.refl _ _ | with_reducible refine Below.setCell ?_ (by first | omega | simp <;> omega) _ | with_reducible refine Below.alloc ?_ (by first | omega | simp <;> omega) _ | with_reducible refine Below.drew ?_)) hb; clear hb hsE leE; clear HS; have HS := hidA hs1; clear hs1 c0 c1 c2 c3 c4 c5 c6 c7 c8 c9 c10 c11 c12 c13 c14 z0 z1 z2 fr2; obtain ⟨c0, c1, c2, c3, c4, c5, c6, c7, c8, c9, c10, c11, c12, c13, c14, z0, z1, z2, fr2⟩ := PK.out _ HS.out))
  obtain ⟨g, hd⟩ : ∃ d, w1.heap.size = d := ⟨_, rfl⟩
  obtain ⟨w2, hw2⟩ : ∃ w2, w1.alloc (.cells #[.int .i64 j.lo, .int .i64 j.hi, .int .i64 j.m, .int .i64 j.r, .int .i64 j.k] 27) = w2 := ⟨_, rfl⟩
  have U : Hid (Below w1.heap.size w1 w2) := hidA (alloc_is3 hw2)
  have D := row_is3 hw2
  have lg : w.heap.size + 1 + 1 < g := by rw [← hd]; assumption
  have FG : Hid (∀ i, w2.frozen? ⟨g, i, none⟩ = false) := hidA (by intro i; rw [← hw2, ← hd]; simp [go_sem])
  rw [hw2]
  try rw [hd]
  rw [hd] at D
  clear hw2 hd
  have hs1 := stepA HS.out U.out
  clear U
  clear HS; have HS := hidA hs1; clear hs1 c0 c1 c2 c3 c4 c5 c6 c7 c8 c9 c10 c11 c12 c13 c14 z0 z1 z2 fr2; obtain ⟨c0, c1, c2, c3, c4, c5, c6, c7, c8, c9, c10, c11, c12, c13, c14, z0, z1, z2, fr2⟩ := PK.out _ HS.out
  have D0 := hidA (D 0 _ rfl)
  have D1 := hidA (D 1 _ rfl)
  have D2 := hidA (D 2 _ rfl)
  have D3 := hidA (D 3 _ rfl)
  have D4 := hidA (D 4 _ rfl)
  clear D
  have N0 := hidA c0
  have N1 := hidA c1
  have N2 := hidA c2
  have N3 := hidA c3
  have N4 := hidA c4
  have Z0 := hidA c10
  have Z1 := hidA c11
  have Z2 := hidA c12
  have Z3 := hidA c13
  have Z4 := hidA c14
  have FZ := hidA fr2
  clear c0 c1 c2 c3 c4 c5 c6 c7 c8 c9 c10 c11 c12 c13 c14 z0 z1 z2 fr2
  have BW := hidA (B0.out.trans (HS.out.mono B0.out.size))
  have BN : Hid (Below w.heap.size w w2) := hidA BW.out
  have leW : w.heap.size ≤ w2.heap.size := BN.out.size
  have hszb1 : w.heap.size + 1 + 1 < w2.heap.size := World.block_lt_of_cell? _ _ Z0.out
  clear B0 PK HS
  have PK : Hid (∀ V, Below w2.heap.size w2 V → abF V (w.heap.size) a (V.cell? ⟨w.heap.size + 1 + 1, 0, none⟩ = some (.int .i64 0) ∧ V.cell? ⟨w.heap.size + 1 + 1, 1, none⟩ = some (.int .i64 0) ∧ V.cell? ⟨w.heap.size + 1 + 1, 2, none⟩ = some (.int .i64 0) ∧ V.cell? ⟨w.heap.size + 1 + 1, 3, none⟩ = some (.int .i64 0) ∧ V.cell? ⟨w.heap.size + 1 + 1, 4, none⟩ = some (.int .i64 0) ∧ abF V g j (w.heap.size < V.heap.size ∧ w.heap.size + 1 + 1 < V.heap.size ∧ g < V.heap.size ∧ (∀ i, V.frozen? ⟨w.heap.size + 1 + 1, i, none⟩ = false)))) := hidA (fun V hW => ⟨cellA hW N0.out, cellA hW N1.out, cellA hW N2.out, cellA hW N3.out, cellA hW N4.out, cellA hW Z0.out, cellA hW Z1.out, cellA hW Z2.out, cellA hW Z3.out, cellA hW Z4.out, cellA hW D0.out, cellA hW D1.out, cellA hW D2.out, cellA hW D3.out, cellA hW D4.out, Nat.lt_of_lt_of_le (World.block_lt_of_cell? _ _ N0.out) hW.size, Nat.lt_of_lt_of_le (World.block_lt_of_cell? _ _ Z0.out) hW.size, Nat.lt_of_lt_of_le (World.block_lt_of_cell? _ _ D0.out) hW.size, (fun i => (hW.frozen (p := ⟨w.heap.size + 1 + 1, i, none⟩) (show w.heap.size + 1 + 1 < w2.heap.size from World.block_lt_of_cell? _ _ Z0.out)).trans (FZ.out i))⟩)
  clear N0 N1 N2 N3 N4 Z0 Z1 Z2 Z3 Z4 D0 D1 D2 D3 D4 FZ
  have B0 := BN
  clear BN
  have HS : Hid (Below w2.heap.size w2 w2) := hidA (Below.refl _ _)
  generalize w2 = w0 at *
  obtain ⟨c0, c1, c2, c3, c4, c5, c6, c7, c8, c9, c10, c11, c12, c13, c14, z0, z1, z2, fr1⟩ := PK.out _ HS.out
  clear BW
  go_cut [13] (fun s W => s = .bool false ∧ Below w0.heap.size w0 W)
  case first =>
    go_wp2_with fail
    all_goals first
      | (go_meet; exact ⟨rfl, HS.out⟩)
      | exact absurd ⟨by assumption, by assumption, by assumption, by assumption, by assumption⟩ hne
  case rest =>
    obtain ⟨rfl, hs1⟩ := hcut
    clear HS; have HS := hidA hs1; clear hs1 c0 c1 c2 c3 c4 c5 c6 c7 c8 c9 c10 c11 c12 c13 c14 z0 z1 z2 fr1; obtain ⟨c0, c1, c2, c3, c4, c5, c6, c7, c8, c9, c10, c11, c12, c13, c14, z0, z1, z2, fr1⟩ := PK.out _ HS.out
    rcases hs with ⟨hz, rfl⟩ | ⟨hz, CC⟩
    all_goals rcases hc with ⟨hc, rfl⟩ | ⟨hc, rfl⟩ <;> rcases hd with ⟨hd, rfl⟩ | ⟨hd, rfl⟩
    all_goals
      go_wp2_with (first | (go_at_call 50; (with_reducible refine (C2.out _).mono ?_); rintro e w1 ⟨rfl, hb⟩; have hsE := HS.out; have leE := HS.out.size; have hs1 : Below w0.heap.size w0 w1 := stepA (by repeat (first | with_reducible assumption | with_reducible exact Below.refl _ _ | with_reducible refine Below.setCell ?_ (by first | omega | simp <;> omega) _ | with_reducible refine Below.alloc ?_ (by first | omega | simp <;> omega) _ | with_reducible refine Below.drew ?_)) hb; clear hb hsE leE; clear HS; have HS := hidA hs1; clear hs1 c0 c1 c2 c3 c4 c5 c6 c7 c8 c9 c10 c11 c12 c13 c14 z0 z1 z2 fr1; obtain ⟨c0, c1, c2, c3, c4, c5, c6, c7, c8, c9, c10, c11, c12, c13, c14, z0, z1, z2, fr1⟩ := PK.out _ HS.out) | (go_at_call 55; (with_reducible refine (CC.out _).mono ?_); rintro e w1 ⟨rfl, hb⟩; have hsE := HS.out; have leE := HS.out.size; have hs1 : Below w0.heap.size w0 w1 := stepA (by repeat (first | with_reducible assumption | with_reducible exact Below.refl _ _ | with_reducible refine Below.setCell ?_ (by first | omega | simp <;> omega) _ | with_reducible refine Below.alloc ?_ (by first | omega | simp <;> omega) _ | with_reducible refine Below.drew ?_)) hb; clear hb hsE leE; clear HS; have HS := hidA hs1; clear hs1 c0 c1 c2 c3 c4 c5 c6 c7 c8 c9 c10 c11 c12 c13 c14 z0 z1 z2 fr1; obtain ⟨c0, c1, c2, c3, c4, c5, c6, c7, c8, c9, c10, c11, c12, c13, c14, z0, z1, z2, fr1⟩ := PK.out _ HS.out))
      exact bodyPost_ret (v := .agg #[.int .i64 v.lo, .int .i64 v.hi, .int .i64 v.m, .int .i64 v.r, .int .i64 v.k]) (by simp [results, Try.results25, go_sem, c5, c6, c7, c8, c9, z1, fr1]) rfl ⟨by rfl, (by repeat (first | with_reducible exact Below.refl _ _ | with_reducible exact HS.out | with_reducible exact B0.out | with_reducible refine Below.setCell ?_ (by first | omega | simp <;> omega) _ | with_reducible refine Below.alloc ?_ (by first | omega | simp <;> omega) _ | with_reducible refine Below.drew ?_ | with_reducible refine drewnA ?_ _ | with_reducible refine Below.trans ?_ (HS.out.mono (by first | omega | simp <;> omega)) | with_reducible refine Below.trans ?_ (B0.out.mono (by first | omega | simp <;> omega))))⟩
theorem widen_any (a b : Ab) (A : Val a) (B : Val b) (w : World) :
    Calls Try.prog 25 #[.agg #[.int .i64 a.lo, .int .i64 a.hi, .int .i64 a.m, .int .i64 a.r, .int .i64 a.k], .agg #[.int .i64 b.lo, .int .i64 b.hi, .int .i64 b.m, .int .i64 b.r, .int .i64 b.k]] w fun e w' => e = .returned (.agg #[.int .i64 (widenA a b).lo, .int .i64 (widenA a b).hi, .int .i64 (widenA a b).m, .int .i64 (widenA a b).r, .int .i64 (widenA a b).k]) ∧ Below w.heap.size w w' := by
  have J := join_val A B
  have C := fun w => join_any a b A B w
  by_cases e : joinA a b = a
  · rw [show widenA a b = a from if_pos e]
    rw [e] at C
    exact rwid_eq a b (hidA C) w
  · have EW : widenA a b = if stp (joinA a b) = 0 then joinA a b else likeA (joinA a b).lo (joinA a b).m (if (joinA a b).lo = a.lo then a.lo else -2147483648) (if (joinA a b).hi = a.hi then a.hi else 2147483647) (joinA a b).k := if_neg e
    generalize joinA a b = j at *
    have al := A.l; have ah := A.h; have ao := A.o; have jl := J.l; have jh := J.h; have jo := J.o
    have hne : ¬ (j.lo = a.lo ∧ j.hi = a.hi ∧ j.m = a.m ∧ j.r = a.r ∧ (j.k : Int) = (a.k : Int)) := fun ⟨h1, h2, h3, h4, h5⟩ => e ((ab_eq j a).2 ⟨h1, h2, h3, h4, by omega⟩)
    have hc : ((j.lo == a.lo) = true ∧ (if j.lo = a.lo then a.lo else -2147483648) = a.lo ∨ (j.lo == a.lo) = false ∧ (if j.lo = a.lo then a.lo else -2147483648) = -2147483648) := by
      by_cases h : j.lo = a.lo
      · exact Or.inl ⟨by simpa using h, if_pos h⟩
      · exact Or.inr ⟨by simpa using h, if_neg h⟩
    have hd : ((j.hi == a.hi) = true ∧ (if j.hi = a.hi then a.hi else 2147483647) = a.hi ∨ (j.hi == a.hi) = false ∧ (if j.hi = a.hi then a.hi else 2147483647) = 2147483647) := by
      by_cases h : j.hi = a.hi
      · exact Or.inl ⟨by simpa using h, if_pos h⟩
      · exact Or.inr ⟨by simpa using h, if_neg h⟩
    have l1 : (if j.lo = a.lo then a.lo else -2147483648) ≤ j.lo ∧ -2147483648 ≤ (if j.lo = a.lo then a.lo else -2147483648) := by split <;> omega
    have h1 : j.hi ≤ (if j.hi = a.hi then a.hi else 2147483647) ∧ (if j.hi = a.hi then a.hi else 2147483647) ≤ 2147483647 := by split <;> omega
    generalize (if j.lo = a.lo then a.lo else -2147483648) = lo at *
    generalize (if j.hi = a.hi then a.hi else 2147483647) = hi at *
    rw [EW]
    have CS := hidA (fun w => step_any j w)
    by_cases z : stp j = 0
    · rw [if_pos z]
      exact rwid_ne a b j j _ _ _ hne hc hd (hidA C) CS (Or.inl ⟨by simpa using z, rfl⟩) w
    · rw [if_neg z]
      have m1 : 1 ≤ j.m := m_pos J
      have wb := val_wb J
      have q1 := Int.emod_nonneg (j.lo - lo) (show j.m ≠ 0 by omega)
      have q2 : (j.lo - lo) % j.m ≤ j.lo - lo := by
        have e := Int.mul_ediv_add_emod (j.lo - lo) j.m
        have q : 0 ≤ (j.lo - lo) / j.m := Int.ediv_nonneg (by omega) (by omega)
        have := Int.mul_nonneg (show 0 ≤ j.m by omega) q
        omega
      exact rwid_ne a b j _ _ _ _ hne hc hd (hidA C) CS (Or.inr ⟨by simpa using z, hidA (fun w => like_any j.lo j.m lo hi j.k ⟨by omega, by omega⟩ m1 (by have := wb.m2; omega) l1.2 (by omega) h1.2 ⟨by omega, by omega⟩ (by omega) w)⟩) w
end Go.Proofs.Ytdopjadlbhacfaa

import Derived.Test.YtnholabamjodhaaAz
import Derived.Test.YtnholabamjodhaaOp
import Derived.Deep.Cut
import Derived.Deep.DeepCutAuto
namespace Go.Proofs.Ytnholabamjodhaa
open Go.RowKit Go.Instr Sp
set_option linter.unusedVariables false
set_option linter.unusedSimpArgs false

/-! SpanSound: the law's walk. -/
theorem alloc_is {w1 w2 : World} {o : Obj} (h : w1.alloc o = w2) : Below w1.heap.size w1 w2 := by rw [← h]; exact (Below.refl _ _).alloc (Nat.le_refl _) _
theorem row_is {w1 w2 : World} {cs : Array Value} {t : TypeId} (h : w1.alloc (.cells cs t) = w2) (i : Nat) (v : Value) (hv : cs[i]? = some v) : w2.cell? ⟨w1.heap.size, i, none⟩ = some v := by
  have h2 := heap_alloc_new w1 (.cells cs t)
  rw [h] at h2
  simp [World.cell?, h2, hv]
theorem opF_in (n : Int) {x y : Int} (hx : inV x) (hy : inV y) : opF n x y = opM n x y := by
  obtain ⟨x1, x2⟩ := hx
  obtain ⟨y1, y2⟩ := hy
  have w32 : ∀ z : Int, wrap32 z = wr z := by intro z; unfold wrap32 wr; omega
  have ex : wrap32 x = x := by unfold wrap32; omega
  have ey : wrap32 y = y := by unfold wrap32; omega
  have sz := tdiv_size x y
  have u1 : absI x ≤ 2147483648 := by unfold absI; omega
  have eq : quo x y = x.tdiv y := by unfold quo wrap64; omega
  unfold opF opM
  rw [ex, ey, eq]
  split; exact w32 _
  split; exact w32 _
  split; exact w32 _
  split; exact w32 _
  split
  · obtain ⟨t1, t2, t3, t4⟩ := tmod_is x y
    have e : x - y * x.tdiv y = x.tmod y := (Int.tmod_def x y).symm
    rw [e, w32]
    rcases Int.le_total 0 x with h | h
    · have := t1 h; exact wr_id (by omega) (by omega)
    · have := t2 h; exact wr_id (by omega) (by omega)
  split; unfold wrap32; omega
  split; unfold wrap32; omega
  rfl
set_option maxHeartbeats 1000000 in
theorem lmade_any (lo n m k : Int) (w : World) :
    Calls Try.prog 10 #[.agg #[.int .i64 lo, .int .i64 n, .int .i64 m, .int .i64 k]] w fun e w' => e = .returned (.agg #[.int .i64 (madeA lo n m k).lo, .int .i64 (madeA lo n m k).hi, .int .i64 (madeA lo n m k).m, .int .i64 (madeA lo n m k).r, .int .i64 (madeA lo n m k).k]) ∧ Below w.heap.size w w' := by
  obtain ⟨w0, hw0⟩ : ∃ w0, ((w.alloc (.cells #[.int .i64 lo, .int .i64 n, .int .i64 m, .int .i64 k] 23)).alloc (.cells #[.int .i64 0, .int .i64 0, .int .i64 0, .int .i64 0, .int .i64 0] 27)) = w0 := ⟨_, rfl⟩
  have B0 : Hid (Below w.heap.size w w0) := hidA (by rw [← hw0]; exact (((Below.refl _ _).alloc (by first | exact Nat.le_refl _ | (simp; done) | (simp; omega) | omega) _).alloc (by first | exact Nat.le_refl _ | (simp; done) | (simp; omega) | omega) _))
  have hsz : w.heap.size + 1 < w0.heap.size := by rw [← hw0]; simp
  have PK : Hid (∀ W, Below w0.heap.size w0 W → W.cell? ⟨w.heap.size, 0, none⟩ = some (.int .i64 lo) ∧ W.cell? ⟨w.heap.size, 1, none⟩ = some (.int .i64 n) ∧ W.cell? ⟨w.heap.size, 2, none⟩ = some (.int .i64 m) ∧ W.cell? ⟨w.heap.size, 3, none⟩ = some (.int .i64 k) ∧ W.cell? ⟨w.heap.size + 1, 0, none⟩ = some (.int .i64 0) ∧ W.cell? ⟨w.heap.size + 1, 1, none⟩ = some (.int .i64 0) ∧ W.cell? ⟨w.heap.size + 1, 2, none⟩ = some (.int .i64 0) ∧ W.cell? ⟨w.heap.size + 1, 3, none⟩ = some (.int .i64 0) ∧ W.cell? ⟨w.heap.size + 1, 4, none⟩ = some (.int .i64 0) ∧ w.heap.size < W.heap.size ∧ w.heap.size + 1 < W.heap.size ∧ (∀ i, W.frozen? ⟨w.heap.size + 1, i, none⟩ = false)) := hidA (fun W hW => ⟨cellA hW (by rw [← hw0]; simp [go_sem]), cellA hW (by rw [← hw0]; simp [go_sem]), cellA hW (by rw [← hw0]; simp [go_sem]), cellA hW (by rw [← hw0]; simp [go_sem]), cellA hW (by rw [← hw0]; simp [go_sem]), cellA hW (by rw [← hw0]; simp [go_sem]), cellA hW (by rw [← hw0]; simp [go_sem]), cellA hW (by rw [← hw0]; simp [go_sem]), cellA hW (by rw [← hw0]; simp [go_sem]), (by have h0 := hW.size; have h1 := hsz; omega), (by have h0 := hW.size; have h1 := hsz; omega), (fun i => (hW.frozen (p := ⟨w.heap.size + 1, i, none⟩) (show w.heap.size + 1 < w0.heap.size by have h1 := hsz; omega)).trans (by rw [← hw0]; simp [go_sem]))⟩)
  have Hw := hidA hw0; clear hw0
  go_enter Try.func10, Try.ntmps10
  go_wp2_with fail
  rw [Hw.out]
  clear Hw
  have HS : Hid (Below w0.heap.size w0 w0) := hidA (Below.refl _ _)
  obtain ⟨c0, c1, c2, c3, c4, c5, c6, c7, c8, z0, z1, fr1⟩ := PK.out _ HS.out
  go_wp2_with (go_at_call 40; (with_reducible refine (madeR_any _ _ _ _ _).mono ?_); rintro e w1 ⟨rfl, hb⟩; have hs1 := stepA HS.out hb; clear hb; have HS' := hidA hs1; clear HS hs1; clear c0 c1 c2 c3 c4 c5 c6 c7 c8 z0 z1 fr1; have HS := HS'; clear HS'; obtain ⟨c0, c1, c2, c3, c4, c5, c6, c7, c8, z0, z1, fr1⟩ := PK.out _ HS.out)
  exact bodyPost_ret (v := .agg #[.int .i64 (madeA lo n m k).lo, .int .i64 (madeA lo n m k).hi, .int .i64 (madeA lo n m k).m, .int .i64 (madeA lo n m k).r, .int .i64 (madeA lo n m k).k]) (by simp [results, Try.results10, go_sem, c4, c5, c6, c7, c8, z1]) rfl ⟨by rfl, (by repeat (first | with_reducible exact Below.refl _ _ | with_reducible exact HS.out | with_reducible exact B0.out | with_reducible refine Below.setCell ?_ (by first | omega | (dsimp only; omega) | (simp; done) | (simp; omega)) _ | with_reducible refine Below.alloc ?_ (by first | omega | (dsimp only; omega) | (simp; done) | (simp; omega)) _ | with_reducible refine Below.drew ?_ | with_reducible refine drewnA ?_ _ | with_reducible refine Below.trans ?_ (HS.out.mono (by first | omega | (dsimp only; omega) | (simp; done) | (simp; omega))) | with_reducible refine Below.trans ?_ (B0.out.mono (by first | omega | (dsimp only; omega) | (simp; done) | (simp; omega)))))⟩
set_option maxRecDepth 100000 in
set_option maxHeartbeats 4000000 in
theorem sound_walk (x0 x1 x2 x3 y0 y1 y2 y3 n0 n1 n2 n3 : Int) (a b : Ab) (A : Val a) (B : Val b) (v u : Int) (vk uk : Nat) (CV : Hid (∀ w, Calls Try.prog 34 #[.agg #[.int .i64 a.lo, .int .i64 a.hi, .int .i64 a.m, .int .i64 a.r, .int .i64 a.k], .int .i64 n0, .int .i64 n1] w fun e w' => e = .returned (.agg #[.int .i64 v, .int .i64 vk]) ∧ Below w.heap.size w w')) (CW : Hid (∀ w, Calls Try.prog 34 #[.agg #[.int .i64 b.lo, .int .i64 b.hi, .int .i64 b.m, .int .i64 b.r, .int .i64 b.k], .int .i64 n2, .int .i64 n3] w fun e w' => e = .returned (.agg #[.int .i64 u, .int .i64 uk]) ∧ Below w.heap.size w w')) (HA : Hid (∀ w, Calls Try.prog 14 #[.agg #[.int .i64 a.lo, .int .i64 a.hi, .int .i64 a.m, .int .i64 a.r, .int .i64 a.k], .agg #[.int .i64 v, .int .i64 vk]] w fun e w' => e = .returned (.bool true) ∧ Below w.heap.size w w')) (HB : Hid (∀ w, Calls Try.prog 14 #[.agg #[.int .i64 b.lo, .int .i64 b.hi, .int .i64 b.m, .int .i64 b.r, .int .i64 b.k], .agg #[.int .i64 u, .int .i64 uk]] w fun e w' => e = .returned (.bool true) ∧ Below w.heap.size w w')) (PACK : Hid (∀ k, 4 ≤ k → k ≤ 10 → ∃ (c : Ab) (z : Int), Hid (∀ w, Calls Try.prog 30 #[.int .i64 k, .agg #[.int .i64 a.lo, .int .i64 a.hi, .int .i64 a.m, .int .i64 a.r, .int .i64 a.k], .agg #[.int .i64 b.lo, .int .i64 b.hi, .int .i64 b.m, .int .i64 b.r, .int .i64 b.k]] w fun e w' => e = .returned (.agg #[.int .i64 c.lo, .int .i64 c.hi, .int .i64 c.m, .int .i64 c.r, .int .i64 c.k]) ∧ Below w.heap.size w w') ∧ Hid (∀ w, Calls Try.prog 12 #[.agg #[.int .i64 c.lo, .int .i64 c.hi, .int .i64 c.m, .int .i64 c.r, .int .i64 c.k]] w fun e w' => e = .returned (.bool true) ∧ Below w.heap.size w w') ∧ Hid (∀ w, Calls Try.prog 35 #[.int .i64 k, .int .i64 v, .int .i64 u] w fun e w' => e = .returned (.int .i64 z) ∧ Below w.heap.size w w') ∧ Hid (∀ w, Calls Try.prog 14 #[.agg #[.int .i64 c.lo, .int .i64 c.hi, .int .i64 c.m, .int .i64 c.r, .int .i64 c.k], .agg #[.int .i64 z, .int .i64 (vk ||| uk : Nat)]] w fun e w' => e = .returned (.bool true) ∧ Below w.heap.size w w'))) (EM : Hid (bits .or .i64 (vk : Int) (uk : Int) = ((vk ||| uk : Nat) : Int))) (EX : Hid (∀ w, Calls Try.prog 9 #[] w fun e w' => e = .returned (.bool true) ∧ Below w.heap.size w w')) (CA : Hid (∀ w, Calls Try.prog 10 #[.agg #[.int .i64 x0, .int .i64 x1, .int .i64 x2, .int .i64 x3]] w fun e w' => e = .returned (.agg #[.int .i64 a.lo, .int .i64 a.hi, .int .i64 a.m, .int .i64 a.r, .int .i64 a.k]) ∧ Below w.heap.size w w')) (CB : Hid (∀ w, Calls Try.prog 10 #[.agg #[.int .i64 y0, .int .i64 y1, .int .i64 y2, .int .i64 y3]] w fun e w' => e = .returned (.agg #[.int .i64 b.lo, .int .i64 b.hi, .int .i64 b.m, .int .i64 b.r, .int .i64 b.k]) ∧ Below w.heap.size w w')) (w : World) :
    Calls Try.prog 4 #[.agg #[.int .i64 x0, .int .i64 x1, .int .i64 x2, .int .i64 x3], .agg #[.int .i64 y0, .int .i64 y1, .int .i64 y2, .int .i64 y3], .agg #[.int .i64 n0, .int .i64 n1, .int .i64 n2, .int .i64 n3]] w fun e w' => e = .returned (.bool true) ∧ Below w.heap.size w w' := by
  obtain ⟨w0, hw0⟩ : ∃ w0, (((w.alloc (.cells #[.int .i64 x0, .int .i64 x1, .int .i64 x2, .int .i64 x3] 23)).alloc (.cells #[.int .i64 y0, .int .i64 y1, .int .i64 y2, .int .i64 y3] 23)).alloc (.cells #[.int .i64 n0, .int .i64 n1, .int .i64 n2, .int .i64 n3] 51)) = w0 := ⟨_, rfl⟩
  have B0 : Hid (Below w.heap.size w w0) := hidA (by rw [← hw0]; exact ((((Below.refl _ _).alloc (by first | exact Nat.le_refl _ | (simp; done) | (simp; omega) | omega) _).alloc (by first | exact Nat.le_refl _ | (simp; done) | (simp; omega) | omega) _).alloc (by first | exact Nat.le_refl _ | (simp; done) | (simp; omega) | omega) _))
  have hsz : w.heap.size + 1 + 1 < w0.heap.size := by rw [← hw0]; simp
  have PK : Hid (∀ W, Below w0.heap.size w0 W → W.cell? ⟨w.heap.size, 0, none⟩ = some (.int .i64 x0) ∧ W.cell? ⟨w.heap.size, 1, none⟩ = some (.int .i64 x1) ∧ W.cell? ⟨w.heap.size, 2, none⟩ = some (.int .i64 x2) ∧ W.cell? ⟨w.heap.size, 3, none⟩ = some (.int .i64 x3) ∧ W.cell? ⟨w.heap.size + 1, 0, none⟩ = some (.int .i64 y0) ∧ W.cell? ⟨w.heap.size + 1, 1, none⟩ = some (.int .i64 y1) ∧ W.cell? ⟨w.heap.size + 1, 2, none⟩ = some (.int .i64 y2) ∧ W.cell? ⟨w.heap.size + 1, 3, none⟩ = some (.int .i64 y3) ∧ W.cell? ⟨w.heap.size + 1 + 1, 0, none⟩ = some (.int .i64 n0) ∧ W.cell? ⟨w.heap.size + 1 + 1, 1, none⟩ = some (.int .i64 n1) ∧ W.cell? ⟨w.heap.size + 1 + 1, 2, none⟩ = some (.int .i64 n2) ∧ W.cell? ⟨w.heap.size + 1 + 1, 3, none⟩ = some (.int .i64 n3) ∧ w.heap.size < W.heap.size ∧ w.heap.size + 1 < W.heap.size ∧ w.heap.size + 1 + 1 < W.heap.size) := hidA (fun W hW => ⟨cellA hW (by rw [← hw0]; simp [go_sem]), cellA hW (by rw [← hw0]; simp [go_sem]), cellA hW (by rw [← hw0]; simp [go_sem]), cellA hW (by rw [← hw0]; simp [go_sem]), cellA hW (by rw [← hw0]; simp [go_sem]), cellA hW (by rw [← hw0]; simp [go_sem]), cellA hW (by rw [← hw0]; simp [go_sem]), cellA hW (by rw [← hw0]; simp [go_sem]), cellA hW (by rw [← hw0]; simp [go_sem]), cellA hW (by rw [← hw0]; simp [go_sem]), cellA hW (by rw [← hw0]; simp [go_sem]), cellA hW (by rw [← hw0]; simp [go_sem]), (by have h0 := hW.size; have h1 := hsz; omega), (by have h0 := hW.size; have h1 := hsz; omega), (by have h0 := hW.size; have h1 := hsz; omega)⟩)
  have Hw := hidA hw0; clear hw0
  go_enter Try.func4, Try.ntmps4
  go_wp2_with fail
  rw [Hw.out]
  clear Hw
  have HS : Hid (Below w0.heap.size w0 w0) := hidA (Below.refl _ _)
  obtain ⟨c0, c1, c2, c3, c4, c5, c6, c7, c8, c9, c10, c11, z0, z1, z2⟩ := PK.out _ HS.out
  go_wp2_with fail
  refine (EX.out _).mono ?_
  rintro e w1 ⟨rfl, hb⟩
  have hs1 := stepA HS.out hb
  clear hb
  try clear hsD
  have HS' := hidA hs1; clear HS hs1; clear c0 c1 c2 c3 c4 c5 c6 c7 c8 c9 c10 c11 z0 z1 z2; have HS := HS'; clear HS'; obtain ⟨c0, c1, c2, c3, c4, c5, c6, c7, c8, c9, c10, c11, z0, z1, z2⟩ := PK.out _ HS.out
  have PN : Hid (∀ V, Below w1.heap.size w1 V → _) := hidA (fun V hV => PK.out V (stepA HS.out hV))
  have BN : Hid (Below w.heap.size w w1) := hidA (B0.out.trans (HS.out.mono (by first | omega | (dsimp only; omega) | (simp; done) | (simp; omega))))
  have hszN : w.heap.size + 1 + 1 < w1.heap.size := by first | assumption | omega
  clear B0 PK HS hsz
  clear c0 c1 c2 c3 c4 c5 c6 c7 c8 c9 c10 c11 z0 z1 z2
  have PK := PN
  have B0 := BN
  have hsz := hszN
  clear PN BN hszN
  have HS : Hid (Below w1.heap.size w1 w1) := hidA (Below.refl _ _)
  generalize w1 = w0 at *
  obtain ⟨c0, c1, c2, c3, c4, c5, c6, c7, c8, c9, c10, c11, z0, z1, z2⟩ := PK.out _ HS.out
  go_upto_region 4 with (fail)
  go_cut [8, 9] (fun s t W => ∃ g h : Nat, s = .pointer (some ⟨g, 0, none⟩) ∧ t = .pointer (some ⟨h, 0, none⟩) ∧ Below w0.heap.size w0 W ∧ W.cell? ⟨g, 0, none⟩ = some (.int .i64 a.lo) ∧ W.cell? ⟨g, 1, none⟩ = some (.int .i64 a.hi) ∧ W.cell? ⟨g, 2, none⟩ = some (.int .i64 a.m) ∧ W.cell? ⟨g, 3, none⟩ = some (.int .i64 a.r) ∧ W.cell? ⟨g, 4, none⟩ = some (.int .i64 a.k) ∧ W.cell? ⟨h, 0, none⟩ = some (.int .i64 b.lo) ∧ W.cell? ⟨h, 1, none⟩ = some (.int .i64 b.hi) ∧ W.cell? ⟨h, 2, none⟩ = some (.int .i64 b.m) ∧ W.cell? ⟨h, 3, none⟩ = some (.int .i64 b.r) ∧ W.cell? ⟨h, 4, none⟩ = some (.int .i64 b.k))
  case first =>
    have hsD := HS.out.drew
    have leD : w0.heap.size ≤ w0.heap.size := Nat.le_refl _
    go_region_held3 (fun w' => w'.cell? ⟨w.heap.size, 0, none⟩ = some (.int .i64 x0) ∧ w'.cell? ⟨w.heap.size, 1, none⟩ = some (.int .i64 x1) ∧ w'.cell? ⟨w.heap.size, 2, none⟩ = some (.int .i64 x2) ∧ w'.cell? ⟨w.heap.size, 3, none⟩ = some (.int .i64 x3) ∧ w'.cell? ⟨w.heap.size + 1, 0, none⟩ = some (.int .i64 y0) ∧ w'.cell? ⟨w.heap.size + 1, 1, none⟩ = some (.int .i64 y1) ∧ w'.cell? ⟨w.heap.size + 1, 2, none⟩ = some (.int .i64 y2) ∧ w'.cell? ⟨w.heap.size + 1, 3, none⟩ = some (.int .i64 y3) ∧ Below w0.heap.size w0 w')
      ((refine (fun hB => ⟨(PK.out _ hB).1, (PK.out _ hB).2.1, (PK.out _ hB).2.2.1, (PK.out _ hB).2.2.2.1, (PK.out _ hB).2.2.2.2.1, (PK.out _ hB).2.2.2.2.2.1, (PK.out _ hB).2.2.2.2.2.2.1, (PK.out _ hB).2.2.2.2.2.2.2.1, hB⟩) (?_ : Below w0.heap.size w0 _); exact (by repeat (first | with_reducible assumption | with_reducible exact Below.refl _ _ | with_reducible refine Below.setCell ?_ (by first | omega | (dsimp only; omega) | (simp; done) | (simp; omega)) _ | with_reducible refine Below.alloc ?_ (by first | omega | (dsimp only; omega) | (simp; done) | (simp; omega)) _ | with_reducible refine Below.drew ?_))))
      (first
        | ((go_at_call 10; (with_reducible refine (CA.out _).mono ?_); rintro e w1 ⟨rfl, hb1⟩; have hs1 : Below w0.heap.size w0 w1 := stepA (by repeat (first | with_reducible assumption | with_reducible exact Below.refl _ _ | with_reducible refine Below.setCell ?_ (by first | omega | (dsimp only; omega) | (simp; done) | (simp; omega)) _ | with_reducible refine Below.alloc ?_ (by first | omega | (dsimp only; omega) | (simp; done) | (simp; omega)) _ | with_reducible refine Below.drew ?_)) hb1; have le1 : w0.heap.size ≤ w1.heap.size := hs1.size; obtain ⟨hc1, hf1⟩ := bcell hb1; have sz1 := hb1.size; (try simp at sz1); (try have sa10 : w0.heap.size < w1.heap.size := by omega); (try have sb10 : w0.heap.size + 1 < w1.heap.size := by omega)))
        | ((go_at_call 10; (with_reducible refine (CB.out _).mono ?_); rintro e w2 ⟨rfl, hb2⟩; have hs2 : Below w0.heap.size w0 w2 := stepA (by repeat (first | with_reducible assumption | with_reducible exact Below.refl _ _ | with_reducible refine Below.setCell ?_ (by first | omega | (dsimp only; omega) | (simp; done) | (simp; omega)) _ | with_reducible refine Below.alloc ?_ (by first | omega | (dsimp only; omega) | (simp; done) | (simp; omega)) _ | with_reducible refine Below.drew ?_)) hb2; have le2 : w0.heap.size ≤ w2.heap.size := hs2.size; obtain ⟨hc2, hf2⟩ := bcell hb2; have sz2 := hb2.size; (try simp at sz2); (try have sa20 : w0.heap.size < w2.heap.size := by omega); (try have sb20 : w0.heap.size + 1 < w2.heap.size := by omega); (try have sa21 : w1.heap.size < w2.heap.size := by omega); (try have sb21 : w1.heap.size + 1 < w2.heap.size := by omega))))
    all_goals
      go_wp2_with fail
      go_meet
      exact ⟨_, _, rfl, rfl, (by repeat (first | with_reducible assumption | with_reducible exact Below.refl _ _ | with_reducible refine Below.setCell ?_ (by first | omega | (dsimp only; omega) | (simp; done) | (simp; omega)) _ | with_reducible refine Below.alloc ?_ (by first | omega | (dsimp only; omega) | (simp; done) | (simp; omega)) _ | with_reducible refine Below.drew ?_)), (by first | (simp [go_sem, *]; done) | ((try simp [go_sem, *]); exact World.cell?_setCell_same _ _ _ (show _ = some (.int .i64 0) by first | (simp [go_sem, *]; done) | exact (hc2 _ _ (by simp)).trans (by simp [go_sem]) | exact (hc2 _ _ (by simp; omega)).trans ((hc1 _ _ (by simp)).trans (by simp [go_sem]))))), (by first | (simp [go_sem, *]; done) | ((try simp [go_sem, *]); exact World.cell?_setCell_same _ _ _ (show _ = some (.int .i64 0) by first | (simp [go_sem, *]; done) | exact (hc2 _ _ (by simp)).trans (by simp [go_sem]) | exact (hc2 _ _ (by simp; omega)).trans ((hc1 _ _ (by simp)).trans (by simp [go_sem]))))), (by first | (simp [go_sem, *]; done) | ((try simp [go_sem, *]); exact World.cell?_setCell_same _ _ _ (show _ = some (.int .i64 0) by first | (simp [go_sem, *]; done) | exact (hc2 _ _ (by simp)).trans (by simp [go_sem]) | exact (hc2 _ _ (by simp; omega)).trans ((hc1 _ _ (by simp)).trans (by simp [go_sem]))))), (by first | (simp [go_sem, *]; done) | ((try simp [go_sem, *]); exact World.cell?_setCell_same _ _ _ (show _ = some (.int .i64 0) by first | (simp [go_sem, *]; done) | exact (hc2 _ _ (by simp)).trans (by simp [go_sem]) | exact (hc2 _ _ (by simp; omega)).trans ((hc1 _ _ (by simp)).trans (by simp [go_sem]))))), (by first | (simp [go_sem, *]; done) | ((try simp [go_sem, *]); exact World.cell?_setCell_same _ _ _ (show _ = some (.int .i64 0) by first | (simp [go_sem, *]; done) | exact (hc2 _ _ (by simp)).trans (by simp [go_sem]) | exact (hc2 _ _ (by simp; omega)).trans ((hc1 _ _ (by simp)).trans (by simp [go_sem]))))), (by first | (simp [go_sem, *]; done) | ((try simp [go_sem, *]); exact World.cell?_setCell_same _ _ _ (show _ = some (.int .i64 0) by first | (simp [go_sem, *]; done) | exact (hc2 _ _ (by simp)).trans (by simp [go_sem]) | exact (hc2 _ _ (by simp; omega)).trans ((hc1 _ _ (by simp)).trans (by simp [go_sem]))))), (by first | (simp [go_sem, *]; done) | ((try simp [go_sem, *]); exact World.cell?_setCell_same _ _ _ (show _ = some (.int .i64 0) by first | (simp [go_sem, *]; done) | exact (hc2 _ _ (by simp)).trans (by simp [go_sem]) | exact (hc2 _ _ (by simp; omega)).trans ((hc1 _ _ (by simp)).trans (by simp [go_sem]))))), (by first | (simp [go_sem, *]; done) | ((try simp [go_sem, *]); exact World.cell?_setCell_same _ _ _ (show _ = some (.int .i64 0) by first | (simp [go_sem, *]; done) | exact (hc2 _ _ (by simp)).trans (by simp [go_sem]) | exact (hc2 _ _ (by simp; omega)).trans ((hc1 _ _ (by simp)).trans (by simp [go_sem]))))), (by first | (simp [go_sem, *]; done) | ((try simp [go_sem, *]); exact World.cell?_setCell_same _ _ _ (show _ = some (.int .i64 0) by first | (simp [go_sem, *]; done) | exact (hc2 _ _ (by simp)).trans (by simp [go_sem]) | exact (hc2 _ _ (by simp; omega)).trans ((hc1 _ _ (by simp)).trans (by simp [go_sem]))))), (by first | (simp [go_sem, *]; done) | ((try simp [go_sem, *]); exact World.cell?_setCell_same _ _ _ (show _ = some (.int .i64 0) by first | (simp [go_sem, *]; done) | exact (hc2 _ _ (by simp)).trans (by simp [go_sem]) | exact (hc2 _ _ (by simp; omega)).trans ((hc1 _ _ (by simp)).trans (by simp [go_sem])))))⟩
  case rest =>
    obtain ⟨g, h, rfl, rfl, hB, p0, p1, p2, p3, p4, q0, q1, q2, q3, q4⟩ := hcut
    have P0 := hidA p0
    have Q0 := hidA q0
    have P1 := hidA p1
    have Q1 := hidA q1
    have P2 := hidA p2
    have Q2 := hidA q2
    have P3 := hidA p3
    have Q3 := hidA q3
    have P4 := hidA p4
    have Q4 := hidA q4
    clear p0 q0 p1 q1 p2 q2 p3 q3 p4 q4
    clear c0 c1 c2 c3 c4 c5 c6 c7 c8 c9 c10 c11 z0 z1 z2
    obtain ⟨c0, c1, c2, c3, c4, c5, c6, c7, c8, c9, c10, c11, z0, z1, z2⟩ := PK.out _ hB
    have N0 := hidA c8
    have N1 := hidA c9
    have N2 := hidA c10
    have N3 := hidA c11
    clear c0 c1 c2 c3 c4 c5 c6 c7 c8 c9 c10 c11 z0 z1 z2
    have BW := hidA (B0.out.trans (hB.mono (by first | omega | (dsimp only; omega) | (simp; done) | (simp; omega))))
    clear hB hsz
    have BN : Hid (Below w.heap.size w wc) := hidA BW.out
    have leW : w.heap.size ≤ wc.heap.size := BN.out.size
    clear B0 PK HS
    have PK : Hid (∀ V, Below wc.heap.size wc V → V.cell? ⟨w.heap.size + 1 + 1, 0, none⟩ = some (.int .i64 n0) ∧ V.cell? ⟨w.heap.size + 1 + 1, 1, none⟩ = some (.int .i64 n1) ∧ V.cell? ⟨w.heap.size + 1 + 1, 2, none⟩ = some (.int .i64 n2) ∧ V.cell? ⟨w.heap.size + 1 + 1, 3, none⟩ = some (.int .i64 n3) ∧ V.cell? ⟨g, 0, none⟩ = some (.int .i64 a.lo) ∧ V.cell? ⟨g, 1, none⟩ = some (.int .i64 a.hi) ∧ V.cell? ⟨g, 2, none⟩ = some (.int .i64 a.m) ∧ V.cell? ⟨g, 3, none⟩ = some (.int .i64 a.r) ∧ V.cell? ⟨g, 4, none⟩ = some (.int .i64 a.k) ∧ V.cell? ⟨h, 0, none⟩ = some (.int .i64 b.lo) ∧ V.cell? ⟨h, 1, none⟩ = some (.int .i64 b.hi) ∧ V.cell? ⟨h, 2, none⟩ = some (.int .i64 b.m) ∧ V.cell? ⟨h, 3, none⟩ = some (.int .i64 b.r) ∧ V.cell? ⟨h, 4, none⟩ = some (.int .i64 b.k) ∧ w.heap.size + 1 + 1 < V.heap.size ∧ g < V.heap.size ∧ h < V.heap.size) := hidA (fun V hW => ⟨cellA hW N0.out, cellA hW N1.out, cellA hW N2.out, cellA hW N3.out, cellA hW P0.out, cellA hW P1.out, cellA hW P2.out, cellA hW P3.out, cellA hW P4.out, cellA hW Q0.out, cellA hW Q1.out, cellA hW Q2.out, cellA hW Q3.out, cellA hW Q4.out, Nat.lt_of_lt_of_le (World.block_lt_of_cell? _ _ N0.out) hW.size, Nat.lt_of_lt_of_le (World.block_lt_of_cell? _ _ P0.out) hW.size, Nat.lt_of_lt_of_le (World.block_lt_of_cell? _ _ Q0.out) hW.size⟩)
    clear N0 N1 N2 N3 P0 P1 P2 P3 P4 Q0 Q1 Q2 Q3 Q4
    have B0 := BN
    clear BN
    have HS : Hid (Below wc.heap.size wc wc) := hidA (Below.refl _ _)
    generalize wc = w0 at *
    obtain ⟨c0, c1, c2, c3, c4, c5, c6, c7, c8, c9, c10, c11, c12, c13, z0, z1, z2⟩ := PK.out _ HS.out
    clear BW
    go_upto_region 5 with (fail)
    go_cut [10, 11] (fun s t W => ∃ e f : Nat, s = .pointer (some ⟨e, 0, none⟩) ∧ t = .pointer (some ⟨f, 0, none⟩) ∧ Below w0.heap.size w0 W ∧ W.cell? ⟨e, 0, none⟩ = some (.int .i64 v) ∧ W.cell? ⟨e, 1, none⟩ = some (.int .i64 vk) ∧ W.cell? ⟨f, 0, none⟩ = some (.int .i64 u) ∧ W.cell? ⟨f, 1, none⟩ = some (.int .i64 uk))
    case first =>
      have hsD := HS.out.drew
      have leD : w0.heap.size ≤ w0.heap.size := Nat.le_refl _
      go_region_held3 (fun w' => w'.cell? ⟨w.heap.size + 1 + 1, 0, none⟩ = some (.int .i64 n0) ∧ w'.cell? ⟨w.heap.size + 1 + 1, 1, none⟩ = some (.int .i64 n1) ∧ w'.cell? ⟨w.heap.size + 1 + 1, 2, none⟩ = some (.int .i64 n2) ∧ w'.cell? ⟨w.heap.size + 1 + 1, 3, none⟩ = some (.int .i64 n3) ∧ w'.cell? ⟨g, 0, none⟩ = some (.int .i64 a.lo) ∧ w'.cell? ⟨g, 1, none⟩ = some (.int .i64 a.hi) ∧ w'.cell? ⟨g, 2, none⟩ = some (.int .i64 a.m) ∧ w'.cell? ⟨g, 3, none⟩ = some (.int .i64 a.r) ∧ w'.cell? ⟨g, 4, none⟩ = some (.int .i64 a.k) ∧ w'.cell? ⟨h, 0, none⟩ = some (.int .i64 b.lo) ∧ w'.cell? ⟨h, 1, none⟩ = some (.int .i64 b.hi) ∧ w'.cell? ⟨h, 2, none⟩ = some (.int .i64 b.m) ∧ w'.cell? ⟨h, 3, none⟩ = some (.int .i64 b.r) ∧ w'.cell? ⟨h, 4, none⟩ = some (.int .i64 b.k) ∧ Below w0.heap.size w0 w')
        ((refine (fun hB => ⟨(PK.out _ hB).1, (PK.out _ hB).2.1, (PK.out _ hB).2.2.1, (PK.out _ hB).2.2.2.1, (PK.out _ hB).2.2.2.2.1, (PK.out _ hB).2.2.2.2.2.1, (PK.out _ hB).2.2.2.2.2.2.1, (PK.out _ hB).2.2.2.2.2.2.2.1, (PK.out _ hB).2.2.2.2.2.2.2.2.1, (PK.out _ hB).2.2.2.2.2.2.2.2.2.1, (PK.out _ hB).2.2.2.2.2.2.2.2.2.2.1, (PK.out _ hB).2.2.2.2.2.2.2.2.2.2.2.1, (PK.out _ hB).2.2.2.2.2.2.2.2.2.2.2.2.1, (PK.out _ hB).2.2.2.2.2.2.2.2.2.2.2.2.2.1, hB⟩) (?_ : Below w0.heap.size w0 _); exact (by repeat (first | with_reducible assumption | with_reducible exact Below.refl _ _ | with_reducible refine Below.setCell ?_ (by first | omega | (dsimp only; omega) | (simp; done) | (simp; omega)) _ | with_reducible refine Below.alloc ?_ (by first | omega | (dsimp only; omega) | (simp; done) | (simp; omega)) _ | with_reducible refine Below.drew ?_))))
        (first
          | ((go_at_call 34; (with_reducible refine (CV.out _).mono ?_); rintro e w1 ⟨rfl, hb1⟩; have hs1 : Below w0.heap.size w0 w1 := stepA (by repeat (first | with_reducible assumption | with_reducible exact Below.refl _ _ | with_reducible refine Below.setCell ?_ (by first | omega | (dsimp only; omega) | (simp; done) | (simp; omega)) _ | with_reducible refine Below.alloc ?_ (by first | omega | (dsimp only; omega) | (simp; done) | (simp; omega)) _ | with_reducible refine Below.drew ?_)) hb1; have le1 : w0.heap.size ≤ w1.heap.size := hs1.size; obtain ⟨hc1, hf1⟩ := bcell hb1; have sz1 := hb1.size; (try simp at sz1); (try have sa10 : w0.heap.size < w1.heap.size := by omega); (try have sb10 : w0.heap.size + 1 < w1.heap.size := by omega)))
          | ((go_at_call 34; (with_reducible refine (CW.out _).mono ?_); rintro e w2 ⟨rfl, hb2⟩; have hs2 : Below w0.heap.size w0 w2 := stepA (by repeat (first | with_reducible assumption | with_reducible exact Below.refl _ _ | with_reducible refine Below.setCell ?_ (by first | omega | (dsimp only; omega) | (simp; done) | (simp; omega)) _ | with_reducible refine Below.alloc ?_ (by first | omega | (dsimp only; omega) | (simp; done) | (simp; omega)) _ | with_reducible refine Below.drew ?_)) hb2; have le2 : w0.heap.size ≤ w2.heap.size := hs2.size; obtain ⟨hc2, hf2⟩ := bcell hb2; have sz2 := hb2.size; (try simp at sz2); (try have sa20 : w0.heap.size < w2.heap.size := by omega); (try have sb20 : w0.heap.size + 1 < w2.heap.size := by omega); (try have sa21 : w1.heap.size < w2.heap.size := by omega); (try have sb21 : w1.heap.size + 1 < w2.heap.size := by omega))))
      all_goals
        go_wp2_with fail
        go_meet
        exact ⟨_, _, rfl, rfl, (by repeat (first | with_reducible assumption | with_reducible exact Below.refl _ _ | with_reducible refine Below.setCell ?_ (by first | omega | (dsimp only; omega) | (simp; done) | (simp; omega)) _ | with_reducible refine Below.alloc ?_ (by first | omega | (dsimp only; omega) | (simp; done) | (simp; omega)) _ | with_reducible refine Below.drew ?_)), (by first | (simp [go_sem, *]; done) | ((try simp [go_sem, *]); exact World.cell?_setCell_same _ _ _ (show _ = some (.int .i64 0) by first | (simp [go_sem, *]; done) | exact (hc2 _ _ (by simp)).trans (by simp [go_sem]) | exact (hc2 _ _ (by simp; omega)).trans ((hc1 _ _ (by simp)).trans (by simp [go_sem]))))), (by first | (simp [go_sem, *]; done) | ((try simp [go_sem, *]); exact World.cell?_setCell_same _ _ _ (show _ = some (.int .i64 0) by first | (simp [go_sem, *]; done) | exact (hc2 _ _ (by simp)).trans (by simp [go_sem]) | exact (hc2 _ _ (by simp; omega)).trans ((hc1 _ _ (by simp)).trans (by simp [go_sem]))))), (by first | (simp [go_sem, *]; done) | ((try simp [go_sem, *]); exact World.cell?_setCell_same _ _ _ (show _ = some (.int .i64 0) by first | (simp [go_sem, *]; done) | exact (hc2 _ _ (by simp)).trans (by simp [go_sem]) | exact (hc2 _ _ (by simp; omega)).trans ((hc1 _ _ (by simp)).trans (by simp [go_sem]))))), (by first | (simp [go_sem, *]; done) | ((try simp [go_sem, *]); exact World.cell?_setCell_same _ _ _ (show _ = some (.int .i64 0) by first | (simp [go_sem, *]; done) | exact (hc2 _ _ (by simp)).trans (by simp [go_sem]) | exact (hc2 _ _ (by simp; omega)).trans ((hc1 _ _ (by simp)).trans (by simp [go_sem])))))⟩
    case rest =>
      obtain ⟨e, f, rfl, rfl, hB, r0, r1, s0, s1⟩ := hcut
      have V0 := hidA r0
      have V1 := hidA r1
      have U0 := hidA s0
      have U1 := hidA s1
      clear r0 r1 s0 s1
      clear c0 c1 c2 c3 c4 c5 c6 c7 c8 c9 c10 c11 c12 c13 z0 z1 z2
      obtain ⟨c0, c1, c2, c3, c4, c5, c6, c7, c8, c9, c10, c11, c12, c13, z0, z1, z2⟩ := PK.out _ hB
      have P0 := hidA c4
      have Q0 := hidA c9
      have P1 := hidA c5
      have Q1 := hidA c10
      have P2 := hidA c6
      have Q2 := hidA c11
      have P3 := hidA c7
      have Q3 := hidA c12
      have P4 := hidA c8
      have Q4 := hidA c13
      clear c0 c1 c2 c3 c4 c5 c6 c7 c8 c9 c10 c11 c12 c13 z0 z1 z2
      have BW := hidA (B0.out.trans (hB.mono (by first | omega | (dsimp only; omega) | (simp; done) | (simp; omega))))
      clear hB
      have BN : Hid (Below w.heap.size w wc) := hidA BW.out
      have leW : w.heap.size ≤ wc.heap.size := BN.out.size
      clear B0 PK HS
      have PK : Hid (∀ V, Below wc.heap.size wc V → V.cell? ⟨g, 0, none⟩ = some (.int .i64 a.lo) ∧ V.cell? ⟨g, 1, none⟩ = some (.int .i64 a.hi) ∧ V.cell? ⟨g, 2, none⟩ = some (.int .i64 a.m) ∧ V.cell? ⟨g, 3, none⟩ = some (.int .i64 a.r) ∧ V.cell? ⟨g, 4, none⟩ = some (.int .i64 a.k) ∧ V.cell? ⟨h, 0, none⟩ = some (.int .i64 b.lo) ∧ V.cell? ⟨h, 1, none⟩ = some (.int .i64 b.hi) ∧ V.cell? ⟨h, 2, none⟩ = some (.int .i64 b.m) ∧ V.cell? ⟨h, 3, none⟩ = some (.int .i64 b.r) ∧ V.cell? ⟨h, 4, none⟩ = some (.int .i64 b.k) ∧ V.cell? ⟨e, 0, none⟩ = some (.int .i64 v) ∧ V.cell? ⟨e, 1, none⟩ = some (.int .i64 vk) ∧ V.cell? ⟨f, 0, none⟩ = some (.int .i64 u) ∧ V.cell? ⟨f, 1, none⟩ = some (.int .i64 uk) ∧ g < V.heap.size ∧ h < V.heap.size ∧ e < V.heap.size ∧ f < V.heap.size) := hidA (fun V hW => ⟨cellA hW P0.out, cellA hW P1.out, cellA hW P2.out, cellA hW P3.out, cellA hW P4.out, cellA hW Q0.out, cellA hW Q1.out, cellA hW Q2.out, cellA hW Q3.out, cellA hW Q4.out, cellA hW V0.out, cellA hW V1.out, cellA hW U0.out, cellA hW U1.out, Nat.lt_of_lt_of_le (World.block_lt_of_cell? _ _ P0.out) hW.size, Nat.lt_of_lt_of_le (World.block_lt_of_cell? _ _ Q0.out) hW.size, Nat.lt_of_lt_of_le (World.block_lt_of_cell? _ _ V0.out) hW.size, Nat.lt_of_lt_of_le (World.block_lt_of_cell? _ _ U0.out) hW.size⟩)
      clear P0 P1 P2 P3 P4 Q0 Q1 Q2 Q3 Q4 V0 V1 U0 U1
      have B0 := BN
      clear BN
      have HS : Hid (Below wc.heap.size wc wc) := hidA (Below.refl _ _)
      generalize wc = w0 at *
      obtain ⟨c0, c1, c2, c3, c4, c5, c6, c7, c8, c9, c10, c11, c12, c13, z0, z1, z2, z3⟩ := PK.out _ HS.out
      clear BW
      go_wp2_with (first | (go_at_call 14; (with_reducible refine (HA.out _).mono ?_); rintro e w1 ⟨rfl, hb⟩; have hs1 := stepA HS.out hb; clear hb; have HS' := hidA hs1; clear HS hs1; clear c0 c1 c2 c3 c4 c5 c6 c7 c8 c9 c10 c11 c12 c13 z0 z1 z2 z3; have HS := HS'; clear HS'; obtain ⟨c0, c1, c2, c3, c4, c5, c6, c7, c8, c9, c10, c11, c12, c13, z0, z1, z2, z3⟩ := PK.out _ HS.out) | (go_at_call 14; (with_reducible refine (HB.out _).mono ?_); rintro e w1 ⟨rfl, hb⟩; have hs1 := stepA HS.out hb; clear hb; have HS' := hidA hs1; clear HS hs1; clear c0 c1 c2 c3 c4 c5 c6 c7 c8 c9 c10 c11 c12 c13 z0 z1 z2 z3; have HS := HS'; clear HS'; obtain ⟨c0, c1, c2, c3, c4, c5, c6, c7, c8, c9, c10, c11, c12, c13, z0, z1, z2, z3⟩ := PK.out _ HS.out))
      go_loopw [12] (fun s W => ∃ k : Int, 4 ≤ k ∧ k ≤ 11 ∧ s = .int .i64 k ∧ Below w0.heap.size w0 W) (fun s _ => (11 - intOf s).toNat)
      case atStart => exact ⟨4, by omega, by omega, rfl, HS.out⟩
      case round =>
        obtain ⟨k, k1, k2, rfl, hB⟩ := hrel
        have HR := hidA hB
        clear hB HS
        clear c0 c1 c2 c3 c4 c5 c6 c7 c8 c9 c10 c11 c12 c13 z0 z1 z2 z3
        by_cases hk : k ≤ 10
        · obtain ⟨c, z, OC, VC, NC, HC⟩ := PACK.out k k1 hk
          have HS := HR
          obtain ⟨c0, c1, c2, c3, c4, c5, c6, c7, c8, c9, c10, c11, c12, c13, z0, z1, z2, z3⟩ := PK.out _ HS.out
          go_wp2_with (go_at_call 30; (with_reducible refine (OC.out _).mono ?_); rintro e1 w1 ⟨rfl, hb⟩; have hs1 := stepA HS.out hb; clear hb; have HS' := hidA hs1; clear HS hs1; clear c0 c1 c2 c3 c4 c5 c6 c7 c8 c9 c10 c11 c12 c13 z0 z1 z2 z3; have HS := HS'; clear HS'; obtain ⟨c0, c1, c2, c3, c4, c5, c6, c7, c8, c9, c10, c11, c12, c13, z0, z1, z2, z3⟩ := PK.out _ HS.out)
          obtain ⟨d, hd⟩ : ∃ d, w1.heap.size = d := ⟨_, rfl⟩
          obtain ⟨w2, hw2⟩ : ∃ w2, w1.alloc (.cells #[.int .i64 c.lo, .int .i64 c.hi, .int .i64 c.m, .int .i64 c.r, .int .i64 c.k] 27) = w2 := ⟨_, rfl⟩
          have U : Hid (Below w1.heap.size w1 w2) := hidA (alloc_is hw2)
          have D := row_is hw2
          rw [hw2]
          try rw [hd]
          rw [hd] at D
          clear hw2 hd
          have hs1 := stepA HS.out U.out
          clear U
          have HS' := hidA hs1; clear HS hs1; clear c0 c1 c2 c3 c4 c5 c6 c7 c8 c9 c10 c11 c12 c13 z0 z1 z2 z3; have HS := HS'; clear HS'; obtain ⟨c0, c1, c2, c3, c4, c5, c6, c7, c8, c9, c10, c11, c12, c13, z0, z1, z2, z3⟩ := PK.out _ HS.out
          have D0 := hidA (D 0 _ rfl)
          have D1 := hidA (D 1 _ rfl)
          have D2 := hidA (D 2 _ rfl)
          have D3 := hidA (D 3 _ rfl)
          have D4 := hidA (D 4 _ rfl)
          clear D
          have E0 := hidA c10
          have E1 := hidA c11
          have F0 := hidA c12
          have F1 := hidA c13
          have BO := HS
          clear c0 c1 c2 c3 c4 c5 c6 c7 c8 c9 c10 c11 c12 c13 z0 z1 z2 z3
          have BW := hidA (B0.out.trans (HS.out.mono (by first | omega | (dsimp only; omega) | (simp; done) | (simp; omega))))
          have PO := PK
          have BB := B0
          have BN : Hid (Below w.heap.size w w2) := hidA BW.out
          have leW : w.heap.size ≤ w2.heap.size := BN.out.size
          clear B0 PK HS
          have PK : Hid (∀ V, Below w2.heap.size w2 V → V.cell? ⟨d, 0, none⟩ = some (.int .i64 c.lo) ∧ V.cell? ⟨d, 1, none⟩ = some (.int .i64 c.hi) ∧ V.cell? ⟨d, 2, none⟩ = some (.int .i64 c.m) ∧ V.cell? ⟨d, 3, none⟩ = some (.int .i64 c.r) ∧ V.cell? ⟨d, 4, none⟩ = some (.int .i64 c.k) ∧ V.cell? ⟨e, 0, none⟩ = some (.int .i64 v) ∧ V.cell? ⟨e, 1, none⟩ = some (.int .i64 vk) ∧ V.cell? ⟨f, 0, none⟩ = some (.int .i64 u) ∧ V.cell? ⟨f, 1, none⟩ = some (.int .i64 uk) ∧ d < V.heap.size ∧ e < V.heap.size ∧ f < V.heap.size) := hidA (fun V hW => ⟨cellA hW D0.out, cellA hW D1.out, cellA hW D2.out, cellA hW D3.out, cellA hW D4.out, cellA hW E0.out, cellA hW E1.out, cellA hW F0.out, cellA hW F1.out, Nat.lt_of_lt_of_le (World.block_lt_of_cell? _ _ D0.out) hW.size, Nat.lt_of_lt_of_le (World.block_lt_of_cell? _ _ E0.out) hW.size, Nat.lt_of_lt_of_le (World.block_lt_of_cell? _ _ F0.out) hW.size⟩)
          clear D0 D1 D2 D3 D4 E0 E1 F0 F1
          have B0 := BN
          clear BN
          have HS : Hid (Below w2.heap.size w2 w2) := hidA (Below.refl _ _)
          generalize w2 = w0 at *
          obtain ⟨c0, c1, c2, c3, c4, c5, c6, c7, c8, z0, z1, z2⟩ := PK.out _ HS.out
          clear BW
          have em := EM.out
          have hsD := HS.out.drew
          go_region_held3 (fun w' => w'.cell? ⟨d, 0, none⟩ = some (.int .i64 c.lo) ∧ w'.cell? ⟨d, 1, none⟩ = some (.int .i64 c.hi) ∧ w'.cell? ⟨d, 2, none⟩ = some (.int .i64 c.m) ∧ w'.cell? ⟨d, 3, none⟩ = some (.int .i64 c.r) ∧ w'.cell? ⟨d, 4, none⟩ = some (.int .i64 c.k) ∧ w'.cell? ⟨e, 0, none⟩ = some (.int .i64 v) ∧ w'.cell? ⟨e, 1, none⟩ = some (.int .i64 vk) ∧ w'.cell? ⟨f, 0, none⟩ = some (.int .i64 u) ∧ w'.cell? ⟨f, 1, none⟩ = some (.int .i64 uk) ∧ Below w0.heap.size w0 w')
            (first | with_reducible exact ⟨cellD c0, cellD c1, cellD c2, cellD c3, cellD c4, cellD c5, cellD c6, cellD c7, cellD c8, hsD⟩ | with_reducible exact ⟨(PK.out _ (by assumption)).1, (PK.out _ (by assumption)).2.1, (PK.out _ (by assumption)).2.2.1, (PK.out _ (by assumption)).2.2.2.1, (PK.out _ (by assumption)).2.2.2.2.1, (PK.out _ (by assumption)).2.2.2.2.2.1, (PK.out _ (by assumption)).2.2.2.2.2.2.1, (PK.out _ (by assumption)).2.2.2.2.2.2.2.1, (PK.out _ (by assumption)).2.2.2.2.2.2.2.2.1, by assumption⟩)
            (first
              | ((go_at_call 12; refine (VC.out _).mono ?_; rintro e w1 ⟨rfl, hb1⟩; have hs1 : Below w0.heap.size w0 w1 := stepA (by assumption) hb1))
              | ((go_at_call 35; refine (NC.out _).mono ?_; rintro e w1 ⟨rfl, hb1⟩; have hs1 : Below w0.heap.size w0 w1 := stepA (by assumption) hb1))
              | ((go_at_call 14; refine (HC.out _).mono ?_; rintro e w1 ⟨rfl, hb1⟩; have hs1 : Below w0.heap.size w0 w1 := stepA (by assumption) hb1)))
          try clear hsD
          have HS' := hidA hs1; clear HS hs1; clear c0 c1 c2 c3 c4 c5 c6 c7 c8 z0 z1 z2; have HS := HS'; clear HS'; obtain ⟨c0, c1, c2, c3, c4, c5, c6, c7, c8, z0, z1, z2⟩ := PK.out _ HS.out
          go_wp2
          go_roundw
          case rel => exact ⟨k + 1, by omega, by omega, rfl, stepA BO.out HS.out⟩
          case measure => simp [intOf]; omega
        · have hk11 : k = 11 := by omega
          subst hk11
          go_wp2
          go_ret
          exact ⟨rfl, (by repeat (first | with_reducible exact Below.refl _ _ | with_reducible exact HR.out | with_reducible exact B0.out | with_reducible refine Below.setCell ?_ (by first | omega | (dsimp only; omega) | (simp; done) | (simp; omega)) _ | with_reducible refine Below.alloc ?_ (by first | omega | (dsimp only; omega) | (simp; done) | (simp; omega)) _ | with_reducible refine Below.drew ?_ | with_reducible refine drewnA ?_ _ | with_reducible refine Below.trans ?_ (HR.out.mono (by first | omega | (dsimp only; omega) | (simp; done) | (simp; omega))) | with_reducible refine Below.trans ?_ (B0.out.mono (by first | omega | (dsimp only; omega) | (simp; done) | (simp; omega)))))⟩
end Go.Proofs.Ytnholabamjodhaa

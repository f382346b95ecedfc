import Derived.Test.YtdopjadlbhacfaaAj
namespace Go.Proofs.Ytdopjadlbhacfaa
section
open Go.RowKit Go.Instr Sp
set_option linter.unusedVariables false
set_option linter.unusedSimpArgs false

/-! The reference's operators on values and on sets. -/
set_option maxHeartbeats 1000000 in
theorem ropA (n x y : Int) (hx : inV x) (hy : inV y) (w : World) :
    Calls Try.prog 58 #[.int .i64 n, .int .i64 x, .int .i64 y] w fun e w' => e = .returned (.int .i64 (opM n x y)) ∧ w = w' := by
  have C1 := hidA (fun (w : World) => by have := wrapA x w; rw [wr_id hx.1 hx.2] at this; exact this)
  have C2 := hidA (fun (w : World) => by have := wrapA y w; rw [wr_id hy.1 hy.2] at this; exact this)
  obtain ⟨x1, x2⟩ := hx
  obtain ⟨y1, y2⟩ := hy
  by_cases h : n < 4 ∨ 10 < n
  · have e : opM n x y = 0 := by
      unfold opM
      rw [if_neg (by omega), if_neg (by omega), if_neg (by omega), if_neg (by omega), if_neg (by omega), if_neg (by omega), if_neg (by omega)]
    rw [e]
    have b4 : (n == 4) = false := by simp; omega
    have b5 : (n == 5) = false := by simp; omega
    have b6 : (n == 6) = false := by simp; omega
    have b7 : (n == 7) = false := by simp; omega
    have b8 : (n == 8) = false := by simp; omega
    have b9 : (n == 9) = false := by simp; omega
    have b10 : (n == 10) = false := by simp; omega
    clear h e
    go_enter Try.func58, Try.ntmps58
    go_wp2_with (first | (go_at_call 11; (with_reducible refine (C1.out _).mono ?_); rintro e w2 ⟨rfl, rfl⟩) | (go_at_call 11; (with_reducible refine (C2.out _).mono ?_); rintro e w2 ⟨rfl, rfl⟩))
    go_ret
    exact ⟨rfl, rfl⟩
  · have hn : n = 4 ∨ n = 5 ∨ n = 6 ∨ n = 7 ∨ n = 8 ∨ n = 9 ∨ n = 10 := by omega
    clear h
    have pm := mul_far (x := x) (y := y) (by omega) (by omega) (by omega) (by omega)
    by_cases hy0 : y = 0
    · subst hy0
      have Z := hidA (Int.tmod_zero x)
      have Z2 := hidA (Int.tdiv_zero x)
      rcases hn with rfl | rfl | rfl | rfl | rfl | rfl | rfl
      all_goals
        go_enter Try.func58, Try.ntmps58
        go_wp2_with (first | (go_at_call_of 11 (Value.int .i64 x); refine (C1.out _).mono ?_; rintro e w2 ⟨rfl, rfl⟩) | (go_at_call_of 11 (Value.int .i64 0); refine (C2.out _).mono ?_; rintro e w2 ⟨rfl, rfl⟩) | (go_at_call 11; refine (wrapA _ _).mono ?_; rintro e w2 ⟨rfl, rfl⟩))
        all_goals
          go_ret
          exact ⟨retA (by simp only [opM, Z.out, Z2.out]; first | rfl | (simp; done) | (simp [wr]; done) | (simp; omega) | (simp [wr]; omega)), rfl⟩
    · have hyb : (y == 0) = false := by simpa using hy0
      have hyc : (y != 0) = true := by simpa using hy0
      have sz := tdiv_size x y
      have u1 : absI x ≤ 2147483648 := by unfold absI; omega
      obtain ⟨t1, t2, t3, t4⟩ := tmod_is x y
      have t3 := t3 hy0
      have u2 : absI y ≤ 2147483648 := by unfold absI; omega
      have hq : IntKind.i64.wrap (x.tdiv y) = x.tdiv y := IntWalk.i64_in _ (by omega)
      have hr : IntKind.i64.wrap (x.tmod y) = x.tmod y := IntWalk.i64_in _ (by omega)
      have hp : IntKind.i64.wrap (x * y) = x * y := IntWalk.i64_in _ (by omega)
      have HT := hidA (show x.tdiv y = x.tdiv y ∧ x.tmod y = x.tmod y from ⟨rfl, rfl⟩)
      clear t1 t2 t4
      rcases hn with rfl | rfl | rfl | rfl | rfl | rfl | rfl
      all_goals
        go_enter Try.func58, Try.ntmps58
        go_wp2_with (first | (go_at_call_of 11 (Value.int .i64 x); (with_reducible refine (C1.out _).mono ?_); rintro e w2 ⟨rfl, rfl⟩) | (go_at_call_of 11 (Value.int .i64 y); (with_reducible refine (C2.out _).mono ?_); rintro e w2 ⟨rfl, rfl⟩) | (go_at_call 11; refine (wrapA _ _).mono ?_; rintro e w2 ⟨rfl, rfl⟩))
        all_goals
          go_ret
          exact ⟨retA (by simp only [opM]; first | rfl | (simp; done) | (simp; omega)), rfl⟩
end

section
open Go.RowKit Go.Instr Sp
set_option linter.unusedVariables false
set_option linter.unusedSimpArgs false

/-! The reference's operators on sets. -/
set_option maxHeartbeats 1000000 in
theorem opS_one (a b : Ab) (A : Val a) (B : Val b) (V : Ab) (em : bits .or .i64 (a.k : Int) (b.k : Int) = ((a.k ||| b.k) : Nat)) (n x : Int) (hs : (stp a == 0) = true) (ht : (stp b == 0) = true) (RC : Hid (∀ w, Calls Try.prog 58 #[.int .i64 n, .int .i64 a.lo, .int .i64 b.lo] w fun e w' => e = .returned (.int .i64 x) ∧ w = w')) (OC : Hid (∀ w, Calls Try.prog 17 #[.agg #[.int .i64 x, .int .i64 (a.k ||| b.k)]] w fun e w' => e = .returned (.agg #[.int .i64 V.lo, .int .i64 V.hi, .int .i64 V.m, .int .i64 V.r, .int .i64 V.k]) ∧ Below w.heap.size w w')) (w : World) :
    Calls Try.prog 31 #[.int .i64 n, .agg #[.int .i64 a.lo, .int .i64 a.hi, .int .i64 a.m, .int .i64 a.r, .int .i64 a.k], .agg #[.int .i64 b.lo, .int .i64 b.hi, .int .i64 b.m, .int .i64 b.r, .int .i64 b.k]] w fun e w' => e = .returned (.agg #[.int .i64 V.lo, .int .i64 V.hi, .int .i64 V.m, .int .i64 V.r, .int .i64 V.k]) ∧ Below w.heap.size w w' := by
  have al := A.l; have ah := A.h; have ao := A.o; have bl := B.l; have bh := B.h; have bo := B.o
  obtain ⟨w0, hw0⟩ : ∃ w0, (((w.alloc (.cells #[.int .i64 a.lo, .int .i64 a.hi, .int .i64 a.m, .int .i64 a.r, .int .i64 a.k] 27)).alloc (.cells #[.int .i64 b.lo, .int .i64 b.hi, .int .i64 b.m, .int .i64 b.r, .int .i64 b.k] 27)).alloc (.cells #[.int .i64 0, .int .i64 0, .int .i64 0, .int .i64 0, .int .i64 0] 27)) = w0 := ⟨_, rfl⟩
  have B0 : Hid (Below w.heap.size w w0) := hidA (by rw [← hw0]; exact (alA (alA (alA (Below.refl _ _) _) _) _))
  have hsz : w.heap.size + 1 + 1 < w0.heap.size := by rw [← hw0]; simp
  have PK : Hid (∀ W, Below w0.heap.size w0 W → abF W (w.heap.size) a (abF W (w.heap.size + 1) b (W.cell? ⟨w.heap.size + 1 + 1, 0, none⟩ = some (.int .i64 0) ∧ W.cell? ⟨w.heap.size + 1 + 1, 1, none⟩ = some (.int .i64 0) ∧ W.cell? ⟨w.heap.size + 1 + 1, 2, none⟩ = some (.int .i64 0) ∧ W.cell? ⟨w.heap.size + 1 + 1, 3, none⟩ = some (.int .i64 0) ∧ W.cell? ⟨w.heap.size + 1 + 1, 4, none⟩ = some (.int .i64 0) ∧ w.heap.size < W.heap.size ∧ w.heap.size + 1 < W.heap.size ∧ w.heap.size + 1 + 1 < W.heap.size ∧ (∀ i, W.frozen? ⟨w.heap.size + 1 + 1, i, none⟩ = false)))) := hidA (fun W hW => by and_intros <;> first | exact cellA hW (by rw [← hw0]; simp [go_sem]) | exact (by have h0 := hW.size; have h1 := hsz; omega) | exact (fun i => (hW.frozen (p := ⟨w.heap.size + 1 + 1, i, none⟩) (show w.heap.size + 1 + 1 < w0.heap.size by have h1 := hsz; omega)).trans (by rw [← hw0]; simp [go_sem])))
  have Hw := hidA hw0; clear hw0
  go_enter Try.func31, Try.ntmps31
  go_wp2_with fail
  rw [Hw.out]
  clear Hw
  have HS : Hid (Below w0.heap.size w0 w0) := hidA (Below.refl _ _)
  obtain ⟨c0, c1, c2, c3, c4, c5, c6, c7, c8, c9, c10, c11, c12, c13, c14, z0, z1, z2, fr2⟩ := PK.out _ HS.out
  go_wp2_with (first | (go_at_call 50; (with_reducible refine (step_any _ _).mono ?_); rintro e w1 ⟨rfl, hb⟩; have hs1 := stepA HS.out hb; clear hb; clear HS; have HS := hidA hs1; clear hs1 c0 c1 c2 c3 c4 c5 c6 c7 c8 c9 c10 c11 c12 c13 c14 z0 z1 z2 fr2; obtain ⟨c0, c1, c2, c3, c4, c5, c6, c7, c8, c9, c10, c11, c12, c13, c14, z0, z1, z2, fr2⟩ := PK.out _ HS.out) | (go_at_call 58; refine (RC.out _).mono ?_; rintro e w1 ⟨rfl, rfl⟩) | (go_at_call 17; (with_reducible refine (OC.out _).mono ?_); rintro e w1 ⟨rfl, hb⟩; have hs1 := stepA HS.out hb; clear hb; clear HS; have HS := hidA hs1; clear hs1 c0 c1 c2 c3 c4 c5 c6 c7 c8 c9 c10 c11 c12 c13 c14 z0 z1 z2 fr2; obtain ⟨c0, c1, c2, c3, c4, c5, c6, c7, c8, c9, c10, c11, c12, c13, c14, z0, z1, z2, fr2⟩ := PK.out _ HS.out))
  exact bodyPost_ret (v := .agg #[.int .i64 V.lo, .int .i64 V.hi, .int .i64 V.m, .int .i64 V.r, .int .i64 V.k]) (by simp [results, Try.results31, go_sem, c10, c11, c12, c13, c14, z2]) rfl ⟨by rfl, (by repeat (first | with_reducible exact Below.refl _ _ | with_reducible exact HS.out | with_reducible exact B0.out | with_reducible refine Below.setCell ?_ (by first | omega | simp <;> omega) _ | with_reducible refine Below.alloc ?_ (by first | omega | simp <;> omega) _ | with_reducible refine Below.drew ?_ | with_reducible refine drewnA ?_ _ | with_reducible refine Below.trans ?_ (HS.out.mono (by first | omega | simp <;> omega)) | with_reducible refine Below.trans ?_ (B0.out.mono (by first | omega | simp <;> omega))))⟩
set_option maxHeartbeats 16000000 in
theorem opS_core (a b : Ab) (A : Val a) (B : Val b) (V : Ab) (em : bits .or .i64 (a.k : Int) (b.k : Int) = ((a.k ||| b.k) : Nat)) (s0 : 0 ≤ stp a) (s1 : stp a ≤ 4294967296) (t0 : 0 ≤ stp b) (t1 : stp b ≤ 4294967296) (G P : Int) (g0 : 0 ≤ G) (g1 : G ≤ 4294967296) (hG : gc (stp a) (stp b) = G) (hP : gc G (absI (a.lo - b.lo)) = P) (ab0 : 0 ≤ absI (a.lo - b.lo)) (ab1 : absI (a.lo - b.lo) ≤ 8589934592) (n : Int) (hsub : (stp a == 0) = false ∨ ((stp a == 0) = true ∧ (stp b == 0) = false)) (hc : (n = 4 ∧ Hid (∀ w, Calls Try.prog 59 #[.int .i64 (a.lo + b.lo), .int .i64 (a.hi + b.hi), .int .i64 G, .int .i64 (a.k ||| b.k)] w fun e w' => e = .returned (.agg #[.int .i64 V.lo, .int .i64 V.hi, .int .i64 V.m, .int .i64 V.r, .int .i64 V.k]) ∧ Below w.heap.size w w')) ∨ (n = 5 ∧ Hid (∀ w, Calls Try.prog 59 #[.int .i64 (a.lo - b.hi), .int .i64 (a.hi - b.lo), .int .i64 G, .int .i64 (a.k ||| b.k)] w fun e w' => e = .returned (.agg #[.int .i64 V.lo, .int .i64 V.hi, .int .i64 V.m, .int .i64 V.r, .int .i64 V.k]) ∧ Below w.heap.size w w')) ∨ (n = 6 ∧ Hid (∀ w, Calls Try.prog 60 #[.agg #[.int .i64 a.lo, .int .i64 a.hi, .int .i64 a.m, .int .i64 a.r, .int .i64 a.k], .agg #[.int .i64 b.lo, .int .i64 b.hi, .int .i64 b.m, .int .i64 b.r, .int .i64 b.k], .int .i64 (a.k ||| b.k)] w fun e w' => e = .returned (.agg #[.int .i64 V.lo, .int .i64 V.hi, .int .i64 V.m, .int .i64 V.r, .int .i64 V.k]) ∧ Below w.heap.size w w')) ∨ (n = 7 ∧ Hid (∀ w, Calls Try.prog 61 #[.agg #[.int .i64 a.lo, .int .i64 a.hi, .int .i64 a.m, .int .i64 a.r, .int .i64 a.k], .agg #[.int .i64 b.lo, .int .i64 b.hi, .int .i64 b.m, .int .i64 b.r, .int .i64 b.k], .int .i64 (a.k ||| b.k)] w fun e w' => e = .returned (.agg #[.int .i64 V.lo, .int .i64 V.hi, .int .i64 V.m, .int .i64 V.r, .int .i64 V.k]) ∧ Below w.heap.size w w')) ∨ (n = 8 ∧ Hid (∀ w, Calls Try.prog 62 #[.agg #[.int .i64 a.lo, .int .i64 a.hi, .int .i64 a.m, .int .i64 a.r, .int .i64 a.k], .agg #[.int .i64 b.lo, .int .i64 b.hi, .int .i64 b.m, .int .i64 b.r, .int .i64 b.k], .int .i64 (a.k ||| b.k)] w fun e w' => e = .returned (.agg #[.int .i64 V.lo, .int .i64 V.hi, .int .i64 V.m, .int .i64 V.r, .int .i64 V.k]) ∧ Below w.heap.size w w')) ∨ (n = 9 ∧ ∃ lo hi, ((if b.lo < a.lo then b.lo else a.lo) = lo) ∧ ((if b.hi < a.hi then b.hi else a.hi) = hi) ∧ Hid (∀ w, Calls Try.prog 46 #[.int .i64 lo, .int .i64 hi, .int .i64 P, .int .i64 (a.k ||| b.k)] w fun e w' => e = .returned (.agg #[.int .i64 V.lo, .int .i64 V.hi, .int .i64 V.m, .int .i64 V.r, .int .i64 V.k]) ∧ Below w.heap.size w w')) ∨ (n = 10 ∧ ∃ lo hi, ((if a.lo < b.lo then b.lo else a.lo) = lo) ∧ ((if a.hi < b.hi then b.hi else a.hi) = hi) ∧ Hid (∀ w, Calls Try.prog 46 #[.int .i64 lo, .int .i64 hi, .int .i64 P, .int .i64 (a.k ||| b.k)] w fun e w' => e = .returned (.agg #[.int .i64 V.lo, .int .i64 V.hi, .int .i64 V.m, .int .i64 V.r, .int .i64 V.k]) ∧ Below w.heap.size w w')) ∨ ((n == 4) = false ∧ (n == 5) = false ∧ (n == 6) = false ∧ (n == 7) = false ∧ (n == 8) = false ∧ (n == 9) = false ∧ (n == 10) = false ∧ Hid (∀ w, Calls Try.prog 17 #[.agg #[.int .i64 0, .int .i64 (a.k ||| b.k)]] w fun e w' => e = .returned (.agg #[.int .i64 V.lo, .int .i64 V.hi, .int .i64 V.m, .int .i64 V.r, .int .i64 V.k]) ∧ Below w.heap.size w w'))) (w : World) :
    Calls Try.prog 31 #[.int .i64 n, .agg #[.int .i64 a.lo, .int .i64 a.hi, .int .i64 a.m, .int .i64 a.r, .int .i64 a.k], .agg #[.int .i64 b.lo, .int .i64 b.hi, .int .i64 b.m, .int .i64 b.r, .int .i64 b.k]] w fun e w' => e = .returned (.agg #[.int .i64 V.lo, .int .i64 V.hi, .int .i64 V.m, .int .i64 V.r, .int .i64 V.k]) ∧ Below w.heap.size w w' := by
  rcases hc with ⟨rfl, CC⟩ | ⟨rfl, CC⟩ | ⟨rfl, CC⟩ | ⟨rfl, CC⟩ | ⟨rfl, CC⟩ | ⟨rfl, lo, hi, mn, mx, CC⟩ | ⟨rfl, lo, hi, mn, mx, CC⟩ | ⟨b4, b5, b6, b7, b8, b9, b10, CC⟩
  all_goals rcases hsub with hs | ⟨hs, ht⟩
  all_goals
    have al := A.l; have ah := A.h; have ao := A.o; have bl := B.l; have bh := B.h; have bo := B.o
    obtain ⟨w0, hw0⟩ : ∃ w0, (((w.alloc (.cells #[.int .i64 a.lo, .int .i64 a.hi, .int .i64 a.m, .int .i64 a.r, .int .i64 a.k] 27)).alloc (.cells #[.int .i64 b.lo, .int .i64 b.hi, .int .i64 b.m, .int .i64 b.r, .int .i64 b.k] 27)).alloc (.cells #[.int .i64 0, .int .i64 0, .int .i64 0, .int .i64 0, .int .i64 0] 27)) = w0 := ⟨_, rfl⟩
    have B0 : Hid (Below w.heap.size w w0) := hidA (by rw [← hw0]; exact (alA (alA (alA (Below.refl _ _) _) _) _))
    have hsz : w.heap.size + 1 + 1 < w0.heap.size := by rw [← hw0]; simp
    have PK : Hid (∀ W, Below w0.heap.size w0 W → abF W (w.heap.size) a (abF W (w.heap.size + 1) b (W.cell? ⟨w.heap.size + 1 + 1, 0, none⟩ = some (.int .i64 0) ∧ W.cell? ⟨w.heap.size + 1 + 1, 1, none⟩ = some (.int .i64 0) ∧ W.cell? ⟨w.heap.size + 1 + 1, 2, none⟩ = some (.int .i64 0) ∧ W.cell? ⟨w.heap.size + 1 + 1, 3, none⟩ = some (.int .i64 0) ∧ W.cell? ⟨w.heap.size + 1 + 1, 4, none⟩ = some (.int .i64 0) ∧ w.heap.size < W.heap.size ∧ w.heap.size + 1 < W.heap.size ∧ w.heap.size + 1 + 1 < W.heap.size ∧ (∀ i, W.frozen? ⟨w.heap.size + 1 + 1, i, none⟩ = false)))) := hidA (fun W hW => by and_intros <;> first | exact cellA hW (by rw [← hw0]; simp [go_sem]) | exact (by have h0 := hW.size; have h1 := hsz; omega) | exact (fun i => (hW.frozen (p := ⟨w.heap.size + 1 + 1, i, none⟩) (show w.heap.size + 1 + 1 < w0.heap.size by have h1 := hsz; omega)).trans (by rw [← hw0]; simp [go_sem])))
    have Hw := hidA hw0; clear hw0
    go_enter Try.func31, Try.ntmps31
    go_wp2_with fail
    rw [Hw.out]
    clear Hw
    have HS : Hid (Below w0.heap.size w0 w0) := hidA (Below.refl _ _)
    obtain ⟨c0, c1, c2, c3, c4, c5, c6, c7, c8, c9, c10, c11, c12, c13, c14, z0, z1, z2, fr2⟩ := PK.out _ HS.out
    go_wp2_with (first | (go_at_call 50; (with_reducible refine (step_any _ _).mono ?_); rintro e w1 ⟨rfl, hb⟩; have hs1 := stepA HS.out hb; clear hb; clear HS; have HS := hidA hs1; clear hs1 c0 c1 c2 c3 c4 c5 c6 c7 c8 c9 c10 c11 c12 c13 c14 z0 z1 z2 fr2; obtain ⟨c0, c1, c2, c3, c4, c5, c6, c7, c8, c9, c10, c11, c12, c13, c14, z0, z1, z2, fr2⟩ := PK.out _ HS.out))
    have hsD := HS.out.drew
    go_region_held3 (fun w' => w'.cell? ⟨w.heap.size, 0, none⟩ = some (.int .i64 a.lo) ∧ w'.cell? ⟨w.heap.size, 1, none⟩ = some (.int .i64 a.hi) ∧ w'.cell? ⟨w.heap.size, 2, none⟩ = some (.int .i64 a.m) ∧ w'.cell? ⟨w.heap.size, 3, none⟩ = some (.int .i64 a.r) ∧ w'.cell? ⟨w.heap.size, 4, none⟩ = some (.int .i64 a.k) ∧ w'.cell? ⟨w.heap.size + 1, 0, none⟩ = some (.int .i64 b.lo) ∧ w'.cell? ⟨w.heap.size + 1, 1, none⟩ = some (.int .i64 b.hi) ∧ w'.cell? ⟨w.heap.size + 1, 2, none⟩ = some (.int .i64 b.m) ∧ w'.cell? ⟨w.heap.size + 1, 3, none⟩ = some (.int .i64 b.r) ∧ w'.cell? ⟨w.heap.size + 1, 4, none⟩ = some (.int .i64 b.k) ∧ Below w0.heap.size w0 w')
      (first | with_reducible exact ⟨cellD c0, cellD c1, cellD c2, cellD c3, cellD c4, cellD c5, cellD c6, cellD c7, cellD c8, cellD c9, hsD⟩ | with_reducible exact ⟨(PK.out _ (by assumption)).1, (PK.out _ (by assumption)).2.1, (PK.out _ (by assumption)).2.2.1, (PK.out _ (by assumption)).2.2.2.1, (PK.out _ (by assumption)).2.2.2.2.1, (PK.out _ (by assumption)).2.2.2.2.2.1, (PK.out _ (by assumption)).2.2.2.2.2.2.1, (PK.out _ (by assumption)).2.2.2.2.2.2.2.1, (PK.out _ (by assumption)).2.2.2.2.2.2.2.2.1, (PK.out _ (by assumption)).2.2.2.2.2.2.2.2.2.1, by assumption⟩)
      (first
        | ((go_at_call 50; refine (step_any _ _).mono ?_; rintro e w1 ⟨rfl, hb1⟩; have hs1 : Below w0.heap.size w0 w1 := stepA (by assumption) hb1))
        | ((go_at_call 49; refine (gcd_any _ _ (by omega) (by omega) (by omega) (by omega) _).mono ?_; rintro e w1 ⟨rfl, hb1⟩; have hs1 : Below w0.heap.size w0 w1 := stepA (by assumption) hb1)))
    try clear hsD
    clear HS; have HS := hidA hs1; clear hs1 c0 c1 c2 c3 c4 c5 c6 c7 c8 c9 c10 c11 c12 c13 c14 z0 z1 z2 fr2; obtain ⟨c0, c1, c2, c3, c4, c5, c6, c7, c8, c9, c10, c11, c12, c13, c14, z0, z1, z2, fr2⟩ := PK.out _ HS.out
    go_wp2_with (first | (go_at_call 51; refine (abs_any _ ⟨by omega, by omega⟩ _).mono ?_; rintro e w1 ⟨rfl, rfl⟩) | (go_at_call 49; (with_reducible refine (gcd_any _ _ (by omega) (by omega) (by omega) (by omega) _).mono ?_); rintro e w1 ⟨rfl, hb⟩; have hs1 := stepA HS.out hb; clear hb; clear HS; have HS := hidA hs1; clear hs1 c0 c1 c2 c3 c4 c5 c6 c7 c8 c9 c10 c11 c12 c13 c14 z0 z1 z2 fr2; obtain ⟨c0, c1, c2, c3, c4, c5, c6, c7, c8, c9, c10, c11, c12, c13, c14, z0, z1, z2, fr2⟩ := PK.out _ HS.out) | (go_at_call 59; (with_reducible refine (CC.out _).mono ?_); rintro e w1 ⟨rfl, hb⟩; have hs1 := stepA HS.out hb; clear hb; clear HS; have HS := hidA hs1; clear hs1 c0 c1 c2 c3 c4 c5 c6 c7 c8 c9 c10 c11 c12 c13 c14 z0 z1 z2 fr2; obtain ⟨c0, c1, c2, c3, c4, c5, c6, c7, c8, c9, c10, c11, c12, c13, c14, z0, z1, z2, fr2⟩ := PK.out _ HS.out) | (go_at_call 60; (with_reducible refine (CC.out _).mono ?_); rintro e w1 ⟨rfl, hb⟩; have hs1 := stepA HS.out hb; clear hb; clear HS; have HS := hidA hs1; clear hs1 c0 c1 c2 c3 c4 c5 c6 c7 c8 c9 c10 c11 c12 c13 c14 z0 z1 z2 fr2; obtain ⟨c0, c1, c2, c3, c4, c5, c6, c7, c8, c9, c10, c11, c12, c13, c14, z0, z1, z2, fr2⟩ := PK.out _ HS.out) | (go_at_call 61; (with_reducible refine (CC.out _).mono ?_); rintro e w1 ⟨rfl, hb⟩; have hs1 := stepA HS.out hb; clear hb; clear HS; have HS := hidA hs1; clear hs1 c0 c1 c2 c3 c4 c5 c6 c7 c8 c9 c10 c11 c12 c13 c14 z0 z1 z2 fr2; obtain ⟨c0, c1, c2, c3, c4, c5, c6, c7, c8, c9, c10, c11, c12, c13, c14, z0, z1, z2, fr2⟩ := PK.out _ HS.out) | (go_at_call 62; (with_reducible refine (CC.out _).mono ?_); rintro e w1 ⟨rfl, hb⟩; have hs1 := stepA HS.out hb; clear hb; clear HS; have HS := hidA hs1; clear hs1 c0 c1 c2 c3 c4 c5 c6 c7 c8 c9 c10 c11 c12 c13 c14 z0 z1 z2 fr2; obtain ⟨c0, c1, c2, c3, c4, c5, c6, c7, c8, c9, c10, c11, c12, c13, c14, z0, z1, z2, fr2⟩ := PK.out _ HS.out) | (go_at_call 46; (with_reducible refine (CC.out _).mono ?_); rintro e w1 ⟨rfl, hb⟩; have hs1 := stepA HS.out hb; clear hb; clear HS; have HS := hidA hs1; clear hs1 c0 c1 c2 c3 c4 c5 c6 c7 c8 c9 c10 c11 c12 c13 c14 z0 z1 z2 fr2; obtain ⟨c0, c1, c2, c3, c4, c5, c6, c7, c8, c9, c10, c11, c12, c13, c14, z0, z1, z2, fr2⟩ := PK.out _ HS.out) | (go_at_call 17; (with_reducible refine (CC.out _).mono ?_); rintro e w1 ⟨rfl, hb⟩; have hs1 := stepA HS.out hb; clear hb; clear HS; have HS := hidA hs1; clear hs1 c0 c1 c2 c3 c4 c5 c6 c7 c8 c9 c10 c11 c12 c13 c14 z0 z1 z2 fr2; obtain ⟨c0, c1, c2, c3, c4, c5, c6, c7, c8, c9, c10, c11, c12, c13, c14, z0, z1, z2, fr2⟩ := PK.out _ HS.out))
    exact bodyPost_ret (v := .agg #[.int .i64 V.lo, .int .i64 V.hi, .int .i64 V.m, .int .i64 V.r, .int .i64 V.k]) (by simp [results, Try.results31, go_sem, c10, c11, c12, c13, c14, z2]) rfl ⟨by rfl, (by repeat (first | with_reducible exact Below.refl _ _ | with_reducible exact HS.out | with_reducible exact B0.out | with_reducible refine Below.setCell ?_ (by first | omega | simp <;> omega) _ | with_reducible refine Below.alloc ?_ (by first | omega | simp <;> omega) _ | with_reducible refine Below.drew ?_ | with_reducible refine drewnA ?_ _ | with_reducible refine Below.trans ?_ (HS.out.mono (by first | omega | simp <;> omega)) | with_reducible refine Below.trans ?_ (B0.out.mono (by first | omega | simp <;> omega))))⟩
set_option maxHeartbeats 1000000 in
theorem opS_any (n : Int) (a b : Ab) (A : Val a) (B : Val b) (hst : stp a * stp b ≤ 4611686018427387904) (w : World) :
    Calls Try.prog 31 #[.int .i64 n, .agg #[.int .i64 a.lo, .int .i64 a.hi, .int .i64 a.m, .int .i64 a.r, .int .i64 a.k], .agg #[.int .i64 b.lo, .int .i64 b.hi, .int .i64 b.m, .int .i64 b.r, .int .i64 b.k]] w fun e w' => e = .returned (.agg #[.int .i64 (opA n a b).lo, .int .i64 (opA n a b).hi, .int .i64 (opA n a b).m, .int .i64 (opA n a b).r, .int .i64 (opA n a b).k]) ∧ Below w.heap.size w w' := by
  have al := A.l; have ah := A.h; have ao := A.o; have bl := B.l; have bh := B.h; have bo := B.o
  have em := bits_or8 A.k B.k
  have KK := or_lt A.k B.k
  have sa := stp_bd (val_wb A)
  have sb := stp_bd (val_wb B)
  by_cases h : stp a = 0 ∧ stp b = 0
  · have e : opA n a b = oneA (opM n a.lo b.lo) (a.k ||| b.k) := if_pos h
    rw [e]
    have i1 : inV a.lo := mem_in A (mem_lo A)
    have i2 : inV b.lo := mem_in B (mem_lo B)
    exact opS_one a b A B _ em n _ (by simpa using h.1) (by simpa using h.2) (hidA (fun w => ropA n a.lo b.lo i1 i2 w)) (hidA (fun w => of_any _ _ (opM_range n i1 i2) w)) w
  · have G0 := gc_nn (stp a) (stp b)
    have G1 := gc_le sa.1 sb.1 sa.2 sb.2
    have ab0 : 0 ≤ absI (a.lo - b.lo) ∧ absI (a.lo - b.lo) ≤ 8589934592 := by unfold absI; omega
    have hP : gc (gc (stp a) (stp b)) (absI (a.lo - b.lo)) = apartS a b := gc_abs _ _
    have hsub : (stp a == 0) = false ∨ ((stp a == 0) = true ∧ (stp b == 0) = false) := by
      by_cases h1 : stp a = 0
      · exact Or.inr ⟨by simpa using h1, by simpa using (fun h2 => h ⟨h1, h2⟩)⟩
      · exact Or.inl (by simpa using h1)
    have e : opA n a b = if n = 4 then addA a b (a.k ||| b.k) else if n = 5 then subA a b (a.k ||| b.k) else if n = 6 then mulA a b (a.k ||| b.k)
      else if n = 7 then divA a b (a.k ||| b.k) else if n = 8 then remA a b (a.k ||| b.k) else if n = 9 then minA a b (a.k ||| b.k)
      else if n = 10 then maxA a b (a.k ||| b.k) else oneA 0 (a.k ||| b.k) := if_neg h
    have P1 : apartS a b ≤ 8589934592 := by rw [← hP]; exact gc_le G0 ab0.1 (by omega) ab0.2
    by_cases hn : n < 4 ∨ 10 < n
    · rw [e, if_neg (by omega), if_neg (by omega), if_neg (by omega), if_neg (by omega), if_neg (by omega), if_neg (by omega), if_neg (by omega)]
      have C := hidA (fun w => of_any 0 (a.k ||| b.k) (show inV 0 from ⟨by omega, by omega⟩) w)
      have f4 : (n == 4) = false := by simp; omega
      have f5 : (n == 5) = false := by simp; omega
      have f6 : (n == 6) = false := by simp; omega
      have f7 : (n == 7) = false := by simp; omega
      have f8 : (n == 8) = false := by simp; omega
      have f9 : (n == 9) = false := by simp; omega
      have f10 : (n == 10) = false := by simp; omega
      exact opS_core a b A B _ em sa.1 sa.2 sb.1 sb.2 _ _ G0 G1 rfl hP ab0.1 ab0.2 n hsub (Or.inr (Or.inr (Or.inr (Or.inr (Or.inr (Or.inr (Or.inr (⟨f4, f5, f6, f7, f8, f9, f10, C⟩)))))))) w
    · have hn : n = 4 ∨ n = 5 ∨ n = 6 ∨ n = 7 ∨ n = 8 ∨ n = 9 ∨ n = 10 := by omega
      rcases hn with rfl | rfl | rfl | rfl | rfl | rfl | rfl
      · rw [e, if_pos rfl]
        have C := hidA (fun w => bounded_any (a.lo + b.lo) (a.hi + b.hi) (gc (stp a) (stp b)) (a.k ||| b.k) (add_ok A B) (by omega) ⟨by omega, by omega⟩ (by omega) w)
        exact opS_core a b A B _ em sa.1 sa.2 sb.1 sb.2 _ _ G0 G1 rfl hP ab0.1 ab0.2 4 hsub (Or.inl ⟨rfl, C⟩) w
      · rw [e, if_neg (by decide), if_pos rfl]
        have C := hidA (fun w => bounded_any (a.lo - b.hi) (a.hi - b.lo) (gc (stp a) (stp b)) (a.k ||| b.k) (sub_ok A B) (by omega) ⟨by omega, by omega⟩ (by omega) w)
        exact opS_core a b A B _ em sa.1 sa.2 sb.1 sb.2 _ _ G0 G1 rfl hP ab0.1 ab0.2 5 hsub (Or.inr (Or.inl ⟨rfl, C⟩)) w
      · rw [e, if_neg (by decide), if_neg (by decide), if_pos rfl]
        have C := hidA (fun w => mul_any a b A B (a.k ||| b.k) hst h w)
        exact opS_core a b A B _ em sa.1 sa.2 sb.1 sb.2 _ _ G0 G1 rfl hP ab0.1 ab0.2 6 hsub (Or.inr (Or.inr (Or.inl ⟨rfl, C⟩))) w
      · rw [e, if_neg (by decide), if_neg (by decide), if_neg (by decide), if_pos rfl]
        have C := hidA (fun w => div_any a b A B (a.k ||| b.k) w)
        exact opS_core a b A B _ em sa.1 sa.2 sb.1 sb.2 _ _ G0 G1 rfl hP ab0.1 ab0.2 7 hsub (Or.inr (Or.inr (Or.inr (Or.inl ⟨rfl, C⟩)))) w
      · rw [e, if_neg (by decide), if_neg (by decide), if_neg (by decide), if_neg (by decide), if_pos rfl]
        have C := hidA (fun w => rem_any a b A B (a.k ||| b.k) w)
        exact opS_core a b A B _ em sa.1 sa.2 sb.1 sb.2 _ _ G0 G1 rfl hP ab0.1 ab0.2 8 hsub (Or.inr (Or.inr (Or.inr (Or.inr (Or.inl ⟨rfl, C⟩))))) w
      · rw [e, if_neg (by decide), if_neg (by decide), if_neg (by decide), if_neg (by decide), if_neg (by decide), if_pos rfl]
        have C := hidA (fun w => by_any (min a.lo b.lo) (min a.hi b.hi) (apartS a b) (a.k ||| b.k) (min_ok A B) ⟨by omega, by omega, by omega⟩ w)
        exact opS_core a b A B _ em sa.1 sa.2 sb.1 sb.2 _ _ G0 G1 rfl hP ab0.1 ab0.2 9 hsub (Or.inr (Or.inr (Or.inr (Or.inr (Or.inr (Or.inl ⟨rfl, min a.lo b.lo, min a.hi b.hi, (by split <;> omega), (by split <;> omega), C⟩)))))) w
      · rw [e, if_neg (by decide), if_neg (by decide), if_neg (by decide), if_neg (by decide), if_neg (by decide), if_neg (by decide), if_pos rfl]
        have C := hidA (fun w => by_any (max a.lo b.lo) (max a.hi b.hi) (apartS a b) (a.k ||| b.k) (max_ok A B) ⟨by omega, by omega, by omega⟩ w)
        exact opS_core a b A B _ em sa.1 sa.2 sb.1 sb.2 _ _ G0 G1 rfl hP ab0.1 ab0.2 10 hsub (Or.inr (Or.inr (Or.inr (Or.inr (Or.inr (Or.inr (Or.inl ⟨rfl, max a.lo b.lo, max a.hi b.hi, (by split <;> omega), (by split <;> omega), C⟩))))))) w
end
end Go.Proofs.Ytdopjadlbhacfaa

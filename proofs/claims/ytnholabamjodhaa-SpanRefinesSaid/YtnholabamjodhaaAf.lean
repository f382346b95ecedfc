import Derived.Test.YtnholabamjodhaaAe
namespace Go.Proofs.Ytnholabamjodhaa
open Go.RowKit Go.Instr Sp
set_option linter.unusedVariables false
set_option linter.unusedSimpArgs false

/-! The reference's 'Wrap', 'Made', 'At'. -/
theorem drewnA {B : Nat} {a w : World} (h : Below B a w) (n : Nat) : Below B a (w.drewN n) := ⟨h.os, h.tape, h.output, h.size, h.block⟩
theorem wr_tmod (v : Int) : ∃ m, v.tmod 4294967296 = m ∧ -4294967296 < m ∧ m < 4294967296 ∧ wr v = if m < -2147483648 then m + 4294967296 else if 2147483647 < m then m - 4294967296 else m := by
  have h1 := Int.tmod_add_mul_tdiv v 4294967296
  have h2 := Int.tmod_lt_of_pos v (b := 4294967296) (by decide)
  have h3 := Int.lt_tmod_of_pos v (b := 4294967296) (by decide)
  refine ⟨_, rfl, h3, h2, ?_⟩
  generalize v.tmod 4294967296 = m at *
  generalize v.tdiv 4294967296 = q at *
  unfold wr
  split
  · omega
  · split <;> omega
set_option maxHeartbeats 400000 in
theorem wrapA (v : Int) (w : World) :
    Calls Try.prog 11 #[.int .i64 v] w fun e w' => e = .returned (.int .i64 (wr v)) ∧ w = w' := by
  obtain ⟨m, hm, h1, h2, hw⟩ := wr_tmod v
  have HW := hidA hw
  clear hw
  have hmw : IntKind.i64.wrap (v.tmod 4294967296) = m := by rw [hm, IntKind.wrap_i64]; omega
  by_cases c1 : m < -2147483648
  · go_enter Try.func11, Try.ntmps11
    go_wp2
    go_ret
    exact ⟨retA (by rw [HW.out]; (try split) <;> (try split) <;> (first | rfl | omega)), rfl⟩
  · by_cases c2 : 2147483647 < m
    · go_enter Try.func11, Try.ntmps11
      go_wp2
      go_ret
      exact ⟨retA (by rw [HW.out]; (try split) <;> (try split) <;> (first | rfl | omega)), rfl⟩
    · go_enter Try.func11, Try.ntmps11
      go_wp2
      go_ret
      exact ⟨retA (by rw [HW.out]; (try split) <;> (try split) <;> (first | rfl | omega)), rfl⟩
/-- The set of a description. -/
def madeL (lo : Int) : Int := wr lo
def madeM (m : Int) : Int := 1 + m % 1048576
def madeH (lo n m : Int) : Int := min (wr lo + n % 2147483648 / madeM m * madeM m) (2147483647 - (2147483647 - wr lo) % madeM m)
def maskN (k : Int) : Nat := (k % 256).toNat
def madeA (lo n m k : Int) : Ab := byA (wr lo) (madeH lo n m) (madeM m) (maskN k)
theorem maskN_lt (k : Int) : maskN k < 256 := by unfold maskN; omega
theorem maskN_is (k : Int) : (maskN k : Int) = k % 256 := by unfold maskN; omega
theorem madeM_bd (m : Int) : 1 ≤ madeM m ∧ madeM m ≤ 1048576 := by unfold madeM; omega
theorem made_ok (lo n m : Int) : ByOk (wr lo) (madeH lo n m) (madeM m) ∧ madeH lo n m ≤ 2147483647 := by
  have hr := wr_range lo
  have hm := madeM_bd m
  have q : 0 ≤ n % 2147483648 / madeM m := Int.ediv_nonneg (by omega) (by omega)
  have p : 0 ≤ n % 2147483648 / madeM m * madeM m := Int.mul_nonneg q (by omega)
  have e := Int.mul_ediv_add_emod (2147483647 - wr lo) (madeM m)
  have q2 : 0 ≤ (2147483647 - wr lo) / madeM m := Int.ediv_nonneg (by omega) (by omega)
  have p2 := Int.mul_nonneg (show 0 ≤ madeM m by omega) q2
  have l1 := Int.emod_nonneg (2147483647 - wr lo) (show madeM m ≠ 0 by omega)
  unfold madeH
  refine ⟨⟨?_, by omega, by omega⟩, by omega⟩
  generalize n % 2147483648 / madeM m * madeM m = x at *
  omega
theorem made_val (lo n m k : Int) : Val (madeA lo n m k) := by
  obtain ⟨h1, h2⟩ := made_ok lo n m
  exact by_val h1 (wr_range lo).1 h2 (maskN_lt k)
set_option maxHeartbeats 400000 in
theorem mod_all (a m : Int) (hm : 1 ≤ m) (hm2 : m ≤ 4611686018427387904) (w : World) :
    Calls Try.prog 42 #[.int .i64 a, .int .i64 m] w fun e w' => e = .returned (.int .i64 (a % m)) ∧ w = w' := by
  obtain ⟨h1, h2⟩ := tmod_in a hm
  have hz : (m == 0) = false := by simp; omega
  go_enter Try.func42, Try.ntmps42
  go_wp2
  go_ret
  exact ⟨retA (by first | exact tmod_emod a m | (rw [Int.add_emod_right]; exact tmod_emod a m)), rfl⟩
set_option maxHeartbeats 4000000 in
theorem madeR_any (lo n m k : Int) (w : World) :
    Calls Try.prog 40 #[.agg #[.int .i64 lo, .int .i64 n, .int .i64 m, .int .i64 k]] w fun e w' => e = .returned (.agg #[.int .i64 (madeA lo n m k).lo, .int .i64 (madeA lo n m k).hi, .int .i64 (madeA lo n m k).m, .int .i64 (madeA lo n m k).r, .int .i64 (madeA lo n m k).k]) ∧ Below w.heap.size w w' := by
  obtain ⟨O1, O2⟩ := made_ok lo n m
  have hr := wr_range lo
  have hM := madeM_bd m
  have JJ : Hid (∀ x, x = madeH lo n m → ByOk (wr lo) x (madeM m) ∧ Near (wr lo) x (madeM m)) := hidA (fun x hx => by rw [hx]; exact ⟨O1, ⟨by omega, by omega, by omega⟩⟩)
  have EH : Hid (madeH lo n m = min (wr lo + n % 2147483648 / madeM m * madeM m) (2147483647 - (2147483647 - wr lo) % madeM m)) := hidA rfl
  have EA : Hid (madeA lo n m k = byA (wr lo) (madeH lo n m) (madeM m) (maskN k)) := hidA rfl
  have hm1 : 1 + m % 1048576 = madeM m := rfl
  have hk := maskN_is k
  have q : 0 ≤ n % 2147483648 / madeM m := Int.ediv_nonneg (by omega) (by omega)
  have q2 : n % 2147483648 / madeM m ≤ n % 2147483648 := Int.ediv_le_self _ (by omega)
  have p1 : 0 ≤ n % 2147483648 / madeM m * madeM m := Int.mul_nonneg q (by omega)
  have p2 : n % 2147483648 / madeM m * madeM m ≤ n % 2147483648 := Int.ediv_mul_le _ (by omega)
  have l1 := Int.emod_nonneg (2147483647 - wr lo) (show madeM m ≠ 0 by omega)
  have l2 := Int.emod_lt_of_pos (2147483647 - wr lo) (show 0 < madeM m by omega)
  have ET : n % 2147483648 / madeM m = (n % 2147483648).tdiv (madeM m) := (Int.tdiv_eq_ediv_of_nonneg (by omega)).symm
  have hn1 : 0 ≤ n % 2147483648 := by omega
  have hn2 : n % 2147483648 < 2147483648 := by omega
  clear O1 O2
  obtain ⟨L, hL⟩ : ∃ L, wr lo = L := ⟨_, rfl⟩
  obtain ⟨MM, hMM⟩ : ∃ x, madeM m = x := ⟨_, rfl⟩
  obtain ⟨NN, hNN⟩ : ∃ x, n % 2147483648 = x := ⟨_, rfl⟩
  rw [hL, hMM] at JJ
  rw [hL, hMM, hNN] at EH
  rw [hL, hMM] at EA
  rw [hMM] at hm1 hM l2
  rw [hMM, hNN] at q q2 p1 p2 ET
  rw [hL, hMM] at l1
  rw [hL] at hr l2
  rw [hNN] at hn1 hn2
  have HL := hidA hL
  clear hL hMM
  obtain ⟨Q, hQ⟩ : ∃ x, NN / MM = x := ⟨_, rfl⟩
  rw [hQ] at q q2 p1 p2 ET EH
  obtain ⟨P, hP⟩ : ∃ x, Q * MM = x := ⟨_, rfl⟩
  rw [hP] at p1 p2 EH
  obtain ⟨Z, hZ⟩ : ∃ x, (2147483647 - L) % MM = x := ⟨_, rfl⟩
  rw [hZ] at l1 l2 EH
  obtain ⟨h1, h2⟩ := hr
  obtain ⟨h3, h4⟩ := hM
  have hmz : (MM == 0) = false := by simp; omega
  go_enter Try.func40, Try.ntmps40
  go_wp2_with (first | (go_at_call 11; refine (wrapA _ _).mono ?_; rw [HL.out]; rintro e w1 ⟨rfl, rfl⟩) | (go_at_call 42; refine (mod_all _ _ (by omega) (by omega) _).mono ?_; rintro e wm ⟨rfl, rfl⟩))
  have e1 : IntKind.i64.wrap (NN.tdiv MM) = Q := by rw [← ET]; exact IntWalk.i64_in _ (by omega)
  have e2 : IntKind.i64.wrap (Q * MM) = P := by rw [hP]; exact IntWalk.i64_in _ (by omega)
  have e3 : IntKind.i64.wrap (L + P) = L + P := IntWalk.i64_in _ (by omega)
  have e4 : IntKind.i64.wrap (2147483647 - L) = 2147483647 - L := IntWalk.i64_in _ (by omega)
  have e5 : IntKind.i64.wrap (2147483647 - Z) = 2147483647 - Z := IntWalk.i64_in _ (by omega)
  go_quiet ((go_at_call 42; exact Calls.quiet_of_same ((mod_all _ _ (by omega) (by omega) _).mono (fun _ _ h => ⟨h.1, h.2.symm⟩))))
  have e6 : (if 2147483647 - Z < wrap64 (L + wrap64 (NN.tdiv MM * MM)) then 2147483647 - Z else wrap64 (L + wrap64 (NN.tdiv MM * MM))) = madeH lo n m := by
    rw [EH.out, ← ET, hP, show wrap64 P = P from by unfold wrap64; omega, show wrap64 (L + P) = L + P from by unfold wrap64; omega, Int.min_def]
    split <;> split <;> omega
  rw [e6]
  have O := hidA (JJ.out _ rfl)
  clear e1 e2 e3 e4 e5 e6 ET hQ hP hZ hNN JJ EH
  generalize madeH lo n m = H at *
  have B : Hid (ByOk L H MM) := hidA O.out.1
  have N : Hid (Near L H MM) := hidA O.out.2
  go_wp2_with (first | (go_at_call 42; refine (mod_all _ _ (by omega) (by omega) _).mono ?_; rintro e wm ⟨rfl, rfl⟩) | (go_at_call 46; try rw [← hk]; refine (by_any _ _ _ _ B.out N.out _).mono ?_; rintro e w2 ⟨rfl, hb⟩; have HB2 := hidA hb; obtain ⟨hc2, hf2⟩ := bcell hb; have z20 : w.heap.size + 1 < w2.heap.size := (by have := hb.size; simp at this; omega); clear hb))
  exact bodyPost_ret (v := .agg #[.int .i64 (madeA lo n m k).lo, .int .i64 (madeA lo n m k).hi, .int .i64 (madeA lo n m k).m, .int .i64 (madeA lo n m k).r, .int .i64 (madeA lo n m k).k]) (by simp [results, Try.results40, go_sem, hc2, z20, EA.out]) rfl ⟨by rfl, (by repeat (first | with_reducible exact Below.refl _ _ | with_reducible exact HB2.out | with_reducible refine Below.setCell ?_ (by first | omega | (dsimp only; omega) | (simp; done) | (simp; omega)) _ | with_reducible refine Below.alloc ?_ (by first | omega | (dsimp only; omega) | (simp; done) | (simp; omega)) _ | with_reducible refine Below.drew ?_ | with_reducible refine drewnA ?_ _ | with_reducible refine Below.trans ?_ (HB2.out.mono (by first | omega | (dsimp only; omega) | (simp; done) | (simp; omega)))))⟩
/-- A value of a set, by its number. -/
def cntA (a : Ab) : Int := (a.hi - a.lo) / a.m + 1
def atA (a : Ab) (n : Int) : Int := a.lo + n % cntA a * a.m
theorem cnt_bd {a : Ab} (A : Val a) : 1 ≤ cntA a ∧ cntA a ≤ 4294967296 ∧ (cntA a - 1) * a.m = a.hi - a.lo := by
  have hm := m_pos A
  have := A.l; have := A.o; have := A.h
  have q : 0 ≤ (a.hi - a.lo) / a.m := Int.ediv_nonneg (by omega) (by omega)
  have q2 : (a.hi - a.lo) / a.m ≤ a.hi - a.lo := Int.ediv_le_self _ (by omega)
  have e := Int.mul_ediv_add_emod (a.hi - a.lo) a.m
  have d : a.m ∣ a.hi - a.lo := ((mem_m A _).1 (mem_hi A)).2.2
  rw [Int.emod_eq_zero_of_dvd d, Int.add_zero, Int.mul_comm] at e
  unfold cntA
  refine ⟨by omega, by omega, ?_⟩
  rw [show (a.hi - a.lo) / a.m + 1 - 1 = (a.hi - a.lo) / a.m by omega]; exact e
theorem at_mem {a : Ab} (A : Val a) (n : Int) : Mem a (atA a n) := by
  obtain ⟨c1, c2, c3⟩ := cnt_bd A
  have hm := m_pos A
  have l1 := Int.emod_nonneg n (show cntA a ≠ 0 by omega)
  have l2 := Int.emod_lt_of_pos n (show 0 < cntA a by omega)
  have p1 := Int.mul_nonneg l1 (show 0 ≤ a.m by omega)
  have p2 := Int.mul_le_mul_of_nonneg_right (show n % cntA a ≤ cntA a - 1 by omega) (show 0 ≤ a.m by omega)
  rw [mem_m A]
  unfold atA
  refine ⟨by omega, by omega, ?_⟩
  rw [show a.lo + n % cntA a * a.m - a.lo = n % cntA a * a.m by omega]
  exact Int.dvd_mul_left _ _
set_option maxHeartbeats 4000000 in
theorem at_any (a : Ab) (A : Val a) (n msk : Int) (w : World) :
    Calls Try.prog 34 #[.agg #[.int .i64 a.lo, .int .i64 a.hi, .int .i64 a.m, .int .i64 a.r, .int .i64 a.k], .int .i64 n, .int .i64 msk] w fun e w' => e = .returned (.agg #[.int .i64 (atA a n), .int .i64 (maskOf msk a.k)]) ∧ Below w.heap.size w w' := by
  obtain ⟨c1, c2, c3⟩ := cnt_bd A
  have hm := m_pos A
  have MK := hidA (bits_mask8 msk A.k)
  have M := at_mem A n
  have r1 : -2147483648 ≤ atA a n := by have := A.l; have := M.1; omega
  have r2 : atA a n ≤ 2147483647 := by have := A.h; have := M.2.1; omega
  have EQ : cntA a = (a.hi - a.lo) / a.m + 1 := rfl
  have ET : (a.hi - a.lo).tdiv a.m = (a.hi - a.lo) / a.m := Int.tdiv_eq_ediv_of_nonneg (by have := A.o; omega)
  have EV : Hid (atA a n = a.lo + n % cntA a * a.m) := hidA rfl
  have d1 : 0 ≤ a.hi - a.lo := by have := A.o; omega
  have d2 : a.hi - a.lo ≤ 4294967295 := by have := A.l; have := A.h; omega
  have x1 := A.l; have x2 := A.h; have x3 := A.o
  have hmz : (a.m == 0) = false := by simp; omega
  have hmz2 : (a.m != 0) = true := by simp; omega
  have hmz3 : ¬ a.m = 0 := by omega
  clear A M
  obtain ⟨V, hV⟩ : ∃ V, atA a n = V := ⟨_, rfl⟩
  rw [hV] at r1 r2 EV ⊢
  clear hV
  obtain ⟨D, hD⟩ : ∃ D, (a.hi - a.lo) / a.m = D := ⟨_, rfl⟩
  rw [hD] at EQ ET
  rw [EQ] at EV c1 c2
  clear EQ c3
  obtain ⟨w0, hw0⟩ : ∃ w0, ((w.alloc (.cells #[.int .i64 a.lo, .int .i64 a.hi, .int .i64 a.m, .int .i64 a.r, .int .i64 a.k] 27)).alloc (.cells #[.int .i64 0, .int .i64 0] 31)) = w0 := ⟨_, rfl⟩
  have B0 : Hid (Below w.heap.size w w0) := hidA (by rw [← hw0]; exact (((Below.refl _ _).alloc (by first | exact Nat.le_refl _ | (simp; done) | (simp; omega) | omega) _).alloc (by first | exact Nat.le_refl _ | (simp; done) | (simp; omega) | omega) _))
  have G0 : Hid (w0.cell? ⟨w.heap.size, 0, none⟩ = some (.int .i64 a.lo)) := hidA (by rw [← hw0]; simp [go_sem])
  have G1 : Hid (w0.cell? ⟨w.heap.size, 1, none⟩ = some (.int .i64 a.hi)) := hidA (by rw [← hw0]; simp [go_sem])
  have G2 : Hid (w0.cell? ⟨w.heap.size, 2, none⟩ = some (.int .i64 a.m)) := hidA (by rw [← hw0]; simp [go_sem])
  have G3 : Hid (w0.cell? ⟨w.heap.size, 3, none⟩ = some (.int .i64 a.r)) := hidA (by rw [← hw0]; simp [go_sem])
  have G4 : Hid (w0.cell? ⟨w.heap.size, 4, none⟩ = some (.int .i64 a.k)) := hidA (by rw [← hw0]; simp [go_sem])
  have G5 : Hid (w0.cell? ⟨w.heap.size + 1, 0, none⟩ = some (.int .i64 0)) := hidA (by rw [← hw0]; simp [go_sem])
  have G6 : Hid (w0.cell? ⟨w.heap.size + 1, 1, none⟩ = some (.int .i64 0)) := hidA (by rw [← hw0]; simp [go_sem])
  have F0 : Hid (∀ i, w0.frozen? ⟨w.heap.size, i, none⟩ = false) := hidA (by intro i; rw [← hw0]; simp [go_sem])
  have F1 : Hid (∀ i, w0.frozen? ⟨w.heap.size + 1, i, none⟩ = false) := hidA (by intro i; rw [← hw0]; simp [go_sem])
  have hsz : w.heap.size + 1 < w0.heap.size := by rw [← hw0]; simp
  have Hw := hidA hw0; clear hw0
  go_enter Try.func34, Try.ntmps34
  go_wp2_with fail
  rw [Hw.out]
  have hs : Below w0.heap.size w0 w0.drew := (Below.refl _ _).drew
  have g0 := cellA hs G0.out
  have g1 := cellA hs G1.out
  have g2 := cellA hs G2.out
  have g3 := cellA hs G3.out
  have g4 := cellA hs G4.out
  have g5 := cellA hs G5.out
  have g6 := cellA hs G6.out
  have e1 : IntKind.i64.wrap (a.hi - a.lo) = a.hi - a.lo := IntWalk.i64_in _ (by omega)
  have e2 : IntKind.i64.wrap D = D := by exact IntWalk.i64_in _ (by omega)
  have e3 : IntKind.i64.wrap (D + 1) = D + 1 := IntWalk.i64_in _ (by omega)
  have e4 : IntKind.i64.wrap (n % (D + 1) * a.m) = n % (D + 1) * a.m := IntWalk.i64_in _ (by have := EV.out; omega)
  have e5 : IntKind.i64.wrap (a.lo + n % (D + 1) * a.m) = V := by rw [← EV.out]; exact IntWalk.i64_in _ (by omega)
  have em := MK.out
  have fr1 := F1.out
  have c5 := G5.out
  have c6 := G6.out
  go_region_held3 (fun w' => w'.cell? ⟨w.heap.size, 0, none⟩ = some (.int .i64 a.lo) ∧ w'.cell? ⟨w.heap.size, 1, none⟩ = some (.int .i64 a.hi) ∧ w'.cell? ⟨w.heap.size, 2, none⟩ = some (.int .i64 a.m) ∧ w'.cell? ⟨w.heap.size, 3, none⟩ = some (.int .i64 a.r) ∧ w'.cell? ⟨w.heap.size, 4, none⟩ = some (.int .i64 a.k) ∧ Below (w.heap.size + 1) w0 w')
    (first | exact ⟨g0, g1, g2, g3, g4, hs.mono (by omega)⟩ | exact ⟨by simpa [go_sem] using g0, by simpa [go_sem] using g1, by simpa [go_sem] using g2, by simpa [go_sem] using g3, by simpa [go_sem] using g4, (((hs.mono (by omega)).setCell (by first | exact Nat.le_refl _ | (simp; done) | (simp; omega) | omega) _).setCell (by first | exact Nat.le_refl _ | (simp; done) | (simp; omega) | omega) _)⟩)
    ((go_at_call 42; refine (mod_all _ _ (by omega) (by omega) _).mono ?_; rintro e w1 ⟨rfl, rfl⟩))
  go_wp2
  exact bodyPost_ret (v := .agg #[.int .i64 V, .int .i64 (maskOf msk a.k)]) (by simp [results, Try.results34, go_sem, c5, c6, hsz]) rfl ⟨by rfl, (by repeat (first | with_reducible exact Below.refl _ _ | with_reducible exact B0.out | with_reducible refine Below.setCell ?_ (by first | omega | (dsimp only; omega) | (simp; done) | (simp; omega)) _ | with_reducible refine Below.alloc ?_ (by first | omega | (dsimp only; omega) | (simp; done) | (simp; omega)) _ | with_reducible refine Below.drew ?_ | with_reducible refine drewnA ?_ _ | with_reducible refine Below.trans ?_ (B0.out.mono (by first | omega | (dsimp only; omega) | (simp; done) | (simp; omega)))))⟩
end Go.Proofs.Ytnholabamjodhaa

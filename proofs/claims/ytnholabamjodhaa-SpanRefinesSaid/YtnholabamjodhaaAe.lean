import Derived.Test.YtnholabamjodhaaAd
namespace Go.Proofs.Ytnholabamjodhaa
open Go.RowKit Go.Instr Sp
set_option linter.unusedVariables false
set_option linter.unusedSimpArgs false

/-! The reference's joins. -/
theorem cellA {w w' : World} {p : Addr} {x : Value} (hb : Below w.heap.size w w') (h : w.cell? p = some x) : w'.cell? p = some x := (hb.cell (World.block_lt_of_cell? w _ h)).trans h
theorem stepA {w w1 w2 : World} (h : Below w.heap.size w w1) (k : Below w1.heap.size w1 w2) : Below w.heap.size w w2 := h.trans (k.mono h.size)
theorem gc_abs (x y : Int) : gc x (absI y) = gc x y := by
  unfold gc absI
  congr 1
  rcases Int.le_total 0 y with h | h
  · rw [show max y (-y) = y by omega]
  · rw [show max y (-y) = -y by omega, Int.gcd_neg]
theorem stp_bd {a : Ab} (A : Wb a) : 0 ≤ stp a ∧ stp a ≤ 4294967296 := by
  obtain ⟨a1, a2, a3, a4⟩ := A
  unfold stp; split <;> omega
theorem gc_le {a b : Int} (h : 0 ≤ a) (g : 0 ≤ b) {k : Int} (ha : a ≤ k) (hb : b ≤ k) : gc a b ≤ k := by
  by_cases z : a = 0
  · subst z; unfold gc; rw [Int.gcd_zero_left]; omega
  · have := Int.le_of_dvd (by omega) (gc_l a b); omega
set_option maxHeartbeats 4000000 in
theorem join_any (a b : Ab) (A : Val a) (B : Val b) (w : World) :
    Calls Try.prog 19 #[.agg #[.int .i64 a.lo, .int .i64 a.hi, .int .i64 a.m, .int .i64 a.r, .int .i64 a.k], .agg #[.int .i64 b.lo, .int .i64 b.hi, .int .i64 b.m, .int .i64 b.r, .int .i64 b.k]] w fun e w' => e = .returned (.agg #[.int .i64 (joinA a b).lo, .int .i64 (joinA a b).hi, .int .i64 (joinA a b).m, .int .i64 (joinA a b).r, .int .i64 (joinA a b).k]) ∧ Below w.heap.size w w' := by
  have J := hidA (join_ok A B)
  have WA := hidA (val_wb A)
  have WB := hidA (val_wb B)
  have N : Hid (Near (min a.lo b.lo) (max a.hi b.hi) (joinStep a b)) := hidA ⟨by have := A.l; have := B.l; omega, by have := A.h; have := B.h; omega, by
    have := stp_bd WA.out; have := stp_bd WB.out; have := A.l; have := B.l; have := A.o; have := B.o; have := A.h; have := B.h
    unfold joinStep; rw [← gc_abs]; exact gc_le (gc_nn _ _) (by unfold absI; omega) (gc_le (by omega) (by omega) (by omega) (by omega)) (by unfold absI; omega)⟩
  have JJ : Hid (∀ x y, x = min a.lo b.lo → y = max a.hi b.hi → ByOk x y (joinStep a b) ∧ Near x y (joinStep a b)) := hidA (fun x y hx hy => by rw [hx, hy]; exact ⟨J.out, N.out⟩)
  have sa := stp_bd WA.out
  have sb := stp_bd WB.out
  have MK := hidA (bits_or8 A.k B.k)
  have dl : -4294967295 ≤ a.lo - b.lo ∧ a.lo - b.lo ≤ 4294967295 := by have := A.l; have := B.l; have := A.o; have := B.o; have := A.h; have := B.h; omega
  obtain ⟨d1, d2⟩ := dl
  obtain ⟨s1, s2⟩ := sa
  obtain ⟨s3, s4⟩ := sb
  have E : Hid (gc (gc (stp a) (stp b)) (absI (a.lo - b.lo)) = joinStep a b) := hidA (gc_abs _ _)
  have q1 := gc_nn (stp a) (stp b)
  have q2 := gc_le s1 s3 s2 s4
  have ab0 := (absI_bd (a := a.lo - b.lo) ⟨by omega, by omega⟩)
  have hl := A.l; have hl2 := A.o; have hl3 := A.h; have hm := B.l; have hm2 := B.o; have hm3 := B.h
  clear A B
  obtain ⟨w0, hw0⟩ : ∃ w0, (((w.alloc (.cells #[.int .i64 a.lo, .int .i64 a.hi, .int .i64 a.m, .int .i64 a.r, .int .i64 a.k] 27)).alloc (.cells #[.int .i64 b.lo, .int .i64 b.hi, .int .i64 b.m, .int .i64 b.r, .int .i64 b.k] 27)).alloc (.cells #[.int .i64 0, .int .i64 0, .int .i64 0, .int .i64 0, .int .i64 0] 27)) = w0 := ⟨_, rfl⟩
  have B0 : Hid (Below w.heap.size w w0) := hidA (by rw [← hw0]; exact ((((Below.refl _ _).alloc (by first | exact Nat.le_refl _ | (simp; done) | (simp; omega) | omega) _).alloc (by first | exact Nat.le_refl _ | (simp; done) | (simp; omega) | omega) _).alloc (by first | exact Nat.le_refl _ | (simp; done) | (simp; omega) | omega) _))
  have G0 : Hid (w0.cell? ⟨w.heap.size, 0, none⟩ = some (.int .i64 a.lo)) := hidA (by rw [← hw0]; simp [go_sem])
  have G1 : Hid (w0.cell? ⟨w.heap.size, 1, none⟩ = some (.int .i64 a.hi)) := hidA (by rw [← hw0]; simp [go_sem])
  have G2 : Hid (w0.cell? ⟨w.heap.size, 2, none⟩ = some (.int .i64 a.m)) := hidA (by rw [← hw0]; simp [go_sem])
  have G3 : Hid (w0.cell? ⟨w.heap.size, 3, none⟩ = some (.int .i64 a.r)) := hidA (by rw [← hw0]; simp [go_sem])
  have G4 : Hid (w0.cell? ⟨w.heap.size, 4, none⟩ = some (.int .i64 a.k)) := hidA (by rw [← hw0]; simp [go_sem])
  have G5 : Hid (w0.cell? ⟨w.heap.size + 1, 0, none⟩ = some (.int .i64 b.lo)) := hidA (by rw [← hw0]; simp [go_sem])
  have G6 : Hid (w0.cell? ⟨w.heap.size + 1, 1, none⟩ = some (.int .i64 b.hi)) := hidA (by rw [← hw0]; simp [go_sem])
  have G7 : Hid (w0.cell? ⟨w.heap.size + 1, 2, none⟩ = some (.int .i64 b.m)) := hidA (by rw [← hw0]; simp [go_sem])
  have G8 : Hid (w0.cell? ⟨w.heap.size + 1, 3, none⟩ = some (.int .i64 b.r)) := hidA (by rw [← hw0]; simp [go_sem])
  have G9 : Hid (w0.cell? ⟨w.heap.size + 1, 4, none⟩ = some (.int .i64 b.k)) := hidA (by rw [← hw0]; simp [go_sem])
  have G10 : Hid (w0.cell? ⟨w.heap.size + 1 + 1, 0, none⟩ = some (.int .i64 0)) := hidA (by rw [← hw0]; simp [go_sem])
  have G11 : Hid (w0.cell? ⟨w.heap.size + 1 + 1, 1, none⟩ = some (.int .i64 0)) := hidA (by rw [← hw0]; simp [go_sem])
  have G12 : Hid (w0.cell? ⟨w.heap.size + 1 + 1, 2, none⟩ = some (.int .i64 0)) := hidA (by rw [← hw0]; simp [go_sem])
  have G13 : Hid (w0.cell? ⟨w.heap.size + 1 + 1, 3, none⟩ = some (.int .i64 0)) := hidA (by rw [← hw0]; simp [go_sem])
  have G14 : Hid (w0.cell? ⟨w.heap.size + 1 + 1, 4, none⟩ = some (.int .i64 0)) := hidA (by rw [← hw0]; simp [go_sem])
  have F0 : Hid (∀ i, w0.frozen? ⟨w.heap.size, i, none⟩ = false) := hidA (by intro i; rw [← hw0]; simp [go_sem])
  have F1 : Hid (∀ i, w0.frozen? ⟨w.heap.size + 1, i, none⟩ = false) := hidA (by intro i; rw [← hw0]; simp [go_sem])
  have F2 : Hid (∀ i, w0.frozen? ⟨w.heap.size + 1 + 1, i, none⟩ = false) := hidA (by intro i; rw [← hw0]; simp [go_sem])
  have hsz : w.heap.size + 1 + 1 < w0.heap.size := by rw [← hw0]; simp
  have Hw := hidA hw0; clear hw0
  go_enter Try.func19, Try.ntmps19
  go_wp2_with fail
  rw [Hw.out]
  have hs : Below w0.heap.size w0 w0.drew := (Below.refl _ _).drew
  have g0 := cellA hs G0.out
  have g1 := cellA hs G1.out
  have g2 := cellA hs G2.out
  have g3 := cellA hs G3.out
  have g4 := cellA hs G4.out
  have g5 := cellA hs G5.out
  have g6 := cellA hs G6.out
  have g7 := cellA hs G7.out
  have g8 := cellA hs G8.out
  have g9 := cellA hs G9.out
  have ew : IntKind.i64.wrap (a.lo - b.lo) = a.lo - b.lo := IntWalk.i64_in _ (by omega)
  go_region_held3 (fun w' => w'.cell? ⟨w.heap.size, 0, none⟩ = some (.int .i64 a.lo) ∧ w'.cell? ⟨w.heap.size, 1, none⟩ = some (.int .i64 a.hi) ∧ w'.cell? ⟨w.heap.size, 2, none⟩ = some (.int .i64 a.m) ∧ w'.cell? ⟨w.heap.size, 3, none⟩ = some (.int .i64 a.r) ∧ w'.cell? ⟨w.heap.size, 4, none⟩ = some (.int .i64 a.k) ∧ w'.cell? ⟨w.heap.size + 1, 0, none⟩ = some (.int .i64 b.lo) ∧ w'.cell? ⟨w.heap.size + 1, 1, none⟩ = some (.int .i64 b.hi) ∧ w'.cell? ⟨w.heap.size + 1, 2, none⟩ = some (.int .i64 b.m) ∧ w'.cell? ⟨w.heap.size + 1, 3, none⟩ = some (.int .i64 b.r) ∧ w'.cell? ⟨w.heap.size + 1, 4, none⟩ = some (.int .i64 b.k) ∧ Below w0.heap.size w0 w')
    (first | exact ⟨g0, g1, g2, g3, g4, g5, g6, g7, g8, g9, hs⟩ | exact ⟨cellA (by assumption) G0.out, cellA (by assumption) G1.out, cellA (by assumption) G2.out, cellA (by assumption) G3.out, cellA (by assumption) G4.out, cellA (by assumption) G5.out, cellA (by assumption) G6.out, cellA (by assumption) G7.out, cellA (by assumption) G8.out, cellA (by assumption) G9.out, by assumption⟩)
    (first
      | ((go_at_call 50; refine (step_any _ _).mono ?_; rintro e w1 ⟨rfl, hb1⟩; have hs1 : Below w0.heap.size w0 w1 := stepA (by assumption) hb1))
      | ((go_at_call 51; refine (abs_any _ ⟨by omega, by omega⟩ _).mono ?_; rintro e w1 ⟨rfl, rfl⟩))
      | ((go_at_call 49; refine (gcd_any _ _ (by omega) (by omega) (by omega) (by omega) _).mono ?_; rintro e w1 ⟨rfl, hb1⟩; have hs1 : Below w0.heap.size w0 w1 := stepA (by assumption) hb1)))
  have HS := hidA hs1
  have leHS : w0.heap.size ≤ w1.heap.size := HS.out.size
  clear hs1
  have c0 := cellA HS.out G0.out
  have c1 := cellA HS.out G1.out
  have c2 := cellA HS.out G2.out
  have c3 := cellA HS.out G3.out
  have c4 := cellA HS.out G4.out
  have c5 := cellA HS.out G5.out
  have c6 := cellA HS.out G6.out
  have c7 := cellA HS.out G7.out
  have c8 := cellA HS.out G8.out
  have c9 := cellA HS.out G9.out
  have c10 := cellA HS.out G10.out
  have c11 := cellA HS.out G11.out
  have c12 := cellA HS.out G12.out
  have c13 := cellA HS.out G13.out
  have c14 := cellA HS.out G14.out
  have z0 : w.heap.size < w1.heap.size := by omega
  have z1 : w.heap.size + 1 < w1.heap.size := by omega
  have z2 : w.heap.size + 1 + 1 < w1.heap.size := by omega
  have fr2 : ∀ i, w1.frozen? ⟨w.heap.size + 1 + 1, i, none⟩ = false := fun i => (HS.out.frozen (p := ⟨w.heap.size + 1 + 1, i, none⟩) (show w.heap.size + 1 + 1 < w0.heap.size by omega)).trans (F2.out i)
  have em := MK.out
  have ee := E.out
  go_wp2_with (go_at_call 46; refine (by_any _ _ _ _ (JJ.out _ _ (by omega) (by omega)).1 (JJ.out _ _ (by omega) (by omega)).2 _).mono ?_; rintro e w2 ⟨rfl, hb⟩; have HB2 := hidA hb; obtain ⟨hc2, hf2⟩ := bcell hb; have z20 : w.heap.size + 1 + 1 < w2.heap.size := (by have := hb.size; omega); clear hb)
  all_goals
    exact bodyPost_ret (v := .agg #[.int .i64 (joinA a b).lo, .int .i64 (joinA a b).hi, .int .i64 (joinA a b).m, .int .i64 (joinA a b).r, .int .i64 (joinA a b).k]) (by first | (rw [joinA, show min a.lo b.lo = a.lo by omega, show max a.hi b.hi = a.hi by omega]; simp [results, Try.results19, go_sem, hc2, z20, z2, c10, c11, c12, c13, c14]) | (rw [joinA, show min a.lo b.lo = a.lo by omega, show max a.hi b.hi = b.hi by omega]; simp [results, Try.results19, go_sem, hc2, z20, z2, c10, c11, c12, c13, c14]) | (rw [joinA, show min a.lo b.lo = b.lo by omega, show max a.hi b.hi = a.hi by omega]; simp [results, Try.results19, go_sem, hc2, z20, z2, c10, c11, c12, c13, c14]) | (rw [joinA, show min a.lo b.lo = b.lo by omega, show max a.hi b.hi = b.hi by omega]; simp [results, Try.results19, go_sem, hc2, z20, z2, c10, c11, c12, c13, c14])) rfl ⟨by rfl, (by repeat (first | with_reducible exact Below.refl _ _ | with_reducible exact HB2.out | with_reducible exact HS.out | with_reducible exact B0.out | with_reducible refine Below.setCell ?_ (by first | omega | (dsimp only; omega) | (simp; done) | (simp; omega)) _ | with_reducible refine Below.alloc ?_ (by first | omega | (dsimp only; omega) | (simp; done) | (simp; omega)) _ | with_reducible refine Below.drew ?_ | with_reducible refine Below.trans ?_ (HB2.out.mono (by first | omega | (dsimp only; omega) | (simp; done) | (simp; omega))) | with_reducible refine Below.trans ?_ (HS.out.mono (by first | omega | (dsimp only; omega) | (simp; done) | (simp; omega))) | with_reducible refine Below.trans ?_ (B0.out.mono (by first | omega | (dsimp only; omega) | (simp; done) | (simp; omega)))))⟩
end Go.Proofs.Ytnholabamjodhaa

import Derived.Test.YtdopjadlbhacfaaAg
import Derived.Test.YtdopjadlbhacfaaAa
namespace Go.Proofs.Ytdopjadlbhacfaa
open Go.RowKit Go.Instr Sp
set_option linter.unusedVariables false
set_option linter.unusedSimpArgs false

/-! The reference's sets, by value: products. -/
set_option maxHeartbeats 4000000 in
theorem mul_any (a b : Ab) (A : Val a) (B : Val b) (k : Nat) (hst : stp a * stp b ≤ 4611686018427387904) (hne : ¬ (stp a = 0 ∧ stp b = 0)) (w : World) :
    Calls Try.prog 60 #[.agg #[.int .i64 a.lo, .int .i64 a.hi, .int .i64 a.m, .int .i64 a.r, .int .i64 a.k], .agg #[.int .i64 b.lo, .int .i64 b.hi, .int .i64 b.m, .int .i64 b.r, .int .i64 b.k], .int .i64 k] w fun e w' => e = .returned (.agg #[.int .i64 (mulA a b k).lo, .int .i64 (mulA a b k).hi, .int .i64 (mulA a b k).m, .int .i64 (mulA a b k).r, .int .i64 (mulA a b k).k]) ∧ Below w.heap.size w w' := by
  have WA := hidA (val_wb A)
  have WB := hidA (val_wb B)
  have MO := hidA (mul_ok A B)
  have al := A.l; have ah := A.h; have ao := A.o; have bl := B.l; have bh := B.h; have bo := B.o
  have P1 := mul_far (x := a.lo) (y := b.lo) (by omega) (by omega) (by omega) (by omega)
  have P2 := mul_far (x := a.lo) (y := b.hi) (by omega) (by omega) (by omega) (by omega)
  have P3 := mul_far (x := a.hi) (y := b.lo) (by omega) (by omega) (by omega) (by omega)
  have P4 := mul_far (x := a.hi) (y := b.hi) (by omega) (by omega) (by omega) (by omega)
  have s0 := (stp_bd WA.out).1
  have t0 := (stp_bd WB.out).1
  have u0 : 0 ≤ absI a.lo ∧ absI a.lo ≤ 2147483648 := by unfold absI; omega
  have v0 : 0 ≤ absI b.lo ∧ absI b.lo ≤ 2147483648 := by unfold absI; omega
  have sl := stp_lt A
  have tl := stp_lt B
  have Q1 := mul_big (x := absI a.lo) (y := stp b) u0.1 u0.2 t0 tl
  have Q2 := mul_big (x := absI b.lo) (y := stp a) v0.1 v0.2 s0 sl
  have Q3 : stp a * stp b ≤ 9223372036854775807 := by omega
  have R1 := Int.mul_nonneg u0.1 t0
  have R2 := Int.mul_nonneg v0.1 s0
  have R3 := Int.mul_nonneg s0 t0
  have EM : gc (gc (absI a.lo * stp b) (absI b.lo * stp a)) (stp a * stp b) = stpM a b := by
    have h : ∀ x s : Int, 0 ≤ s → absI (x * s) = absI x * s := by
      intro x s hs
      unfold absI
      rcases Int.le_total 0 x with g | g
      · have := Int.mul_nonneg g hs
        rw [show max x (-x) = x by omega]; omega
      · have := Int.mul_nonneg (show 0 ≤ -x by omega) hs
        rw [Int.neg_mul] at this
        rw [show max x (-x) = -x by omega, Int.neg_mul]; omega
    unfold stpM
    rw [← h _ _ t0, ← h _ _ s0, gc_abs, gc_comm (absI (a.lo * stp b)), gc_abs, gc_comm (b.lo * stp a)]
  have EL : loM a b = min (min (min (a.lo * b.lo) (a.lo * b.hi)) (a.hi * b.lo)) (a.hi * b.hi) := rfl
  have EHI : hiM a b = max (max (max (a.lo * b.lo) (a.lo * b.hi)) (a.hi * b.lo)) (a.hi * b.hi) := rfl
  have EA : Hid (mulA a b k = bdA (loM a b) (hiM a b) (stpM a b) k) := hidA rfl
  have gq1 := gc_nn (absI a.lo * stp b) (absI b.lo * stp a)
  have gq2 := gc_le R1 R2 Q1 Q2
  have gq3 := gc_le gq1 R3 gq2 Q3
  rw [EM] at gq3
  clear A B
  obtain ⟨p, hp⟩ : ∃ p, a.lo * b.lo = p := ⟨_, rfl⟩
  obtain ⟨q, hq⟩ : ∃ q, a.lo * b.hi = q := ⟨_, rfl⟩
  obtain ⟨r, hr⟩ : ∃ r, a.hi * b.lo = r := ⟨_, rfl⟩
  obtain ⟨s, hs'⟩ : ∃ s, a.hi * b.hi = s := ⟨_, rfl⟩
  rw [hp, hq, hr, hs'] at EL EHI
  rw [hp] at P1
  rw [hq] at P2
  rw [hr] at P3
  rw [hs'] at P4
  have LB : loM a b ≤ 4611686016279904256 := by
    by_cases h1 : a.lo = a.hi
    · by_cases h2 : b.lo = b.hi
      · exact absurd ⟨by unfold stp; rw [if_pos h1], by unfold stp; rw [if_pos h2]⟩ hne
      · have := mul_far1 (x := b.hi) (y := a.lo) (by omega) (by omega) (by omega) (by omega)
        rw [Int.mul_comm, hq] at this; omega
    · have := mul_far1 (x := a.hi) (y := b.lo) (by omega) (by omega) (by omega) (by omega)
      rw [hr] at this; omega
  have LB2 : -4611686018427387904 ≤ loM a b := by omega
  have BB := hidA (fun w => bounded_any (loM a b) (hiM a b) (stpM a b) k MO.out gq3 ⟨LB2, by omega⟩ LB w)
  have MN : ∀ ts t w, (Builtin.min_ ts t #[.int .i64 p, .int .i64 q, .int .i64 r, .int .i64 s]).run Try.prog w = .ok (.int .i64 (loM a b)) w := fun ts t w => by rw [run_min4, EL]
  have MX : ∀ ts t w, (Builtin.max_ ts t #[.int .i64 p, .int .i64 q, .int .i64 r, .int .i64 s]).run Try.prog w = .ok (.int .i64 (hiM a b)) w := fun ts t w => by rw [run_max4, EHI]
  have MN' := hidA MN
  have MX' := hidA MX
  clear MN MX
  have EM' := hidA EM
  clear EM EL EHI hne MO LB LB2
  rw [← EA.out] at BB
  generalize loM a b = LO at *
  generalize hiM a b = HI at *
  generalize stpM a b = M at *
  generalize mulA a b k = V at *
  clear EA
  have e1 : IntKind.i64.wrap p = p := IntWalk.i64_in _ (by omega)
  have e2 : IntKind.i64.wrap q = q := IntWalk.i64_in _ (by omega)
  have e3 : IntKind.i64.wrap r = r := IntWalk.i64_in _ (by omega)
  have e4 : IntKind.i64.wrap s = s := IntWalk.i64_in _ (by omega)
  have e5 : IntKind.i64.wrap (absI a.lo * stp b) = absI a.lo * stp b := IntWalk.i64_in _ (by omega)
  have e6 : IntKind.i64.wrap (absI b.lo * stp a) = absI b.lo * stp a := IntWalk.i64_in _ (by omega)
  have e7 : IntKind.i64.wrap (stp a * stp b) = stp a * stp b := IntWalk.i64_in _ (by omega)
  obtain ⟨w0, hw0⟩ : ∃ w0, (((w.alloc (.cells #[.int .i64 a.lo, .int .i64 a.hi, .int .i64 a.m, .int .i64 a.r, .int .i64 a.k] 27)).alloc (.cells #[.int .i64 b.lo, .int .i64 b.hi, .int .i64 b.m, .int .i64 b.r, .int .i64 b.k] 27)).alloc (.cells #[.int .i64 0, .int .i64 0, .int .i64 0, .int .i64 0, .int .i64 0] 27)) = w0 := ⟨_, rfl⟩
  have B0 : Hid (Below w.heap.size w w0) := hidA (by rw [← hw0]; exact (alA (alA (alA (Below.refl _ _) _) _) _))
  have hsz : w.heap.size + 1 + 1 < w0.heap.size := by rw [← hw0]; simp
  have PK : Hid (∀ W, Below w0.heap.size w0 W → abF W (w.heap.size) a (abF W (w.heap.size + 1) b (W.cell? ⟨w.heap.size + 1 + 1, 0, none⟩ = some (.int .i64 0) ∧ W.cell? ⟨w.heap.size + 1 + 1, 1, none⟩ = some (.int .i64 0) ∧ W.cell? ⟨w.heap.size + 1 + 1, 2, none⟩ = some (.int .i64 0) ∧ W.cell? ⟨w.heap.size + 1 + 1, 3, none⟩ = some (.int .i64 0) ∧ W.cell? ⟨w.heap.size + 1 + 1, 4, none⟩ = some (.int .i64 0) ∧ w.heap.size < W.heap.size ∧ w.heap.size + 1 < W.heap.size ∧ w.heap.size + 1 + 1 < W.heap.size ∧ (∀ i, W.frozen? ⟨w.heap.size + 1 + 1, i, none⟩ = false)))) := hidA (fun W hW => by and_intros <;> first | exact cellA hW (by rw [← hw0]; simp [go_sem]) | exact (by have h0 := hW.size; have h1 := hsz; omega) | exact (fun i => (hW.frozen (p := ⟨w.heap.size + 1 + 1, i, none⟩) (show w.heap.size + 1 + 1 < w0.heap.size by have h1 := hsz; omega)).trans (by rw [← hw0]; simp [go_sem])))
  have Hw := hidA hw0; clear hw0
  go_enter Try.func60, Try.ntmps60
  go_wp2_with fail
  rw [Hw.out]
  clear Hw
  have HS : Hid (Below w0.heap.size w0 w0) := hidA (Below.refl _ _)
  obtain ⟨c0, c1, c2, c3, c4, c5, c6, c7, c8, c9, c10, c11, c12, c13, c14, z0, z1, z2, fr2⟩ := PK.out _ HS.out
  have hsD := HS.out.drew
  go_region_held3 (fun w' => w'.cell? ⟨w.heap.size, 0, none⟩ = some (.int .i64 a.lo) ∧ w'.cell? ⟨w.heap.size, 1, none⟩ = some (.int .i64 a.hi) ∧ w'.cell? ⟨w.heap.size, 2, none⟩ = some (.int .i64 a.m) ∧ w'.cell? ⟨w.heap.size, 3, none⟩ = some (.int .i64 a.r) ∧ w'.cell? ⟨w.heap.size, 4, none⟩ = some (.int .i64 a.k) ∧ w'.cell? ⟨w.heap.size + 1, 0, none⟩ = some (.int .i64 b.lo) ∧ w'.cell? ⟨w.heap.size + 1, 1, none⟩ = some (.int .i64 b.hi) ∧ w'.cell? ⟨w.heap.size + 1, 2, none⟩ = some (.int .i64 b.m) ∧ w'.cell? ⟨w.heap.size + 1, 3, none⟩ = some (.int .i64 b.r) ∧ w'.cell? ⟨w.heap.size + 1, 4, none⟩ = some (.int .i64 b.k) ∧ Below w0.heap.size w0 w')
    (first | exact ⟨c0, c1, c2, c3, c4, c5, c6, c7, c8, c9, HS.out.drew⟩ | exact ⟨(PK.out _ (by assumption)).1, (PK.out _ (by assumption)).2.1, (PK.out _ (by assumption)).2.2.1, (PK.out _ (by assumption)).2.2.2.1, (PK.out _ (by assumption)).2.2.2.2.1, (PK.out _ (by assumption)).2.2.2.2.2.1, (PK.out _ (by assumption)).2.2.2.2.2.2.1, (PK.out _ (by assumption)).2.2.2.2.2.2.2.1, (PK.out _ (by assumption)).2.2.2.2.2.2.2.2.1, (PK.out _ (by assumption)).2.2.2.2.2.2.2.2.2.1, by assumption⟩)
    (first
      | fail)
  go_wp2_with fail
  have hs1 : Below w0.heap.size w0 w0.drew := HS.out.drew
  clear e1 e2 e3 e4 hp hq hr hs'
  generalize w0.drew = w1 at *
  try clear hsD
  clear HS; have HS := hidA hs1; clear hs1 c0 c1 c2 c3 c4 c5 c6 c7 c8 c9 c10 c11 c12 c13 c14 z0 z1 z2 fr2; obtain ⟨c0, c1, c2, c3, c4, c5, c6, c7, c8, c9, c10, c11, c12, c13, c14, z0, z1, z2, fr2⟩ := PK.out _ HS.out
  have hsD := HS.out.drew
  go_region_held3 (fun w' => w'.cell? ⟨w.heap.size, 0, none⟩ = some (.int .i64 a.lo) ∧ w'.cell? ⟨w.heap.size, 1, none⟩ = some (.int .i64 a.hi) ∧ w'.cell? ⟨w.heap.size, 2, none⟩ = some (.int .i64 a.m) ∧ w'.cell? ⟨w.heap.size, 3, none⟩ = some (.int .i64 a.r) ∧ w'.cell? ⟨w.heap.size, 4, none⟩ = some (.int .i64 a.k) ∧ w'.cell? ⟨w.heap.size + 1, 0, none⟩ = some (.int .i64 b.lo) ∧ w'.cell? ⟨w.heap.size + 1, 1, none⟩ = some (.int .i64 b.hi) ∧ w'.cell? ⟨w.heap.size + 1, 2, none⟩ = some (.int .i64 b.m) ∧ w'.cell? ⟨w.heap.size + 1, 3, none⟩ = some (.int .i64 b.r) ∧ w'.cell? ⟨w.heap.size + 1, 4, none⟩ = some (.int .i64 b.k) ∧ Below w0.heap.size w0 w')
    (first | exact ⟨c0, c1, c2, c3, c4, c5, c6, c7, c8, c9, HS.out.drew⟩ | exact ⟨(PK.out _ (by assumption)).1, (PK.out _ (by assumption)).2.1, (PK.out _ (by assumption)).2.2.1, (PK.out _ (by assumption)).2.2.2.1, (PK.out _ (by assumption)).2.2.2.2.1, (PK.out _ (by assumption)).2.2.2.2.2.1, (PK.out _ (by assumption)).2.2.2.2.2.2.1, (PK.out _ (by assumption)).2.2.2.2.2.2.2.1, (PK.out _ (by assumption)).2.2.2.2.2.2.2.2.1, (PK.out _ (by assumption)).2.2.2.2.2.2.2.2.2.1, by assumption⟩)
    (first
      | ((go_at_call 50; refine (step_any _ _).mono ?_; rintro e w1 ⟨rfl, hb1⟩; have hs1 : Below w0.heap.size w0 w1 := stepA (by assumption) hb1))
      | ((go_at_call 51; refine (abs_any _ ⟨by omega, by omega⟩ _).mono ?_; rintro e w1 ⟨rfl, rfl⟩))
      | ((go_at_call 49; refine (gcd_any _ _ (by omega) (by omega) (by omega) (by omega) _).mono ?_; rintro e w1 ⟨rfl, hb1⟩; have hs1 : Below w0.heap.size w0 w1 := stepA (by assumption) hb1)))
  try clear hsD
  clear HS; have HS := hidA hs1; clear hs1 c0 c1 c2 c3 c4 c5 c6 c7 c8 c9 c10 c11 c12 c13 c14 z0 z1 z2 fr2; obtain ⟨c0, c1, c2, c3, c4, c5, c6, c7, c8, c9, c10, c11, c12, c13, c14, z0, z1, z2, fr2⟩ := PK.out _ HS.out
  have MN := MN'.out
  have MX := MX'.out
  have EM := EM'.out
  go_wp2_with fail
  clear MN MX EM
  refine (BB.out _).mono ?_
  rintro e w2 ⟨rfl, hb⟩
  have hs1 := stepA HS.out hb
  clear hb
  try clear hsD
  clear HS; have HS := hidA hs1; clear hs1 c0 c1 c2 c3 c4 c5 c6 c7 c8 c9 c10 c11 c12 c13 c14 z0 z1 z2 fr2; obtain ⟨c0, c1, c2, c3, c4, c5, c6, c7, c8, c9, c10, c11, c12, c13, c14, z0, z1, z2, fr2⟩ := PK.out _ HS.out
  go_wp2
  exact bodyPost_ret (v := .agg #[.int .i64 V.lo, .int .i64 V.hi, .int .i64 V.m, .int .i64 V.r, .int .i64 V.k]) (by simp [results, Try.results60, go_sem, c10, c11, c12, c13, c14, z2]) rfl ⟨by rfl, (by repeat (first | with_reducible exact Below.refl _ _ | with_reducible exact HS.out | with_reducible exact B0.out | with_reducible refine Below.setCell ?_ (by first | omega | simp <;> omega) _ | with_reducible refine Below.alloc ?_ (by first | omega | simp <;> omega) _ | with_reducible refine Below.drew ?_ | with_reducible refine drewnA ?_ _ | with_reducible refine Below.trans ?_ (HS.out.mono (by first | omega | simp <;> omega)) | with_reducible refine Below.trans ?_ (B0.out.mono (by first | omega | simp <;> omega))))⟩ 
end Go.Proofs.Ytdopjadlbhacfaa

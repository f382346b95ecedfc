import Derived.Test.YtdopjadlbhacfaaAh
namespace Go.Proofs.Ytdopjadlbhacfaa
open Go.RowKit Go.Instr Sp
set_option linter.unusedVariables false
set_option linter.unusedSimpArgs false

/-! The reference's sets, by value: quotients and remainders. -/
set_option maxHeartbeats 1000000 in
theorem div_in (a b : Ab) (A : Val a) (B : Val b) (k : Nat) (V : Ab) (p q : Int) (hs : (stp b == 0) = true) (h0 : (b.lo == 0) = false) (h0n : (b.lo != 0) = true) (ep : IntKind.i64.wrap (a.lo.tdiv b.lo) = p) (eq : IntKind.i64.wrap (a.hi.tdiv b.lo) = q) (lo hi : Int) (hp : decide (inV p) = true) (hq : decide (inV q) = true) (mn : (if q < p then q else p) = lo) (mx : (if p < q then q else p) = hi) (BYC : Hid (∀ w, Calls Try.prog 46 #[.int .i64 lo, .int .i64 hi, .int .i64 1, .int .i64 k] w fun e w' => e = .returned (.agg #[.int .i64 V.lo, .int .i64 V.hi, .int .i64 V.m, .int .i64 V.r, .int .i64 V.k]) ∧ Below w.heap.size w w')) (w : World) :
    Calls Try.prog 61 #[.agg #[.int .i64 a.lo, .int .i64 a.hi, .int .i64 a.m, .int .i64 a.r, .int .i64 a.k], .agg #[.int .i64 b.lo, .int .i64 b.hi, .int .i64 b.m, .int .i64 b.r, .int .i64 b.k], .int .i64 k] w fun e w' => e = .returned (.agg #[.int .i64 V.lo, .int .i64 V.hi, .int .i64 V.m, .int .i64 V.r, .int .i64 V.k]) ∧ Below w.heap.size w w' := by
  have al := A.l; have ah := A.h; have ao := A.o; have bl := B.l; have bh := B.h; have bo := B.o
  have h00 : ¬ b.lo = 0 := by simpa using h0
  obtain ⟨w0, hw0⟩ : ∃ w0, (((w.alloc (.cells #[.int .i64 a.lo, .int .i64 a.hi, .int .i64 a.m, .int .i64 a.r, .int .i64 a.k] 27)).alloc (.cells #[.int .i64 b.lo, .int .i64 b.hi, .int .i64 b.m, .int .i64 b.r, .int .i64 b.k] 27)).alloc (.cells #[.int .i64 0, .int .i64 0, .int .i64 0, .int .i64 0, .int .i64 0] 27)) = w0 := ⟨_, rfl⟩
  have B0 : Hid (Below w.heap.size w w0) := hidA (by rw [← hw0]; exact (alA (alA (alA (Below.refl _ _) _) _) _))
  have hsz : w.heap.size + 1 + 1 < w0.heap.size := by rw [← hw0]; simp
  have PK : Hid (∀ W, Below w0.heap.size w0 W → abF W (w.heap.size) a (abF W (w.heap.size + 1) b (W.cell? ⟨w.heap.size + 1 + 1, 0, none⟩ = some (.int .i64 0) ∧ W.cell? ⟨w.heap.size + 1 + 1, 1, none⟩ = some (.int .i64 0) ∧ W.cell? ⟨w.heap.size + 1 + 1, 2, none⟩ = some (.int .i64 0) ∧ W.cell? ⟨w.heap.size + 1 + 1, 3, none⟩ = some (.int .i64 0) ∧ W.cell? ⟨w.heap.size + 1 + 1, 4, none⟩ = some (.int .i64 0) ∧ w.heap.size < W.heap.size ∧ w.heap.size + 1 < W.heap.size ∧ w.heap.size + 1 + 1 < W.heap.size ∧ (∀ i, W.frozen? ⟨w.heap.size + 1 + 1, i, none⟩ = false)))) := hidA (fun W hW => by and_intros <;> first | exact cellA hW (by rw [← hw0]; simp [go_sem]) | exact (by have h0 := hW.size; have h1 := hsz; omega) | exact (fun i => (hW.frozen (p := ⟨w.heap.size + 1 + 1, i, none⟩) (show w.heap.size + 1 + 1 < w0.heap.size by have h1 := hsz; omega)).trans (by rw [← hw0]; simp [go_sem])))
  have Hw := hidA hw0; clear hw0
  go_enter Try.func61, Try.ntmps61
  go_wp2_with fail
  rw [Hw.out]
  clear Hw
  have HS : Hid (Below w0.heap.size w0 w0) := hidA (Below.refl _ _)
  obtain ⟨c0, c1, c2, c3, c4, c5, c6, c7, c8, c9, c10, c11, c12, c13, c14, z0, z1, z2, fr2⟩ := PK.out _ HS.out
  go_wp2_with (first | (go_at_call 50; (with_reducible refine (step_any _ _).mono ?_); rintro e w1 ⟨rfl, hb⟩; have hs1 := stepA HS.out hb; clear hb; clear HS; have HS := hidA hs1; clear hs1 c0 c1 c2 c3 c4 c5 c6 c7 c8 c9 c10 c11 c12 c13 c14 z0 z1 z2 fr2; obtain ⟨c0, c1, c2, c3, c4, c5, c6, c7, c8, c9, c10, c11, c12, c13, c14, z0, z1, z2, fr2⟩ := PK.out _ HS.out))
  have hsD := HS.out.drew
  go_region_held3 (fun w' => w'.cell? ⟨w.heap.size, 0, none⟩ = some (.int .i64 a.lo) ∧ w'.cell? ⟨w.heap.size, 1, none⟩ = some (.int .i64 a.hi) ∧ w'.cell? ⟨w.heap.size, 2, none⟩ = some (.int .i64 a.m) ∧ w'.cell? ⟨w.heap.size, 3, none⟩ = some (.int .i64 a.r) ∧ w'.cell? ⟨w.heap.size, 4, none⟩ = some (.int .i64 a.k) ∧ w'.cell? ⟨w.heap.size + 1, 0, none⟩ = some (.int .i64 b.lo) ∧ w'.cell? ⟨w.heap.size + 1, 1, none⟩ = some (.int .i64 b.hi) ∧ w'.cell? ⟨w.heap.size + 1, 2, none⟩ = some (.int .i64 b.m) ∧ w'.cell? ⟨w.heap.size + 1, 3, none⟩ = some (.int .i64 b.r) ∧ w'.cell? ⟨w.heap.size + 1, 4, none⟩ = some (.int .i64 b.k) ∧ Below w0.heap.size w0 w')
    (first | exact ⟨c0, c1, c2, c3, c4, c5, c6, c7, c8, c9, HS.out.drew⟩ | exact ⟨(PK.out _ (by assumption)).1, (PK.out _ (by assumption)).2.1, (PK.out _ (by assumption)).2.2.1, (PK.out _ (by assumption)).2.2.2.1, (PK.out _ (by assumption)).2.2.2.2.1, (PK.out _ (by assumption)).2.2.2.2.2.1, (PK.out _ (by assumption)).2.2.2.2.2.2.1, (PK.out _ (by assumption)).2.2.2.2.2.2.2.1, (PK.out _ (by assumption)).2.2.2.2.2.2.2.2.1, (PK.out _ (by assumption)).2.2.2.2.2.2.2.2.2.1, by assumption⟩)
    (first
      | fail)
  go_wp2_with fail
  try clear hsD
  have hs1 : Below w0.heap.size w0 w1.drew := HS.out.drew
  generalize w1.drew = w2 at *
  clear HS; have HS := hidA hs1; clear hs1 c0 c1 c2 c3 c4 c5 c6 c7 c8 c9 c10 c11 c12 c13 c14 z0 z1 z2 fr2; obtain ⟨c0, c1, c2, c3, c4, c5, c6, c7, c8, c9, c10, c11, c12, c13, c14, z0, z1, z2, fr2⟩ := PK.out _ HS.out
  clear ep eq
  go_wp2_with (first | (go_at_call 86; refine (value_any _ _).mono ?_; rintro e w1 ⟨rfl, rfl⟩) | (go_at_call 46; (with_reducible refine (BYC.out _).mono ?_); rintro e w1 ⟨rfl, hb⟩; have hs1 := stepA HS.out hb; clear hb; clear HS; have HS := hidA hs1; clear hs1 c0 c1 c2 c3 c4 c5 c6 c7 c8 c9 c10 c11 c12 c13 c14 z0 z1 z2 fr2; obtain ⟨c0, c1, c2, c3, c4, c5, c6, c7, c8, c9, c10, c11, c12, c13, c14, z0, z1, z2, fr2⟩ := PK.out _ HS.out))
  exact bodyPost_ret (v := .agg #[.int .i64 V.lo, .int .i64 V.hi, .int .i64 V.m, .int .i64 V.r, .int .i64 V.k]) (by simp [results, Try.results61, go_sem, c10, c11, c12, c13, c14, z2]) rfl ⟨by rfl, (by repeat (first | with_reducible exact Below.refl _ _ | with_reducible exact HS.out | with_reducible exact B0.out | with_reducible refine Below.setCell ?_ (by first | omega | simp <;> omega) _ | with_reducible refine Below.alloc ?_ (by first | omega | simp <;> omega) _ | with_reducible refine Below.drew ?_ | with_reducible refine drewnA ?_ _ | with_reducible refine Below.trans ?_ (HS.out.mono (by first | omega | simp <;> omega)) | with_reducible refine Below.trans ?_ (B0.out.mono (by first | omega | simp <;> omega))))⟩
set_option maxHeartbeats 1000000 in
theorem core_div_out1 (a b : Ab) (A : Val a) (B : Val b) (k : Nat) (V : Ab) (p q : Int) (hs : (stp b == 0) = true) (h0 : (b.lo == 0) = false) (h0n : (b.lo != 0) = true) (ep : IntKind.i64.wrap (a.lo.tdiv b.lo) = p) (eq : IntKind.i64.wrap (a.hi.tdiv b.lo) = q) (HH : ((decide (inV p) = false)) ∨ ((decide (inV p) = true) ∧ (decide (inV q) = false))) (w : World) :
    Calls Try.prog 61 #[.agg #[.int .i64 a.lo, .int .i64 a.hi, .int .i64 a.m, .int .i64 a.r, .int .i64 a.k], .agg #[.int .i64 b.lo, .int .i64 b.hi, .int .i64 b.m, .int .i64 b.r, .int .i64 b.k], .int .i64 k] w fun e w' => e = .returned (.agg #[.int .i64 (allA k).lo, .int .i64 (allA k).hi, .int .i64 (allA k).m, .int .i64 (allA k).r, .int .i64 (allA k).k]) ∧ Below w.heap.size w w' := by
  rcases HH with hp | ⟨hp, hq⟩
  all_goals
    have al := A.l; have ah := A.h; have ao := A.o; have bl := B.l; have bh := B.h; have bo := B.o
    have h00 : ¬ b.lo = 0 := by simpa using h0
    obtain ⟨w0, hw0⟩ : ∃ w0, (((w.alloc (.cells #[.int .i64 a.lo, .int .i64 a.hi, .int .i64 a.m, .int .i64 a.r, .int .i64 a.k] 27)).alloc (.cells #[.int .i64 b.lo, .int .i64 b.hi, .int .i64 b.m, .int .i64 b.r, .int .i64 b.k] 27)).alloc (.cells #[.int .i64 0, .int .i64 0, .int .i64 0, .int .i64 0, .int .i64 0] 27)) = w0 := ⟨_, rfl⟩
    have B0 : Hid (Below w.heap.size w w0) := hidA (by rw [← hw0]; exact (alA (alA (alA (Below.refl _ _) _) _) _))
    have hsz : w.heap.size + 1 + 1 < w0.heap.size := by rw [← hw0]; simp
    have PK : Hid (∀ W, Below w0.heap.size w0 W → abF W (w.heap.size) a (abF W (w.heap.size + 1) b (W.cell? ⟨w.heap.size + 1 + 1, 0, none⟩ = some (.int .i64 0) ∧ W.cell? ⟨w.heap.size + 1 + 1, 1, none⟩ = some (.int .i64 0) ∧ W.cell? ⟨w.heap.size + 1 + 1, 2, none⟩ = some (.int .i64 0) ∧ W.cell? ⟨w.heap.size + 1 + 1, 3, none⟩ = some (.int .i64 0) ∧ W.cell? ⟨w.heap.size + 1 + 1, 4, none⟩ = some (.int .i64 0) ∧ w.heap.size < W.heap.size ∧ w.heap.size + 1 < W.heap.size ∧ w.heap.size + 1 + 1 < W.heap.size ∧ (∀ i, W.frozen? ⟨w.heap.size + 1 + 1, i, none⟩ = false)))) := hidA (fun W hW => by and_intros <;> first | exact cellA hW (by rw [← hw0]; simp [go_sem]) | exact (by have h0 := hW.size; have h1 := hsz; omega) | exact (fun i => (hW.frozen (p := ⟨w.heap.size + 1 + 1, i, none⟩) (show w.heap.size + 1 + 1 < w0.heap.size by have h1 := hsz; omega)).trans (by rw [← hw0]; simp [go_sem])))
    have Hw := hidA hw0; clear hw0
    go_enter Try.func61, Try.ntmps61
    go_wp2_with fail
    rw [Hw.out]
    clear Hw
    have HS : Hid (Below w0.heap.size w0 w0) := hidA (Below.refl _ _)
    obtain ⟨c0, c1, c2, c3, c4, c5, c6, c7, c8, c9, c10, c11, c12, c13, c14, z0, z1, z2, fr2⟩ := PK.out _ HS.out
    go_wp2_with (first | (go_at_call 50; (with_reducible refine (step_any _ _).mono ?_); rintro e w1 ⟨rfl, hb⟩; have hs1 := stepA HS.out hb; clear hb; clear HS; have HS := hidA hs1; clear hs1 c0 c1 c2 c3 c4 c5 c6 c7 c8 c9 c10 c11 c12 c13 c14 z0 z1 z2 fr2; obtain ⟨c0, c1, c2, c3, c4, c5, c6, c7, c8, c9, c10, c11, c12, c13, c14, z0, z1, z2, fr2⟩ := PK.out _ HS.out))
    have hsD := HS.out.drew
    go_region_held3 (fun w' => w'.cell? ⟨w.heap.size, 0, none⟩ = some (.int .i64 a.lo) ∧ w'.cell? ⟨w.heap.size, 1, none⟩ = some (.int .i64 a.hi) ∧ w'.cell? ⟨w.heap.size, 2, none⟩ = some (.int .i64 a.m) ∧ w'.cell? ⟨w.heap.size, 3, none⟩ = some (.int .i64 a.r) ∧ w'.cell? ⟨w.heap.size, 4, none⟩ = some (.int .i64 a.k) ∧ w'.cell? ⟨w.heap.size + 1, 0, none⟩ = some (.int .i64 b.lo) ∧ w'.cell? ⟨w.heap.size + 1, 1, none⟩ = some (.int .i64 b.hi) ∧ w'.cell? ⟨w.heap.size + 1, 2, none⟩ = some (.int .i64 b.m) ∧ w'.cell? ⟨w.heap.size + 1, 3, none⟩ = some (.int .i64 b.r) ∧ w'.cell? ⟨w.heap.size + 1, 4, none⟩ = some (.int .i64 b.k) ∧ Below w0.heap.size w0 w')
      (first | exact ⟨c0, c1, c2, c3, c4, c5, c6, c7, c8, c9, HS.out.drew⟩ | exact ⟨(PK.out _ (by assumption)).1, (PK.out _ (by assumption)).2.1, (PK.out _ (by assumption)).2.2.1, (PK.out _ (by assumption)).2.2.2.1, (PK.out _ (by assumption)).2.2.2.2.1, (PK.out _ (by assumption)).2.2.2.2.2.1, (PK.out _ (by assumption)).2.2.2.2.2.2.1, (PK.out _ (by assumption)).2.2.2.2.2.2.2.1, (PK.out _ (by assumption)).2.2.2.2.2.2.2.2.1, (PK.out _ (by assumption)).2.2.2.2.2.2.2.2.2.1, by assumption⟩)
      (first
        | fail)
    go_wp2_with fail
    try clear hsD
    have hs1 : Below w0.heap.size w0 w1.drew := HS.out.drew
    generalize w1.drew = w2 at *
    clear HS; have HS := hidA hs1; clear hs1 c0 c1 c2 c3 c4 c5 c6 c7 c8 c9 c10 c11 c12 c13 c14 z0 z1 z2 fr2; obtain ⟨c0, c1, c2, c3, c4, c5, c6, c7, c8, c9, c10, c11, c12, c13, c14, z0, z1, z2, fr2⟩ := PK.out _ HS.out
    clear ep eq
    go_wp2_with (first | (go_at_call 86; refine (value_any _ _).mono ?_; rintro e w1 ⟨rfl, rfl⟩) | (go_at_call 29; (with_reducible refine (all_any _ _).mono ?_); rintro e w1 ⟨rfl, hb⟩; have hs1 := stepA HS.out hb; clear hb; clear HS; have HS := hidA hs1; clear hs1 c0 c1 c2 c3 c4 c5 c6 c7 c8 c9 c10 c11 c12 c13 c14 z0 z1 z2 fr2; obtain ⟨c0, c1, c2, c3, c4, c5, c6, c7, c8, c9, c10, c11, c12, c13, c14, z0, z1, z2, fr2⟩ := PK.out _ HS.out))
    exact bodyPost_ret (v := .agg #[.int .i64 (allA k).lo, .int .i64 (allA k).hi, .int .i64 (allA k).m, .int .i64 (allA k).r, .int .i64 (allA k).k]) (by simp [results, Try.results61, go_sem, c10, c11, c12, c13, c14, z2]) rfl ⟨by rfl, (by repeat (first | with_reducible exact Below.refl _ _ | with_reducible exact HS.out | with_reducible exact B0.out | with_reducible refine Below.setCell ?_ (by first | omega | simp <;> omega) _ | with_reducible refine Below.alloc ?_ (by first | omega | simp <;> omega) _ | with_reducible refine Below.drew ?_ | with_reducible refine drewnA ?_ _ | with_reducible refine Below.trans ?_ (HS.out.mono (by first | omega | simp <;> omega)) | with_reducible refine Below.trans ?_ (B0.out.mono (by first | omega | simp <;> omega))))⟩
theorem div_out1 (a b : Ab) (A : Val a) (B : Val b) (k : Nat) (V : Ab) (p q : Int) (hs : (stp b == 0) = true) (h0 : (b.lo == 0) = false) (h0n : (b.lo != 0) = true) (ep : IntKind.i64.wrap (a.lo.tdiv b.lo) = p) (eq : IntKind.i64.wrap (a.hi.tdiv b.lo) = q) (hp : decide (inV p) = false) (w : World) :
    Calls Try.prog 61 #[.agg #[.int .i64 a.lo, .int .i64 a.hi, .int .i64 a.m, .int .i64 a.r, .int .i64 a.k], .agg #[.int .i64 b.lo, .int .i64 b.hi, .int .i64 b.m, .int .i64 b.r, .int .i64 b.k], .int .i64 k] w fun e w' => e = .returned (.agg #[.int .i64 (allA k).lo, .int .i64 (allA k).hi, .int .i64 (allA k).m, .int .i64 (allA k).r, .int .i64 (allA k).k]) ∧ Below w.heap.size w w' :=
  core_div_out1 a b A B k V p q hs h0 h0n ep eq (Or.inl hp) w
set_option maxHeartbeats 1000000 in
theorem div_out2 (a b : Ab) (A : Val a) (B : Val b) (k : Nat) (V : Ab) (p q : Int) (hs : (stp b == 0) = true) (h0 : (b.lo == 0) = false) (h0n : (b.lo != 0) = true) (ep : IntKind.i64.wrap (a.lo.tdiv b.lo) = p) (eq : IntKind.i64.wrap (a.hi.tdiv b.lo) = q) (hp : decide (inV p) = true) (hq : decide (inV q) = false) (w : World) :
    Calls Try.prog 61 #[.agg #[.int .i64 a.lo, .int .i64 a.hi, .int .i64 a.m, .int .i64 a.r, .int .i64 a.k], .agg #[.int .i64 b.lo, .int .i64 b.hi, .int .i64 b.m, .int .i64 b.r, .int .i64 b.k], .int .i64 k] w fun e w' => e = .returned (.agg #[.int .i64 (allA k).lo, .int .i64 (allA k).hi, .int .i64 (allA k).m, .int .i64 (allA k).r, .int .i64 (allA k).k]) ∧ Below w.heap.size w w' :=
  core_div_out1 a b A B k V p q hs h0 h0n ep eq (Or.inr ⟨hp, hq⟩) w
set_option maxHeartbeats 1000000 in
theorem core_div_pos_s (a b : Ab) (A : Val a) (B : Val b) (k : Nat) (V : Ab) (hp : 0 ≤ a.lo) (hq : 0 ≤ b.lo) (BYC : Hid (∀ w, Calls Try.prog 46 #[.int .i64 0, .int .i64 a.hi, .int .i64 1, .int .i64 k] w fun e w' => e = .returned (.agg #[.int .i64 V.lo, .int .i64 V.hi, .int .i64 V.m, .int .i64 V.r, .int .i64 V.k]) ∧ Below w.heap.size w w')) (HH : (((stp b == 0) = false)) ∨ (((stp b == 0) = true) ∧ ((b.lo == 0) = true) ∧ ((b.lo != 0) = false))) (w : World) :
    Calls Try.prog 61 #[.agg #[.int .i64 a.lo, .int .i64 a.hi, .int .i64 a.m, .int .i64 a.r, .int .i64 a.k], .agg #[.int .i64 b.lo, .int .i64 b.hi, .int .i64 b.m, .int .i64 b.r, .int .i64 b.k], .int .i64 k] w fun e w' => e = .returned (.agg #[.int .i64 V.lo, .int .i64 V.hi, .int .i64 V.m, .int .i64 V.r, .int .i64 V.k]) ∧ Below w.heap.size w w' := by
  rcases HH with hs | ⟨hs, h0, h0n⟩
  all_goals
    have al := A.l; have ah := A.h; have ao := A.o; have bl := B.l; have bh := B.h; have bo := B.o
    obtain ⟨w0, hw0⟩ : ∃ w0, (((w.alloc (.cells #[.int .i64 a.lo, .int .i64 a.hi, .int .i64 a.m, .int .i64 a.r, .int .i64 a.k] 27)).alloc (.cells #[.int .i64 b.lo, .int .i64 b.hi, .int .i64 b.m, .int .i64 b.r, .int .i64 b.k] 27)).alloc (.cells #[.int .i64 0, .int .i64 0, .int .i64 0, .int .i64 0, .int .i64 0] 27)) = w0 := ⟨_, rfl⟩
    have B0 : Hid (Below w.heap.size w w0) := hidA (by rw [← hw0]; exact (alA (alA (alA (Below.refl _ _) _) _) _))
    have hsz : w.heap.size + 1 + 1 < w0.heap.size := by rw [← hw0]; simp
    have PK : Hid (∀ W, Below w0.heap.size w0 W → abF W (w.heap.size) a (abF W (w.heap.size + 1) b (W.cell? ⟨w.heap.size + 1 + 1, 0, none⟩ = some (.int .i64 0) ∧ W.cell? ⟨w.heap.size + 1 + 1, 1, none⟩ = some (.int .i64 0) ∧ W.cell? ⟨w.heap.size + 1 + 1, 2, none⟩ = some (.int .i64 0) ∧ W.cell? ⟨w.heap.size + 1 + 1, 3, none⟩ = some (.int .i64 0) ∧ W.cell? ⟨w.heap.size + 1 + 1, 4, none⟩ = some (.int .i64 0) ∧ w.heap.size < W.heap.size ∧ w.heap.size + 1 < W.heap.size ∧ w.heap.size + 1 + 1 < W.heap.size ∧ (∀ i, W.frozen? ⟨w.heap.size + 1 + 1, i, none⟩ = false)))) := hidA (fun W hW => by and_intros <;> first | exact cellA hW (by rw [← hw0]; simp [go_sem]) | exact (by have h0 := hW.size; have h1 := hsz; omega) | exact (fun i => (hW.frozen (p := ⟨w.heap.size + 1 + 1, i, none⟩) (show w.heap.size + 1 + 1 < w0.heap.size by have h1 := hsz; omega)).trans (by rw [← hw0]; simp [go_sem])))
    have Hw := hidA hw0; clear hw0
    go_enter Try.func61, Try.ntmps61
    go_wp2_with fail
    rw [Hw.out]
    clear Hw
    have HS : Hid (Below w0.heap.size w0 w0) := hidA (Below.refl _ _)
    obtain ⟨c0, c1, c2, c3, c4, c5, c6, c7, c8, c9, c10, c11, c12, c13, c14, z0, z1, z2, fr2⟩ := PK.out _ HS.out
    go_wp2_with (first | (go_at_call 50; (with_reducible refine (step_any _ _).mono ?_); rintro e w1 ⟨rfl, hb⟩; have hs1 := stepA HS.out hb; clear hb; clear HS; have HS := hidA hs1; clear hs1 c0 c1 c2 c3 c4 c5 c6 c7 c8 c9 c10 c11 c12 c13 c14 z0 z1 z2 fr2; obtain ⟨c0, c1, c2, c3, c4, c5, c6, c7, c8, c9, c10, c11, c12, c13, c14, z0, z1, z2, fr2⟩ := PK.out _ HS.out) | (go_at_call 46; (with_reducible refine (BYC.out _).mono ?_); rintro e w1 ⟨rfl, hb⟩; have hs1 := stepA HS.out hb; clear hb; clear HS; have HS := hidA hs1; clear hs1 c0 c1 c2 c3 c4 c5 c6 c7 c8 c9 c10 c11 c12 c13 c14 z0 z1 z2 fr2; obtain ⟨c0, c1, c2, c3, c4, c5, c6, c7, c8, c9, c10, c11, c12, c13, c14, z0, z1, z2, fr2⟩ := PK.out _ HS.out))
    exact bodyPost_ret (v := .agg #[.int .i64 V.lo, .int .i64 V.hi, .int .i64 V.m, .int .i64 V.r, .int .i64 V.k]) (by simp [results, Try.results61, go_sem, c10, c11, c12, c13, c14, z2]) rfl ⟨by rfl, (by repeat (first | with_reducible exact Below.refl _ _ | with_reducible exact HS.out | with_reducible exact B0.out | with_reducible refine Below.setCell ?_ (by first | omega | simp <;> omega) _ | with_reducible refine Below.alloc ?_ (by first | omega | simp <;> omega) _ | with_reducible refine Below.drew ?_ | with_reducible refine drewnA ?_ _ | with_reducible refine Below.trans ?_ (HS.out.mono (by first | omega | simp <;> omega)) | with_reducible refine Below.trans ?_ (B0.out.mono (by first | omega | simp <;> omega))))⟩
theorem div_pos_s (a b : Ab) (A : Val a) (B : Val b) (k : Nat) (V : Ab) (hs : (stp b == 0) = false) (hp : 0 ≤ a.lo) (hq : 0 ≤ b.lo) (BYC : Hid (∀ w, Calls Try.prog 46 #[.int .i64 0, .int .i64 a.hi, .int .i64 1, .int .i64 k] w fun e w' => e = .returned (.agg #[.int .i64 V.lo, .int .i64 V.hi, .int .i64 V.m, .int .i64 V.r, .int .i64 V.k]) ∧ Below w.heap.size w w')) (w : World) :
    Calls Try.prog 61 #[.agg #[.int .i64 a.lo, .int .i64 a.hi, .int .i64 a.m, .int .i64 a.r, .int .i64 a.k], .agg #[.int .i64 b.lo, .int .i64 b.hi, .int .i64 b.m, .int .i64 b.r, .int .i64 b.k], .int .i64 k] w fun e w' => e = .returned (.agg #[.int .i64 V.lo, .int .i64 V.hi, .int .i64 V.m, .int .i64 V.r, .int .i64 V.k]) ∧ Below w.heap.size w w' :=
  core_div_pos_s a b A B k V hp hq BYC (Or.inl hs) w
set_option maxHeartbeats 1000000 in
theorem div_pos_z (a b : Ab) (A : Val a) (B : Val b) (k : Nat) (V : Ab) (hs : (stp b == 0) = true) (h0 : (b.lo == 0) = true) (h0n : (b.lo != 0) = false) (hp : 0 ≤ a.lo) (hq : 0 ≤ b.lo) (BYC : Hid (∀ w, Calls Try.prog 46 #[.int .i64 0, .int .i64 a.hi, .int .i64 1, .int .i64 k] w fun e w' => e = .returned (.agg #[.int .i64 V.lo, .int .i64 V.hi, .int .i64 V.m, .int .i64 V.r, .int .i64 V.k]) ∧ Below w.heap.size w w')) (w : World) :
    Calls Try.prog 61 #[.agg #[.int .i64 a.lo, .int .i64 a.hi, .int .i64 a.m, .int .i64 a.r, .int .i64 a.k], .agg #[.int .i64 b.lo, .int .i64 b.hi, .int .i64 b.m, .int .i64 b.r, .int .i64 b.k], .int .i64 k] w fun e w' => e = .returned (.agg #[.int .i64 V.lo, .int .i64 V.hi, .int .i64 V.m, .int .i64 V.r, .int .i64 V.k]) ∧ Below w.heap.size w w' :=
  core_div_pos_s a b A B k V hp hq BYC (Or.inr ⟨hs, h0, h0n⟩) w
set_option maxHeartbeats 1000000 in
theorem core_div_sym_sa (a b : Ab) (A : Val a) (B : Val b) (k : Nat) (V : Ab) (m : Int) (hm0 : 0 ≤ m) (hm1 : m ≤ 2147483648) (em : (if absI a.hi > absI a.lo then absI a.hi else absI a.lo) = m) (hv : decide (inV m) = true) (BYC : Hid (∀ w, Calls Try.prog 46 #[.int .i64 (-m), .int .i64 m, .int .i64 1, .int .i64 k] w fun e w' => e = .returned (.agg #[.int .i64 V.lo, .int .i64 V.hi, .int .i64 V.m, .int .i64 V.r, .int .i64 V.k]) ∧ Below w.heap.size w w')) (HH : (((stp b == 0) = false) ∧ (¬ 0 ≤ a.lo)) ∨ (((stp b == 0) = false) ∧ (0 ≤ a.lo) ∧ (¬ 0 ≤ b.lo)) ∨ (((stp b == 0) = true) ∧ ((b.lo == 0) = true) ∧ ((b.lo != 0) = false) ∧ (¬ 0 ≤ a.lo)) ∨ (((stp b == 0) = true) ∧ ((b.lo == 0) = true) ∧ ((b.lo != 0) = false) ∧ (0 ≤ a.lo) ∧ (¬ 0 ≤ b.lo))) (w : World) :
    Calls Try.prog 61 #[.agg #[.int .i64 a.lo, .int .i64 a.hi, .int .i64 a.m, .int .i64 a.r, .int .i64 a.k], .agg #[.int .i64 b.lo, .int .i64 b.hi, .int .i64 b.m, .int .i64 b.r, .int .i64 b.k], .int .i64 k] w fun e w' => e = .returned (.agg #[.int .i64 V.lo, .int .i64 V.hi, .int .i64 V.m, .int .i64 V.r, .int .i64 V.k]) ∧ Below w.heap.size w w' := by
  rcases HH with ⟨hs, hp⟩ | ⟨hs, hp, hq⟩ | ⟨hs, h0, h0n, hp⟩ | ⟨hs, h0, h0n, hp, hq⟩
  all_goals
    have al := A.l; have ah := A.h; have ao := A.o; have bl := B.l; have bh := B.h; have bo := B.o
    obtain ⟨w0, hw0⟩ : ∃ w0, (((w.alloc (.cells #[.int .i64 a.lo, .int .i64 a.hi, .int .i64 a.m, .int .i64 a.r, .int .i64 a.k] 27)).alloc (.cells #[.int .i64 b.lo, .int .i64 b.hi, .int .i64 b.m, .int .i64 b.r, .int .i64 b.k] 27)).alloc (.cells #[.int .i64 0, .int .i64 0, .int .i64 0, .int .i64 0, .int .i64 0] 27)) = w0 := ⟨_, rfl⟩
    have B0 : Hid (Below w.heap.size w w0) := hidA (by rw [← hw0]; exact (alA (alA (alA (Below.refl _ _) _) _) _))
    have hsz : w.heap.size + 1 + 1 < w0.heap.size := by rw [← hw0]; simp
    have PK : Hid (∀ W, Below w0.heap.size w0 W → abF W (w.heap.size) a (abF W (w.heap.size + 1) b (W.cell? ⟨w.heap.size + 1 + 1, 0, none⟩ = some (.int .i64 0) ∧ W.cell? ⟨w.heap.size + 1 + 1, 1, none⟩ = some (.int .i64 0) ∧ W.cell? ⟨w.heap.size + 1 + 1, 2, none⟩ = some (.int .i64 0) ∧ W.cell? ⟨w.heap.size + 1 + 1, 3, none⟩ = some (.int .i64 0) ∧ W.cell? ⟨w.heap.size + 1 + 1, 4, none⟩ = some (.int .i64 0) ∧ w.heap.size < W.heap.size ∧ w.heap.size + 1 < W.heap.size ∧ w.heap.size + 1 + 1 < W.heap.size ∧ (∀ i, W.frozen? ⟨w.heap.size + 1 + 1, i, none⟩ = false)))) := hidA (fun W hW => by and_intros <;> first | exact cellA hW (by rw [← hw0]; simp [go_sem]) | exact (by have h0 := hW.size; have h1 := hsz; omega) | exact (fun i => (hW.frozen (p := ⟨w.heap.size + 1 + 1, i, none⟩) (show w.heap.size + 1 + 1 < w0.heap.size by have h1 := hsz; omega)).trans (by rw [← hw0]; simp [go_sem])))
    have Hw := hidA hw0; clear hw0
    go_enter Try.func61, Try.ntmps61
    go_wp2_with fail
    rw [Hw.out]
    clear Hw
    have HS : Hid (Below w0.heap.size w0 w0) := hidA (Below.refl _ _)
    obtain ⟨c0, c1, c2, c3, c4, c5, c6, c7, c8, c9, c10, c11, c12, c13, c14, z0, z1, z2, fr2⟩ := PK.out _ HS.out
    go_wp2_with (first | (go_at_call 50; (with_reducible refine (step_any _ _).mono ?_); rintro e w1 ⟨rfl, hb⟩; have hs1 := stepA HS.out hb; clear hb; clear HS; have HS := hidA hs1; clear hs1 c0 c1 c2 c3 c4 c5 c6 c7 c8 c9 c10 c11 c12 c13 c14 z0 z1 z2 fr2; obtain ⟨c0, c1, c2, c3, c4, c5, c6, c7, c8, c9, c10, c11, c12, c13, c14, z0, z1, z2, fr2⟩ := PK.out _ HS.out))
    have hsD := HS.out.drew
    go_region_held3 (fun w' => w'.cell? ⟨w.heap.size, 0, none⟩ = some (.int .i64 a.lo) ∧ w'.cell? ⟨w.heap.size, 1, none⟩ = some (.int .i64 a.hi) ∧ w'.cell? ⟨w.heap.size, 2, none⟩ = some (.int .i64 a.m) ∧ w'.cell? ⟨w.heap.size, 3, none⟩ = some (.int .i64 a.r) ∧ w'.cell? ⟨w.heap.size, 4, none⟩ = some (.int .i64 a.k) ∧ w'.cell? ⟨w.heap.size + 1, 0, none⟩ = some (.int .i64 b.lo) ∧ w'.cell? ⟨w.heap.size + 1, 1, none⟩ = some (.int .i64 b.hi) ∧ w'.cell? ⟨w.heap.size + 1, 2, none⟩ = some (.int .i64 b.m) ∧ w'.cell? ⟨w.heap.size + 1, 3, none⟩ = some (.int .i64 b.r) ∧ w'.cell? ⟨w.heap.size + 1, 4, none⟩ = some (.int .i64 b.k) ∧ Below w0.heap.size w0 w')
      (first | exact ⟨c0, c1, c2, c3, c4, c5, c6, c7, c8, c9, HS.out.drew⟩ | exact ⟨(PK.out _ (by assumption)).1, (PK.out _ (by assumption)).2.1, (PK.out _ (by assumption)).2.2.1, (PK.out _ (by assumption)).2.2.2.1, (PK.out _ (by assumption)).2.2.2.2.1, (PK.out _ (by assumption)).2.2.2.2.2.1, (PK.out _ (by assumption)).2.2.2.2.2.2.1, (PK.out _ (by assumption)).2.2.2.2.2.2.2.1, (PK.out _ (by assumption)).2.2.2.2.2.2.2.2.1, (PK.out _ (by assumption)).2.2.2.2.2.2.2.2.2.1, by assumption⟩)
      (first
        | ((go_at_call 51; refine (abs_any _ ⟨by omega, by omega⟩ _).mono ?_; rintro e w1 ⟨rfl, rfl⟩)))
    go_wp2_with fail
    try clear hsD
    have hs1 : Below w0.heap.size w0 w1.drew := HS.out.drew
    generalize w1.drew = w2 at *
    clear HS; have HS := hidA hs1; clear hs1 c0 c1 c2 c3 c4 c5 c6 c7 c8 c9 c10 c11 c12 c13 c14 z0 z1 z2 fr2; obtain ⟨c0, c1, c2, c3, c4, c5, c6, c7, c8, c9, c10, c11, c12, c13, c14, z0, z1, z2, fr2⟩ := PK.out _ HS.out
    clear em
    go_wp2_with (first | (go_at_call 86; refine (value_any _ _).mono ?_; rintro e w1 ⟨rfl, rfl⟩) | (go_at_call 46; (with_reducible refine (BYC.out _).mono ?_); rintro e w1 ⟨rfl, hb⟩; have hs1 := stepA HS.out hb; clear hb; clear HS; have HS := hidA hs1; clear hs1 c0 c1 c2 c3 c4 c5 c6 c7 c8 c9 c10 c11 c12 c13 c14 z0 z1 z2 fr2; obtain ⟨c0, c1, c2, c3, c4, c5, c6, c7, c8, c9, c10, c11, c12, c13, c14, z0, z1, z2, fr2⟩ := PK.out _ HS.out))
    exact bodyPost_ret (v := .agg #[.int .i64 V.lo, .int .i64 V.hi, .int .i64 V.m, .int .i64 V.r, .int .i64 V.k]) (by simp [results, Try.results61, go_sem, c10, c11, c12, c13, c14, z2]) rfl ⟨by rfl, (by repeat (first | with_reducible exact Below.refl _ _ | with_reducible exact HS.out | with_reducible exact B0.out | with_reducible refine Below.setCell ?_ (by first | omega | simp <;> omega) _ | with_reducible refine Below.alloc ?_ (by first | omega | simp <;> omega) _ | with_reducible refine Below.drew ?_ | with_reducible refine drewnA ?_ _ | with_reducible refine Below.trans ?_ (HS.out.mono (by first | omega | simp <;> omega)) | with_reducible refine Below.trans ?_ (B0.out.mono (by first | omega | simp <;> omega))))⟩
theorem div_sym_sa (a b : Ab) (A : Val a) (B : Val b) (k : Nat) (V : Ab) (m : Int) (hm0 : 0 ≤ m) (hm1 : m ≤ 2147483648) (em : (if absI a.hi > absI a.lo then absI a.hi else absI a.lo) = m) (hs : (stp b == 0) = false) (hp : ¬ 0 ≤ a.lo) (hv : decide (inV m) = true) (BYC : Hid (∀ w, Calls Try.prog 46 #[.int .i64 (-m), .int .i64 m, .int .i64 1, .int .i64 k] w fun e w' => e = .returned (.agg #[.int .i64 V.lo, .int .i64 V.hi, .int .i64 V.m, .int .i64 V.r, .int .i64 V.k]) ∧ Below w.heap.size w w')) (w : World) :
    Calls Try.prog 61 #[.agg #[.int .i64 a.lo, .int .i64 a.hi, .int .i64 a.m, .int .i64 a.r, .int .i64 a.k], .agg #[.int .i64 b.lo, .int .i64 b.hi, .int .i64 b.m, .int .i64 b.r, .int .i64 b.k], .int .i64 k] w fun e w' => e = .returned (.agg #[.int .i64 V.lo, .int .i64 V.hi, .int .i64 V.m, .int .i64 V.r, .int .i64 V.k]) ∧ Below w.heap.size w w' :=
  core_div_sym_sa a b A B k V m hm0 hm1 em hv BYC (Or.inl ⟨hs, hp⟩) w
set_option maxHeartbeats 1000000 in
theorem core_div_all_sa (a b : Ab) (A : Val a) (B : Val b) (k : Nat) (V : Ab) (m : Int) (hm0 : 0 ≤ m) (hm1 : m ≤ 2147483648) (em : (if absI a.hi > absI a.lo then absI a.hi else absI a.lo) = m) (hv : decide (inV m) = false) (HH : (((stp b == 0) = false) ∧ (¬ 0 ≤ a.lo)) ∨ (((stp b == 0) = false) ∧ (0 ≤ a.lo) ∧ (¬ 0 ≤ b.lo)) ∨ (((stp b == 0) = true) ∧ ((b.lo == 0) = true) ∧ ((b.lo != 0) = false) ∧ (¬ 0 ≤ a.lo)) ∨ (((stp b == 0) = true) ∧ ((b.lo == 0) = true) ∧ ((b.lo != 0) = false) ∧ (0 ≤ a.lo) ∧ (¬ 0 ≤ b.lo))) (w : World) :
    Calls Try.prog 61 #[.agg #[.int .i64 a.lo, .int .i64 a.hi, .int .i64 a.m, .int .i64 a.r, .int .i64 a.k], .agg #[.int .i64 b.lo, .int .i64 b.hi, .int .i64 b.m, .int .i64 b.r, .int .i64 b.k], .int .i64 k] w fun e w' => e = .returned (.agg #[.int .i64 (allA k).lo, .int .i64 (allA k).hi, .int .i64 (allA k).m, .int .i64 (allA k).r, .int .i64 (allA k).k]) ∧ Below w.heap.size w w' := by
  rcases HH with ⟨hs, hp⟩ | ⟨hs, hp, hq⟩ | ⟨hs, h0, h0n, hp⟩ | ⟨hs, h0, h0n, hp, hq⟩
  all_goals
    have al := A.l; have ah := A.h; have ao := A.o; have bl := B.l; have bh := B.h; have bo := B.o
    obtain ⟨w0, hw0⟩ : ∃ w0, (((w.alloc (.cells #[.int .i64 a.lo, .int .i64 a.hi, .int .i64 a.m, .int .i64 a.r, .int .i64 a.k] 27)).alloc (.cells #[.int .i64 b.lo, .int .i64 b.hi, .int .i64 b.m, .int .i64 b.r, .int .i64 b.k] 27)).alloc (.cells #[.int .i64 0, .int .i64 0, .int .i64 0, .int .i64 0, .int .i64 0] 27)) = w0 := ⟨_, rfl⟩
    have B0 : Hid (Below w.heap.size w w0) := hidA (by rw [← hw0]; exact (alA (alA (alA (Below.refl _ _) _) _) _))
    have hsz : w.heap.size + 1 + 1 < w0.heap.size := by rw [← hw0]; simp
    have PK : Hid (∀ W, Below w0.heap.size w0 W → abF W (w.heap.size) a (abF W (w.heap.size + 1) b (W.cell? ⟨w.heap.size + 1 + 1, 0, none⟩ = some (.int .i64 0) ∧ W.cell? ⟨w.heap.size + 1 + 1, 1, none⟩ = some (.int .i64 0) ∧ W.cell? ⟨w.heap.size + 1 + 1, 2, none⟩ = some (.int .i64 0) ∧ W.cell? ⟨w.heap.size + 1 + 1, 3, none⟩ = some (.int .i64 0) ∧ W.cell? ⟨w.heap.size + 1 + 1, 4, none⟩ = some (.int .i64 0) ∧ w.heap.size < W.heap.size ∧ w.heap.size + 1 < W.heap.size ∧ w.heap.size + 1 + 1 < W.heap.size ∧ (∀ i, W.frozen? ⟨w.heap.size + 1 + 1, i, none⟩ = false)))) := hidA (fun W hW => by and_intros <;> first | exact cellA hW (by rw [← hw0]; simp [go_sem]) | exact (by have h0 := hW.size; have h1 := hsz; omega) | exact (fun i => (hW.frozen (p := ⟨w.heap.size + 1 + 1, i, none⟩) (show w.heap.size + 1 + 1 < w0.heap.size by have h1 := hsz; omega)).trans (by rw [← hw0]; simp [go_sem])))
    have Hw := hidA hw0; clear hw0
    go_enter Try.func61, Try.ntmps61
    go_wp2_with fail
    rw [Hw.out]
    clear Hw
    have HS : Hid (Below w0.heap.size w0 w0) := hidA (Below.refl _ _)
    obtain ⟨c0, c1, c2, c3, c4, c5, c6, c7, c8, c9, c10, c11, c12, c13, c14, z0, z1, z2, fr2⟩ := PK.out _ HS.out
    go_wp2_with (first | (go_at_call 50; (with_reducible refine (step_any _ _).mono ?_); rintro e w1 ⟨rfl, hb⟩; have hs1 := stepA HS.out hb; clear hb; clear HS; have HS := hidA hs1; clear hs1 c0 c1 c2 c3 c4 c5 c6 c7 c8 c9 c10 c11 c12 c13 c14 z0 z1 z2 fr2; obtain ⟨c0, c1, c2, c3, c4, c5, c6, c7, c8, c9, c10, c11, c12, c13, c14, z0, z1, z2, fr2⟩ := PK.out _ HS.out))
    have hsD := HS.out.drew
    go_region_held3 (fun w' => w'.cell? ⟨w.heap.size, 0, none⟩ = some (.int .i64 a.lo) ∧ w'.cell? ⟨w.heap.size, 1, none⟩ = some (.int .i64 a.hi) ∧ w'.cell? ⟨w.heap.size, 2, none⟩ = some (.int .i64 a.m) ∧ w'.cell? ⟨w.heap.size, 3, none⟩ = some (.int .i64 a.r) ∧ w'.cell? ⟨w.heap.size, 4, none⟩ = some (.int .i64 a.k) ∧ w'.cell? ⟨w.heap.size + 1, 0, none⟩ = some (.int .i64 b.lo) ∧ w'.cell? ⟨w.heap.size + 1, 1, none⟩ = some (.int .i64 b.hi) ∧ w'.cell? ⟨w.heap.size + 1, 2, none⟩ = some (.int .i64 b.m) ∧ w'.cell? ⟨w.heap.size + 1, 3, none⟩ = some (.int .i64 b.r) ∧ w'.cell? ⟨w.heap.size + 1, 4, none⟩ = some (.int .i64 b.k) ∧ Below w0.heap.size w0 w')
      (first | exact ⟨c0, c1, c2, c3, c4, c5, c6, c7, c8, c9, HS.out.drew⟩ | exact ⟨(PK.out _ (by assumption)).1, (PK.out _ (by assumption)).2.1, (PK.out _ (by assumption)).2.2.1, (PK.out _ (by assumption)).2.2.2.1, (PK.out _ (by assumption)).2.2.2.2.1, (PK.out _ (by assumption)).2.2.2.2.2.1, (PK.out _ (by assumption)).2.2.2.2.2.2.1, (PK.out _ (by assumption)).2.2.2.2.2.2.2.1, (PK.out _ (by assumption)).2.2.2.2.2.2.2.2.1, (PK.out _ (by assumption)).2.2.2.2.2.2.2.2.2.1, by assumption⟩)
      (first
        | ((go_at_call 51; refine (abs_any _ ⟨by omega, by omega⟩ _).mono ?_; rintro e w1 ⟨rfl, rfl⟩)))
    go_wp2_with fail
    try clear hsD
    have hs1 : Below w0.heap.size w0 w1.drew := HS.out.drew
    generalize w1.drew = w2 at *
    clear HS; have HS := hidA hs1; clear hs1 c0 c1 c2 c3 c4 c5 c6 c7 c8 c9 c10 c11 c12 c13 c14 z0 z1 z2 fr2; obtain ⟨c0, c1, c2, c3, c4, c5, c6, c7, c8, c9, c10, c11, c12, c13, c14, z0, z1, z2, fr2⟩ := PK.out _ HS.out
    clear em
    go_wp2_with (first | (go_at_call 86; refine (value_any _ _).mono ?_; rintro e w1 ⟨rfl, rfl⟩) | (go_at_call 29; (with_reducible refine (all_any _ _).mono ?_); rintro e w1 ⟨rfl, hb⟩; have hs1 := stepA HS.out hb; clear hb; clear HS; have HS := hidA hs1; clear hs1 c0 c1 c2 c3 c4 c5 c6 c7 c8 c9 c10 c11 c12 c13 c14 z0 z1 z2 fr2; obtain ⟨c0, c1, c2, c3, c4, c5, c6, c7, c8, c9, c10, c11, c12, c13, c14, z0, z1, z2, fr2⟩ := PK.out _ HS.out))
    exact bodyPost_ret (v := .agg #[.int .i64 (allA k).lo, .int .i64 (allA k).hi, .int .i64 (allA k).m, .int .i64 (allA k).r, .int .i64 (allA k).k]) (by simp [results, Try.results61, go_sem, c10, c11, c12, c13, c14, z2]) rfl ⟨by rfl, (by repeat (first | with_reducible exact Below.refl _ _ | with_reducible exact HS.out | with_reducible exact B0.out | with_reducible refine Below.setCell ?_ (by first | omega | simp <;> omega) _ | with_reducible refine Below.alloc ?_ (by first | omega | simp <;> omega) _ | with_reducible refine Below.drew ?_ | with_reducible refine drewnA ?_ _ | with_reducible refine Below.trans ?_ (HS.out.mono (by first | omega | simp <;> omega)) | with_reducible refine Below.trans ?_ (B0.out.mono (by first | omega | simp <;> omega))))⟩
theorem div_all_sa (a b : Ab) (A : Val a) (B : Val b) (k : Nat) (V : Ab) (m : Int) (hm0 : 0 ≤ m) (hm1 : m ≤ 2147483648) (em : (if absI a.hi > absI a.lo then absI a.hi else absI a.lo) = m) (hs : (stp b == 0) = false) (hp : ¬ 0 ≤ a.lo) (hv : decide (inV m) = false) (w : World) :
    Calls Try.prog 61 #[.agg #[.int .i64 a.lo, .int .i64 a.hi, .int .i64 a.m, .int .i64 a.r, .int .i64 a.k], .agg #[.int .i64 b.lo, .int .i64 b.hi, .int .i64 b.m, .int .i64 b.r, .int .i64 b.k], .int .i64 k] w fun e w' => e = .returned (.agg #[.int .i64 (allA k).lo, .int .i64 (allA k).hi, .int .i64 (allA k).m, .int .i64 (allA k).r, .int .i64 (allA k).k]) ∧ Below w.heap.size w w' :=
  core_div_all_sa a b A B k V m hm0 hm1 em hv (Or.inl ⟨hs, hp⟩) w
set_option maxHeartbeats 1000000 in
theorem div_sym_sb (a b : Ab) (A : Val a) (B : Val b) (k : Nat) (V : Ab) (m : Int) (hm0 : 0 ≤ m) (hm1 : m ≤ 2147483648) (em : (if absI a.hi > absI a.lo then absI a.hi else absI a.lo) = m) (hs : (stp b == 0) = false) (hp : 0 ≤ a.lo) (hq : ¬ 0 ≤ b.lo) (hv : decide (inV m) = true) (BYC : Hid (∀ w, Calls Try.prog 46 #[.int .i64 (-m), .int .i64 m, .int .i64 1, .int .i64 k] w fun e w' => e = .returned (.agg #[.int .i64 V.lo, .int .i64 V.hi, .int .i64 V.m, .int .i64 V.r, .int .i64 V.k]) ∧ Below w.heap.size w w')) (w : World) :
    Calls Try.prog 61 #[.agg #[.int .i64 a.lo, .int .i64 a.hi, .int .i64 a.m, .int .i64 a.r, .int .i64 a.k], .agg #[.int .i64 b.lo, .int .i64 b.hi, .int .i64 b.m, .int .i64 b.r, .int .i64 b.k], .int .i64 k] w fun e w' => e = .returned (.agg #[.int .i64 V.lo, .int .i64 V.hi, .int .i64 V.m, .int .i64 V.r, .int .i64 V.k]) ∧ Below w.heap.size w w' :=
  core_div_sym_sa a b A B k V m hm0 hm1 em hv BYC (Or.inr (Or.inl ⟨hs, hp, hq⟩)) w
set_option maxHeartbeats 1000000 in
theorem div_all_sb (a b : Ab) (A : Val a) (B : Val b) (k : Nat) (V : Ab) (m : Int) (hm0 : 0 ≤ m) (hm1 : m ≤ 2147483648) (em : (if absI a.hi > absI a.lo then absI a.hi else absI a.lo) = m) (hs : (stp b == 0) = false) (hp : 0 ≤ a.lo) (hq : ¬ 0 ≤ b.lo) (hv : decide (inV m) = false) (w : World) :
    Calls Try.prog 61 #[.agg #[.int .i64 a.lo, .int .i64 a.hi, .int .i64 a.m, .int .i64 a.r, .int .i64 a.k], .agg #[.int .i64 b.lo, .int .i64 b.hi, .int .i64 b.m, .int .i64 b.r, .int .i64 b.k], .int .i64 k] w fun e w' => e = .returned (.agg #[.int .i64 (allA k).lo, .int .i64 (allA k).hi, .int .i64 (allA k).m, .int .i64 (allA k).r, .int .i64 (allA k).k]) ∧ Below w.heap.size w w' :=
  core_div_all_sa a b A B k V m hm0 hm1 em hv (Or.inr (Or.inl ⟨hs, hp, hq⟩)) w
set_option maxHeartbeats 1000000 in
theorem div_sym_za (a b : Ab) (A : Val a) (B : Val b) (k : Nat) (V : Ab) (m : Int) (hm0 : 0 ≤ m) (hm1 : m ≤ 2147483648) (em : (if absI a.hi > absI a.lo then absI a.hi else absI a.lo) = m) (hs : (stp b == 0) = true) (h0 : (b.lo == 0) = true) (h0n : (b.lo != 0) = false) (hp : ¬ 0 ≤ a.lo) (hv : decide (inV m) = true) (BYC : Hid (∀ w, Calls Try.prog 46 #[.int .i64 (-m), .int .i64 m, .int .i64 1, .int .i64 k] w fun e w' => e = .returned (.agg #[.int .i64 V.lo, .int .i64 V.hi, .int .i64 V.m, .int .i64 V.r, .int .i64 V.k]) ∧ Below w.heap.size w w')) (w : World) :
    Calls Try.prog 61 #[.agg #[.int .i64 a.lo, .int .i64 a.hi, .int .i64 a.m, .int .i64 a.r, .int .i64 a.k], .agg #[.int .i64 b.lo, .int .i64 b.hi, .int .i64 b.m, .int .i64 b.r, .int .i64 b.k], .int .i64 k] w fun e w' => e = .returned (.agg #[.int .i64 V.lo, .int .i64 V.hi, .int .i64 V.m, .int .i64 V.r, .int .i64 V.k]) ∧ Below w.heap.size w w' :=
  core_div_sym_sa a b A B k V m hm0 hm1 em hv BYC (Or.inr (Or.inr (Or.inl ⟨hs, h0, h0n, hp⟩))) w
set_option maxHeartbeats 1000000 in
theorem div_all_za (a b : Ab) (A : Val a) (B : Val b) (k : Nat) (V : Ab) (m : Int) (hm0 : 0 ≤ m) (hm1 : m ≤ 2147483648) (em : (if absI a.hi > absI a.lo then absI a.hi else absI a.lo) = m) (hs : (stp b == 0) = true) (h0 : (b.lo == 0) = true) (h0n : (b.lo != 0) = false) (hp : ¬ 0 ≤ a.lo) (hv : decide (inV m) = false) (w : World) :
    Calls Try.prog 61 #[.agg #[.int .i64 a.lo, .int .i64 a.hi, .int .i64 a.m, .int .i64 a.r, .int .i64 a.k], .agg #[.int .i64 b.lo, .int .i64 b.hi, .int .i64 b.m, .int .i64 b.r, .int .i64 b.k], .int .i64 k] w fun e w' => e = .returned (.agg #[.int .i64 (allA k).lo, .int .i64 (allA k).hi, .int .i64 (allA k).m, .int .i64 (allA k).r, .int .i64 (allA k).k]) ∧ Below w.heap.size w w' :=
  core_div_all_sa a b A B k V m hm0 hm1 em hv (Or.inr (Or.inr (Or.inl ⟨hs, h0, h0n, hp⟩))) w
set_option maxHeartbeats 1000000 in
theorem div_sym_zb (a b : Ab) (A : Val a) (B : Val b) (k : Nat) (V : Ab) (m : Int) (hm0 : 0 ≤ m) (hm1 : m ≤ 2147483648) (em : (if absI a.hi > absI a.lo then absI a.hi else absI a.lo) = m) (hs : (stp b == 0) = true) (h0 : (b.lo == 0) = true) (h0n : (b.lo != 0) = false) (hp : 0 ≤ a.lo) (hq : ¬ 0 ≤ b.lo) (hv : decide (inV m) = true) (BYC : Hid (∀ w, Calls Try.prog 46 #[.int .i64 (-m), .int .i64 m, .int .i64 1, .int .i64 k] w fun e w' => e = .returned (.agg #[.int .i64 V.lo, .int .i64 V.hi, .int .i64 V.m, .int .i64 V.r, .int .i64 V.k]) ∧ Below w.heap.size w w')) (w : World) :
    Calls Try.prog 61 #[.agg #[.int .i64 a.lo, .int .i64 a.hi, .int .i64 a.m, .int .i64 a.r, .int .i64 a.k], .agg #[.int .i64 b.lo, .int .i64 b.hi, .int .i64 b.m, .int .i64 b.r, .int .i64 b.k], .int .i64 k] w fun e w' => e = .returned (.agg #[.int .i64 V.lo, .int .i64 V.hi, .int .i64 V.m, .int .i64 V.r, .int .i64 V.k]) ∧ Below w.heap.size w w' :=
  core_div_sym_sa a b A B k V m hm0 hm1 em hv BYC (Or.inr (Or.inr (Or.inr ⟨hs, h0, h0n, hp, hq⟩))) w
set_option maxHeartbeats 1000000 in
theorem div_all_zb (a b : Ab) (A : Val a) (B : Val b) (k : Nat) (V : Ab) (m : Int) (hm0 : 0 ≤ m) (hm1 : m ≤ 2147483648) (em : (if absI a.hi > absI a.lo then absI a.hi else absI a.lo) = m) (hs : (stp b == 0) = true) (h0 : (b.lo == 0) = true) (h0n : (b.lo != 0) = false) (hp : 0 ≤ a.lo) (hq : ¬ 0 ≤ b.lo) (hv : decide (inV m) = false) (w : World) :
    Calls Try.prog 61 #[.agg #[.int .i64 a.lo, .int .i64 a.hi, .int .i64 a.m, .int .i64 a.r, .int .i64 a.k], .agg #[.int .i64 b.lo, .int .i64 b.hi, .int .i64 b.m, .int .i64 b.r, .int .i64 b.k], .int .i64 k] w fun e w' => e = .returned (.agg #[.int .i64 (allA k).lo, .int .i64 (allA k).hi, .int .i64 (allA k).m, .int .i64 (allA k).r, .int .i64 (allA k).k]) ∧ Below w.heap.size w w' :=
  core_div_all_sa a b A B k V m hm0 hm1 em hv (Or.inr (Or.inr (Or.inr ⟨hs, h0, h0n, hp, hq⟩))) w
theorem byc1 {lo hi : Int} (h : lo ≤ hi) (h1 : -8589934592 ≤ lo) (h2 : hi ≤ 8589934592) (k : Nat) : Hid (∀ w, Calls Try.prog 46 #[.int .i64 lo, .int .i64 hi, .int .i64 1, .int .i64 k] w fun e w' => e = .returned (.agg #[.int .i64 (byA lo hi 1 k).lo, .int .i64 (byA lo hi 1 k).hi, .int .i64 (byA lo hi 1 k).m, .int .i64 (byA lo hi 1 k).r, .int .i64 (byA lo hi 1 k).k]) ∧ Below w.heap.size w w') :=
  hidA (fun w => by_any lo hi 1 k (one_ok h) ⟨h1, h2, by omega⟩ w)
theorem div_any (a b : Ab) (A : Val a) (B : Val b) (k : Nat) (w : World) :
    Calls Try.prog 61 #[.agg #[.int .i64 a.lo, .int .i64 a.hi, .int .i64 a.m, .int .i64 a.r, .int .i64 a.k], .agg #[.int .i64 b.lo, .int .i64 b.hi, .int .i64 b.m, .int .i64 b.r, .int .i64 b.k], .int .i64 k] w fun e w' => e = .returned (.agg #[.int .i64 (divA a b k).lo, .int .i64 (divA a b k).hi, .int .i64 (divA a b k).m, .int .i64 (divA a b k).r, .int .i64 (divA a b k).k]) ∧ Below w.heap.size w w' := by
  have al := A.l; have ah := A.h; have ao := A.o; have bl := B.l; have bh := B.h; have bo := B.o
  unfold divA
  by_cases h : stp b = 0 ∧ b.lo ≠ 0
  · rw [if_pos h]
    have z1 := tdiv_size a.lo b.lo
    have z2 := tdiv_size a.hi b.lo
    have u1 : absI a.lo ≤ 2147483648 := by unfold absI; omega
    have u2 : absI a.hi ≤ 2147483648 := by unfold absI; omega
    obtain ⟨p, hp⟩ : ∃ p, a.lo.tdiv b.lo = p := ⟨_, rfl⟩
    obtain ⟨q, hq⟩ : ∃ q, a.hi.tdiv b.lo = q := ⟨_, rfl⟩
    rw [hp] at z1
    rw [hq] at z2
    have e1 : IntKind.i64.wrap (a.lo.tdiv b.lo) = p := by rw [hp]; exact IntWalk.i64_in _ (by omega)
    have e2 : IntKind.i64.wrap (a.hi.tdiv b.lo) = q := by rw [hq]; exact IntWalk.i64_in _ (by omega)
    rw [hp, hq]
    have f1 : (stp b == 0) = true := by simpa using h.1
    have f2 : (b.lo == 0) = false := by simpa using h.2
    have f3 : (b.lo != 0) = true := by simpa using h.2
    cases h1 : decide (inV p)
    · rw [if_neg (fun g => absurd g.1 (of_decide_eq_false h1))]; exact div_out1 a b A B k a p q f1 f2 f3 e1 e2 h1 w
    · cases h2 : decide (inV q)
      · rw [if_neg (fun g => absurd g.2 (of_decide_eq_false h2))]; exact div_out2 a b A B k a p q f1 f2 f3 e1 e2 h1 h2 w
      · rw [if_pos ⟨of_decide_eq_true h1, of_decide_eq_true h2⟩]
        have i1 := of_decide_eq_true h1
        have i2 := of_decide_eq_true h2
        obtain ⟨i11, i12⟩ := i1
        obtain ⟨i21, i22⟩ := i2
        exact div_in a b A B k _ p q f1 f2 f3 e1 e2 (min p q) (max p q) h1 h2 (by split <;> omega) (by split <;> omega) (byc1 (by omega) (by omega) (by omega) k) w
  · rw [if_neg h]
    have u1 : 0 ≤ absI a.lo := by unfold absI; omega
    have u2 : absI a.lo ≤ 2147483648 := by unfold absI; omega
    have u3 : absI a.hi ≤ 2147483648 := by unfold absI; omega
    have em : (if absI a.hi > absI a.lo then absI a.hi else absI a.lo) = max (absI a.lo) (absI a.hi) := by split <;> omega
    have v1 : 0 ≤ max (absI a.lo) (absI a.hi) := by omega
    have v2 : max (absI a.lo) (absI a.hi) ≤ 2147483648 := by omega
    have key : ∀ (f1 : (stp b == 0) = false ∨ ((stp b == 0) = true ∧ (b.lo == 0) = true ∧ (b.lo != 0) = false)), Calls Try.prog 61 #[.agg #[.int .i64 a.lo, .int .i64 a.hi, .int .i64 a.m, .int .i64 a.r, .int .i64 a.k], .agg #[.int .i64 b.lo, .int .i64 b.hi, .int .i64 b.m, .int .i64 b.r, .int .i64 b.k], .int .i64 k] w fun e w' => e = .returned (.agg #[.int .i64 (if 0 ≤ a.lo ∧ 0 ≤ b.lo then byA 0 a.hi 1 k else if inV (max (absI a.lo) (absI a.hi)) then byA (-max (absI a.lo) (absI a.hi)) (max (absI a.lo) (absI a.hi)) 1 k else allA k).lo, .int .i64 (if 0 ≤ a.lo ∧ 0 ≤ b.lo then byA 0 a.hi 1 k else if inV (max (absI a.lo) (absI a.hi)) then byA (-max (absI a.lo) (absI a.hi)) (max (absI a.lo) (absI a.hi)) 1 k else allA k).hi, .int .i64 (if 0 ≤ a.lo ∧ 0 ≤ b.lo then byA 0 a.hi 1 k else if inV (max (absI a.lo) (absI a.hi)) then byA (-max (absI a.lo) (absI a.hi)) (max (absI a.lo) (absI a.hi)) 1 k else allA k).m, .int .i64 (if 0 ≤ a.lo ∧ 0 ≤ b.lo then byA 0 a.hi 1 k else if inV (max (absI a.lo) (absI a.hi)) then byA (-max (absI a.lo) (absI a.hi)) (max (absI a.lo) (absI a.hi)) 1 k else allA k).r, .int .i64 (if 0 ≤ a.lo ∧ 0 ≤ b.lo then byA 0 a.hi 1 k else if inV (max (absI a.lo) (absI a.hi)) then byA (-max (absI a.lo) (absI a.hi)) (max (absI a.lo) (absI a.hi)) 1 k else allA k).k]) ∧ Below w.heap.size w w' := by
      intro f
      by_cases c1 : 0 ≤ a.lo
      · by_cases c2 : 0 ≤ b.lo
        · rw [if_pos ⟨c1, c2⟩]
          rcases f with f | ⟨f, g1, g2⟩
          · exact div_pos_s a b A B k _ f c1 c2 (byc1 (by omega) (by omega) (by omega) k) w
          · exact div_pos_z a b A B k _ f g1 g2 c1 c2 (byc1 (by omega) (by omega) (by omega) k) w
        · rw [if_neg (fun h => c2 h.2)]
          cases hv : decide (inV (max (absI a.lo) (absI a.hi)))
          · rw [if_neg (of_decide_eq_false hv)]
            rcases f with f | ⟨f, g1, g2⟩
            · exact div_all_sb a b A B k a _ v1 v2 em f c1 c2 hv w
            · exact div_all_zb a b A B k a _ v1 v2 em f g1 g2 c1 c2 hv w
          · rw [if_pos (of_decide_eq_true hv)]
            rcases f with f | ⟨f, g1, g2⟩
            · exact div_sym_sb a b A B k _ _ v1 v2 em f c1 c2 hv (byc1 (by omega) (by omega) (by omega) k) w
            · exact div_sym_zb a b A B k _ _ v1 v2 em f g1 g2 c1 c2 hv (byc1 (by omega) (by omega) (by omega) k) w
      · rw [if_neg (fun h => c1 h.1)]
        cases hv : decide (inV (max (absI a.lo) (absI a.hi)))
        · rw [if_neg (of_decide_eq_false hv)]
          rcases f with f | ⟨f, g1, g2⟩
          · exact div_all_sa a b A B k a _ v1 v2 em f c1 hv w
          · exact div_all_za a b A B k a _ v1 v2 em f g1 g2 c1 hv w
        · rw [if_pos (of_decide_eq_true hv)]
          rcases f with f | ⟨f, g1, g2⟩
          · exact div_sym_sa a b A B k _ _ v1 v2 em f c1 hv (byc1 (by omega) (by omega) (by omega) k) w
          · exact div_sym_za a b A B k _ _ v1 v2 em f g1 g2 c1 hv (byc1 (by omega) (by omega) (by omega) k) w
    apply key
    by_cases s : stp b = 0
    · have : b.lo = 0 := by
        rcases Classical.em (b.lo = 0) with e | e
        · exact e
        · exact absurd ⟨s, e⟩ h
      exact Or.inr ⟨by simpa using s, by simpa using this, by simpa using this⟩
    · exact Or.inl (by simpa using s)
end Go.Proofs.Ytdopjadlbhacfaa

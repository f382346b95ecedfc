import Derived.Test.YtnholabamjodhaaAo
namespace Go.Proofs.Ytnholabamjodhaa
open Go.RowKit Go.Instr Sp
set_option linter.unusedVariables false
set_option linter.unusedSimpArgs false

/-! The reference's inverse; the order of sets. -/
set_option maxHeartbeats 1000000 in
theorem inverse_any (a m : Int) (hm : 1 ≤ m) (hm2 : m ≤ 4294967296) (w : World) :
    Calls Try.prog 54 #[.int .i64 a, .int .i64 m] w fun e w' => e = .returned (.int .i64 (inv a m)) ∧ w = w' := by
  by_cases h1 : m = 1
  · subst h1
    have e : inv a 1 = 0 := if_pos rfl
    rw [e]
    clear e
    go_enter Try.func54, Try.ntmps54
    go_wp2
    go_ret
    exact ⟨rfl, rfl⟩
  · have hz : (m == 1) = false := by simpa using h1
    have EI : Hid (inv a m = invF m (m.toNat + 1) 1 0 (a % m) m) := hidA (if_neg h1)
    have E0 := hidA (eu_first (a := a) hm)
    have hn : m.toNat < m.toNat + 1 := Nat.lt_succ_self _
    have l0 := Int.emod_nonneg a (show m ≠ 0 by omega)
    have l1 := Int.emod_lt_of_pos a (show 0 < m by omega)
    clear h1
    go_enter Try.func54, Try.ntmps54
    go_wp2_with (go_at_call 42; refine (mod_all _ _ (by omega) (by omega) _).mono ?_; rintro e w1 ⟨rfl, rfl⟩)
    go_loop [5, 6, 7, 8] (fun s t p q => ∃ (n : Nat) (x y u v : Int), Hid (EuI a m x y u v) ∧ v.toNat < n ∧ 0 ≤ u ∧ 0 ≤ v ∧ u ≤ m ∧ v ≤ m ∧ Hid (invF m n x y u v = inv a m) ∧ s = .int .i64 x ∧ t = .int .i64 y ∧ p = .int .i64 u ∧ q = .int .i64 v ∧ -m ≤ x ∧ x ≤ m ∧ -m ≤ y ∧ y ≤ m) (fun _ _ _ q => (intOf q).toNat)
    case atStart => exact ⟨m.toNat + 1, 1, 0, a % m, m, E0, by omega, l0, by omega, by omega, by omega, hidA EI.out.symm, rfl, rfl, rfl, rfl, by omega, by omega, by omega, by omega⟩
    case round =>
      obtain ⟨n, x, y, u, v, EU, hv, u0, v0, u1, v1, IF, rfl, rfl, rfl, rfl, x1, x2, y1, y2⟩ := hrel
      cases n with
      | zero => omega
      | succ n =>
        by_cases hy : v = 0
        · subst hy
          have e : inv a m = x % m := by rw [← IF.out]; unfold invF; rw [if_pos rfl]
          have E := hidA e
          clear e
          go_wp2_with (go_at_call 42; refine (mod_all _ _ (by omega) (by omega) _).mono ?_; rintro e w1 ⟨rfl, rfl⟩)
          go_ret
          exact ⟨retA E.out.symm, rfl⟩
        · have hz0 : (v == 0) = false := by simpa using hy
          have hz1 : (v != 0) = true := by simpa using hy
          have N := hidA (eu_next EU.out hy)
          have IF2 : Hid (invF m n y (x - u / v * y) v (u - u / v * v) = inv a m) := hidA (by rw [← IF.out]; conv => rhs; unfold invF; rw [if_neg hy])
          have q0 : 0 ≤ u / v := Int.ediv_nonneg u0 v0
          have q1 : u / v ≤ u := Int.ediv_le_self _ u0
          have ed := Int.mul_ediv_add_emod u v
          rw [Int.mul_comm] at ed
          have r0 := Int.emod_nonneg u hy
          have r1 := Int.emod_lt_of_pos u (show 0 < v by omega)
          have eb : Hid (-m ≤ x - u / v * y ∧ x - u / v * y ≤ m) := hidA (by
            have hN := N.out
            have s := hN.s
            have yb : v * (x - u / v * y) - (u - u / v * v) * y = v * x - u * y := by
              rw [Int.mul_sub, Int.sub_mul, ← Int.mul_assoc, Int.mul_comm v (u / v)]; omega
            rcases s with ⟨s1, s2, s3⟩ | ⟨s1, s2, s3⟩
            · have p := Int.mul_nonneg (show 0 ≤ u - u / v * v by omega) (show 0 ≤ -y by omega)
              have q := Int.mul_le_mul_of_nonneg_right (show 1 ≤ v by omega) s2
              have p2 := Int.mul_neg (u - u / v * v) y
              omega
            · have p := Int.mul_nonneg (show 0 ≤ u - u / v * v by omega) s1
              have q := Int.mul_le_mul_of_nonneg_right (show 1 ≤ v by omega) (show 0 ≤ -(x - u / v * y) by omega)
              have q2 := Int.mul_neg v (x - u / v * y)
              omega)
          have hd : u.tdiv v = u / v := Int.tdiv_eq_ediv_of_nonneg u0
          obtain ⟨Q, hQ⟩ : ∃ Q, u / v = Q := ⟨_, rfl⟩
          rw [hQ] at q0 q1 ed hd N IF2 eb
          obtain ⟨A1, hA1⟩ : ∃ A1, Q * v = A1 := ⟨_, rfl⟩
          obtain ⟨A2, hA2⟩ : ∃ A2, Q * y = A2 := ⟨_, rfl⟩
          rw [hA1] at ed N IF2
          rw [hA2] at N IF2 eb
          have b1 := eb.out.1
          have b2 := eb.out.2
          clear IF EU hy eb
          go_wp2
          go_round
          case rel => exact ⟨n, y, x - A2, v, u - A1, N, by omega, by omega, by omega, by omega, by omega, IF2, by first | rfl | go_num, by first | rfl | go_num, by first | rfl | go_num, by first | rfl | go_num, y1, y2, b1, b2⟩
          case measure => simp [intOf]; omega
set_option maxHeartbeats 1000000 in
theorem leq_1 (a b : Ab) (A : Val a) (B : Val b) (p1 : withinB b a.lo = false)  (w : World) :
    Calls Try.prog 23 #[.agg #[.int .i64 a.lo, .int .i64 a.hi, .int .i64 a.m, .int .i64 a.r, .int .i64 a.k], .agg #[.int .i64 b.lo, .int .i64 b.hi, .int .i64 b.m, .int .i64 b.r, .int .i64 b.k]] w fun e w' => e = .returned (.bool false) ∧ Below w.heap.size w w' := by
  have WB := hidA (val_wb B)
  have m1 := m_pos A
  have m2 := m_pos B
  have hz : (b.m == 0) = false := by simp; omega
  have hz2 : (b.m != 0) = true := by simp; omega
  have hm1 := (val_wb A).m2
  have hm2 := (val_wb B).m2
  have l1 := Int.emod_nonneg a.m (show b.m ≠ 0 by omega)
  have l2 := Int.emod_lt_of_pos a.m (show 0 < b.m by omega)
  obtain ⟨w0, hw0⟩ : ∃ w0, ((w.alloc (.cells #[.int .i64 a.lo, .int .i64 a.hi, .int .i64 a.m, .int .i64 a.r, .int .i64 a.k] 27)).alloc (.cells #[.int .i64 b.lo, .int .i64 b.hi, .int .i64 b.m, .int .i64 b.r, .int .i64 b.k] 27)) = w0 := ⟨_, rfl⟩
  have B0 : Hid (Below w.heap.size w w0) := hidA (by rw [← hw0]; exact (((Below.refl _ _).alloc (by first | exact Nat.le_refl _ | (simp; done) | (simp; omega) | omega) _).alloc (by first | exact Nat.le_refl _ | (simp; done) | (simp; omega) | omega) _))
  have hsz : w.heap.size + 1 < w0.heap.size := by rw [← hw0]; simp
  have PK : Hid (∀ W, Below w0.heap.size w0 W → W.cell? ⟨w.heap.size, 0, none⟩ = some (.int .i64 a.lo) ∧ W.cell? ⟨w.heap.size, 1, none⟩ = some (.int .i64 a.hi) ∧ W.cell? ⟨w.heap.size, 2, none⟩ = some (.int .i64 a.m) ∧ W.cell? ⟨w.heap.size, 3, none⟩ = some (.int .i64 a.r) ∧ W.cell? ⟨w.heap.size, 4, none⟩ = some (.int .i64 a.k) ∧ W.cell? ⟨w.heap.size + 1, 0, none⟩ = some (.int .i64 b.lo) ∧ W.cell? ⟨w.heap.size + 1, 1, none⟩ = some (.int .i64 b.hi) ∧ W.cell? ⟨w.heap.size + 1, 2, none⟩ = some (.int .i64 b.m) ∧ W.cell? ⟨w.heap.size + 1, 3, none⟩ = some (.int .i64 b.r) ∧ W.cell? ⟨w.heap.size + 1, 4, none⟩ = some (.int .i64 b.k) ∧ w.heap.size < W.heap.size ∧ w.heap.size + 1 < W.heap.size) := hidA (fun W hW => ⟨cellA hW (by rw [← hw0]; simp [go_sem]), cellA hW (by rw [← hw0]; simp [go_sem]), cellA hW (by rw [← hw0]; simp [go_sem]), cellA hW (by rw [← hw0]; simp [go_sem]), cellA hW (by rw [← hw0]; simp [go_sem]), cellA hW (by rw [← hw0]; simp [go_sem]), cellA hW (by rw [← hw0]; simp [go_sem]), cellA hW (by rw [← hw0]; simp [go_sem]), cellA hW (by rw [← hw0]; simp [go_sem]), cellA hW (by rw [← hw0]; simp [go_sem]), (by have h0 := hW.size; have h1 := hsz; omega), (by have h0 := hW.size; have h1 := hsz; omega)⟩)
  have Hw := hidA hw0; clear hw0
  go_enter Try.func23, Try.ntmps23
  go_wp2_with fail
  rw [Hw.out]
  clear Hw
  have HS : Hid (Below w0.heap.size w0 w0) := hidA (Below.refl _ _)
  obtain ⟨c0, c1, c2, c3, c4, c5, c6, c7, c8, c9, z0, z1⟩ := PK.out _ HS.out
  go_wp2_with (first | (go_at_call 45; (with_reducible refine (within_any _ WB.out _ _).mono ?_); rintro e w1 ⟨rfl, hb⟩; have hs1 := stepA HS.out hb; clear hb; have HS' := hidA hs1; clear HS hs1; clear c0 c1 c2 c3 c4 c5 c6 c7 c8 c9 z0 z1; have HS := HS'; clear HS'; obtain ⟨c0, c1, c2, c3, c4, c5, c6, c7, c8, c9, z0, z1⟩ := PK.out _ HS.out) | (go_at_call 50; (with_reducible refine (step_any _ _).mono ?_); rintro e w1 ⟨rfl, hb⟩; have hs1 := stepA HS.out hb; clear hb; have HS' := hidA hs1; clear HS hs1; clear c0 c1 c2 c3 c4 c5 c6 c7 c8 c9 z0 z1; have HS := HS'; clear HS'; obtain ⟨c0, c1, c2, c3, c4, c5, c6, c7, c8, c9, z0, z1⟩ := PK.out _ HS.out))
  go_ret
  exact ⟨rfl, (by repeat (first | with_reducible exact Below.refl _ _ | with_reducible exact HS.out | with_reducible exact B0.out | with_reducible refine Below.setCell ?_ (by first | omega | (dsimp only; omega) | (simp; done) | (simp; omega)) _ | with_reducible refine Below.alloc ?_ (by first | omega | (dsimp only; omega) | (simp; done) | (simp; omega)) _ | with_reducible refine Below.drew ?_ | with_reducible refine drewnA ?_ _ | with_reducible refine Below.trans ?_ (HS.out.mono (by first | omega | (dsimp only; omega) | (simp; done) | (simp; omega))) | with_reducible refine Below.trans ?_ (B0.out.mono (by first | omega | (dsimp only; omega) | (simp; done) | (simp; omega)))))⟩
set_option maxHeartbeats 1000000 in
theorem leq_2 (a b : Ab) (A : Val a) (B : Val b) (p1 : withinB b a.lo = true) (p2 : withinB b a.hi = false)  (w : World) :
    Calls Try.prog 23 #[.agg #[.int .i64 a.lo, .int .i64 a.hi, .int .i64 a.m, .int .i64 a.r, .int .i64 a.k], .agg #[.int .i64 b.lo, .int .i64 b.hi, .int .i64 b.m, .int .i64 b.r, .int .i64 b.k]] w fun e w' => e = .returned (.bool false) ∧ Below w.heap.size w w' := by
  have WB := hidA (val_wb B)
  have m1 := m_pos A
  have m2 := m_pos B
  have hz : (b.m == 0) = false := by simp; omega
  have hz2 : (b.m != 0) = true := by simp; omega
  have hm1 := (val_wb A).m2
  have hm2 := (val_wb B).m2
  have l1 := Int.emod_nonneg a.m (show b.m ≠ 0 by omega)
  have l2 := Int.emod_lt_of_pos a.m (show 0 < b.m by omega)
  obtain ⟨w0, hw0⟩ : ∃ w0, ((w.alloc (.cells #[.int .i64 a.lo, .int .i64 a.hi, .int .i64 a.m, .int .i64 a.r, .int .i64 a.k] 27)).alloc (.cells #[.int .i64 b.lo, .int .i64 b.hi, .int .i64 b.m, .int .i64 b.r, .int .i64 b.k] 27)) = w0 := ⟨_, rfl⟩
  have B0 : Hid (Below w.heap.size w w0) := hidA (by rw [← hw0]; exact (((Below.refl _ _).alloc (by first | exact Nat.le_refl _ | (simp; done) | (simp; omega) | omega) _).alloc (by first | exact Nat.le_refl _ | (simp; done) | (simp; omega) | omega) _))
  have hsz : w.heap.size + 1 < w0.heap.size := by rw [← hw0]; simp
  have PK : Hid (∀ W, Below w0.heap.size w0 W → W.cell? ⟨w.heap.size, 0, none⟩ = some (.int .i64 a.lo) ∧ W.cell? ⟨w.heap.size, 1, none⟩ = some (.int .i64 a.hi) ∧ W.cell? ⟨w.heap.size, 2, none⟩ = some (.int .i64 a.m) ∧ W.cell? ⟨w.heap.size, 3, none⟩ = some (.int .i64 a.r) ∧ W.cell? ⟨w.heap.size, 4, none⟩ = some (.int .i64 a.k) ∧ W.cell? ⟨w.heap.size + 1, 0, none⟩ = some (.int .i64 b.lo) ∧ W.cell? ⟨w.heap.size + 1, 1, none⟩ = some (.int .i64 b.hi) ∧ W.cell? ⟨w.heap.size + 1, 2, none⟩ = some (.int .i64 b.m) ∧ W.cell? ⟨w.heap.size + 1, 3, none⟩ = some (.int .i64 b.r) ∧ W.cell? ⟨w.heap.size + 1, 4, none⟩ = some (.int .i64 b.k) ∧ w.heap.size < W.heap.size ∧ w.heap.size + 1 < W.heap.size) := hidA (fun W hW => ⟨cellA hW (by rw [← hw0]; simp [go_sem]), cellA hW (by rw [← hw0]; simp [go_sem]), cellA hW (by rw [← hw0]; simp [go_sem]), cellA hW (by rw [← hw0]; simp [go_sem]), cellA hW (by rw [← hw0]; simp [go_sem]), cellA hW (by rw [← hw0]; simp [go_sem]), cellA hW (by rw [← hw0]; simp [go_sem]), cellA hW (by rw [← hw0]; simp [go_sem]), cellA hW (by rw [← hw0]; simp [go_sem]), cellA hW (by rw [← hw0]; simp [go_sem]), (by have h0 := hW.size; have h1 := hsz; omega), (by have h0 := hW.size; have h1 := hsz; omega)⟩)
  have Hw := hidA hw0; clear hw0
  go_enter Try.func23, Try.ntmps23
  go_wp2_with fail
  rw [Hw.out]
  clear Hw
  have HS : Hid (Below w0.heap.size w0 w0) := hidA (Below.refl _ _)
  obtain ⟨c0, c1, c2, c3, c4, c5, c6, c7, c8, c9, z0, z1⟩ := PK.out _ HS.out
  go_wp2_with (first | (go_at_call 45; (with_reducible refine (within_any _ WB.out _ _).mono ?_); rintro e w1 ⟨rfl, hb⟩; have hs1 := stepA HS.out hb; clear hb; have HS' := hidA hs1; clear HS hs1; clear c0 c1 c2 c3 c4 c5 c6 c7 c8 c9 z0 z1; have HS := HS'; clear HS'; obtain ⟨c0, c1, c2, c3, c4, c5, c6, c7, c8, c9, z0, z1⟩ := PK.out _ HS.out) | (go_at_call 50; (with_reducible refine (step_any _ _).mono ?_); rintro e w1 ⟨rfl, hb⟩; have hs1 := stepA HS.out hb; clear hb; have HS' := hidA hs1; clear HS hs1; clear c0 c1 c2 c3 c4 c5 c6 c7 c8 c9 z0 z1; have HS := HS'; clear HS'; obtain ⟨c0, c1, c2, c3, c4, c5, c6, c7, c8, c9, z0, z1⟩ := PK.out _ HS.out))
  go_ret
  exact ⟨rfl, (by repeat (first | with_reducible exact Below.refl _ _ | with_reducible exact HS.out | with_reducible exact B0.out | with_reducible refine Below.setCell ?_ (by first | omega | (dsimp only; omega) | (simp; done) | (simp; omega)) _ | with_reducible refine Below.alloc ?_ (by first | omega | (dsimp only; omega) | (simp; done) | (simp; omega)) _ | with_reducible refine Below.drew ?_ | with_reducible refine drewnA ?_ _ | with_reducible refine Below.trans ?_ (HS.out.mono (by first | omega | (dsimp only; omega) | (simp; done) | (simp; omega))) | with_reducible refine Below.trans ?_ (B0.out.mono (by first | omega | (dsimp only; omega) | (simp; done) | (simp; omega)))))⟩
set_option maxHeartbeats 1000000 in
theorem leq_3 (a b : Ab) (A : Val a) (B : Val b) (p1 : withinB b a.lo = true) (p2 : withinB b a.hi = true) (s : (stp a == 0) = true) (em : (bits .andNot .i64 (a.k : Int) (b.k : Int) == 0) = sbB a.k b.k)  (w : World) :
    Calls Try.prog 23 #[.agg #[.int .i64 a.lo, .int .i64 a.hi, .int .i64 a.m, .int .i64 a.r, .int .i64 a.k], .agg #[.int .i64 b.lo, .int .i64 b.hi, .int .i64 b.m, .int .i64 b.r, .int .i64 b.k]] w fun e w' => e = .returned (.bool (sbB a.k b.k)) ∧ Below w.heap.size w w' := by
  have WB := hidA (val_wb B)
  have m1 := m_pos A
  have m2 := m_pos B
  have hz : (b.m == 0) = false := by simp; omega
  have hz2 : (b.m != 0) = true := by simp; omega
  have hm1 := (val_wb A).m2
  have hm2 := (val_wb B).m2
  have l1 := Int.emod_nonneg a.m (show b.m ≠ 0 by omega)
  have l2 := Int.emod_lt_of_pos a.m (show 0 < b.m by omega)
  obtain ⟨w0, hw0⟩ : ∃ w0, ((w.alloc (.cells #[.int .i64 a.lo, .int .i64 a.hi, .int .i64 a.m, .int .i64 a.r, .int .i64 a.k] 27)).alloc (.cells #[.int .i64 b.lo, .int .i64 b.hi, .int .i64 b.m, .int .i64 b.r, .int .i64 b.k] 27)) = w0 := ⟨_, rfl⟩
  have B0 : Hid (Below w.heap.size w w0) := hidA (by rw [← hw0]; exact (((Below.refl _ _).alloc (by first | exact Nat.le_refl _ | (simp; done) | (simp; omega) | omega) _).alloc (by first | exact Nat.le_refl _ | (simp; done) | (simp; omega) | omega) _))
  have hsz : w.heap.size + 1 < w0.heap.size := by rw [← hw0]; simp
  have PK : Hid (∀ W, Below w0.heap.size w0 W → W.cell? ⟨w.heap.size, 0, none⟩ = some (.int .i64 a.lo) ∧ W.cell? ⟨w.heap.size, 1, none⟩ = some (.int .i64 a.hi) ∧ W.cell? ⟨w.heap.size, 2, none⟩ = some (.int .i64 a.m) ∧ W.cell? ⟨w.heap.size, 3, none⟩ = some (.int .i64 a.r) ∧ W.cell? ⟨w.heap.size, 4, none⟩ = some (.int .i64 a.k) ∧ W.cell? ⟨w.heap.size + 1, 0, none⟩ = some (.int .i64 b.lo) ∧ W.cell? ⟨w.heap.size + 1, 1, none⟩ = some (.int .i64 b.hi) ∧ W.cell? ⟨w.heap.size + 1, 2, none⟩ = some (.int .i64 b.m) ∧ W.cell? ⟨w.heap.size + 1, 3, none⟩ = some (.int .i64 b.r) ∧ W.cell? ⟨w.heap.size + 1, 4, none⟩ = some (.int .i64 b.k) ∧ w.heap.size < W.heap.size ∧ w.heap.size + 1 < W.heap.size) := hidA (fun W hW => ⟨cellA hW (by rw [← hw0]; simp [go_sem]), cellA hW (by rw [← hw0]; simp [go_sem]), cellA hW (by rw [← hw0]; simp [go_sem]), cellA hW (by rw [← hw0]; simp [go_sem]), cellA hW (by rw [← hw0]; simp [go_sem]), cellA hW (by rw [← hw0]; simp [go_sem]), cellA hW (by rw [← hw0]; simp [go_sem]), cellA hW (by rw [← hw0]; simp [go_sem]), cellA hW (by rw [← hw0]; simp [go_sem]), cellA hW (by rw [← hw0]; simp [go_sem]), (by have h0 := hW.size; have h1 := hsz; omega), (by have h0 := hW.size; have h1 := hsz; omega)⟩)
  have Hw := hidA hw0; clear hw0
  go_enter Try.func23, Try.ntmps23
  go_wp2_with fail
  rw [Hw.out]
  clear Hw
  have HS : Hid (Below w0.heap.size w0 w0) := hidA (Below.refl _ _)
  obtain ⟨c0, c1, c2, c3, c4, c5, c6, c7, c8, c9, z0, z1⟩ := PK.out _ HS.out
  go_wp2_with (first | (go_at_call 45; (with_reducible refine (within_any _ WB.out _ _).mono ?_); rintro e w1 ⟨rfl, hb⟩; have hs1 := stepA HS.out hb; clear hb; have HS' := hidA hs1; clear HS hs1; clear c0 c1 c2 c3 c4 c5 c6 c7 c8 c9 z0 z1; have HS := HS'; clear HS'; obtain ⟨c0, c1, c2, c3, c4, c5, c6, c7, c8, c9, z0, z1⟩ := PK.out _ HS.out) | (go_at_call 50; (with_reducible refine (step_any _ _).mono ?_); rintro e w1 ⟨rfl, hb⟩; have hs1 := stepA HS.out hb; clear hb; have HS' := hidA hs1; clear HS hs1; clear c0 c1 c2 c3 c4 c5 c6 c7 c8 c9 z0 z1; have HS := HS'; clear HS'; obtain ⟨c0, c1, c2, c3, c4, c5, c6, c7, c8, c9, z0, z1⟩ := PK.out _ HS.out))
  go_ret
  exact ⟨rfl, (by repeat (first | with_reducible exact Below.refl _ _ | with_reducible exact HS.out | with_reducible exact B0.out | with_reducible refine Below.setCell ?_ (by first | omega | (dsimp only; omega) | (simp; done) | (simp; omega)) _ | with_reducible refine Below.alloc ?_ (by first | omega | (dsimp only; omega) | (simp; done) | (simp; omega)) _ | with_reducible refine Below.drew ?_ | with_reducible refine drewnA ?_ _ | with_reducible refine Below.trans ?_ (HS.out.mono (by first | omega | (dsimp only; omega) | (simp; done) | (simp; omega))) | with_reducible refine Below.trans ?_ (B0.out.mono (by first | omega | (dsimp only; omega) | (simp; done) | (simp; omega)))))⟩
set_option maxHeartbeats 1000000 in
theorem leq_4 (a b : Ab) (A : Val a) (B : Val b) (p1 : withinB b a.lo = true) (p2 : withinB b a.hi = true) (s : (stp a == 0) = false) (t : (stp b == 0) = true) (em : (bits .andNot .i64 (a.k : Int) (b.k : Int) == 0) = sbB a.k b.k)  (w : World) :
    Calls Try.prog 23 #[.agg #[.int .i64 a.lo, .int .i64 a.hi, .int .i64 a.m, .int .i64 a.r, .int .i64 a.k], .agg #[.int .i64 b.lo, .int .i64 b.hi, .int .i64 b.m, .int .i64 b.r, .int .i64 b.k]] w fun e w' => e = .returned (.bool (sbB a.k b.k)) ∧ Below w.heap.size w w' := by
  have WB := hidA (val_wb B)
  have m1 := m_pos A
  have m2 := m_pos B
  have hz : (b.m == 0) = false := by simp; omega
  have hz2 : (b.m != 0) = true := by simp; omega
  have hm1 := (val_wb A).m2
  have hm2 := (val_wb B).m2
  have l1 := Int.emod_nonneg a.m (show b.m ≠ 0 by omega)
  have l2 := Int.emod_lt_of_pos a.m (show 0 < b.m by omega)
  obtain ⟨w0, hw0⟩ : ∃ w0, ((w.alloc (.cells #[.int .i64 a.lo, .int .i64 a.hi, .int .i64 a.m, .int .i64 a.r, .int .i64 a.k] 27)).alloc (.cells #[.int .i64 b.lo, .int .i64 b.hi, .int .i64 b.m, .int .i64 b.r, .int .i64 b.k] 27)) = w0 := ⟨_, rfl⟩
  have B0 : Hid (Below w.heap.size w w0) := hidA (by rw [← hw0]; exact (((Below.refl _ _).alloc (by first | exact Nat.le_refl _ | (simp; done) | (simp; omega) | omega) _).alloc (by first | exact Nat.le_refl _ | (simp; done) | (simp; omega) | omega) _))
  have hsz : w.heap.size + 1 < w0.heap.size := by rw [← hw0]; simp
  have PK : Hid (∀ W, Below w0.heap.size w0 W → W.cell? ⟨w.heap.size, 0, none⟩ = some (.int .i64 a.lo) ∧ W.cell? ⟨w.heap.size, 1, none⟩ = some (.int .i64 a.hi) ∧ W.cell? ⟨w.heap.size, 2, none⟩ = some (.int .i64 a.m) ∧ W.cell? ⟨w.heap.size, 3, none⟩ = some (.int .i64 a.r) ∧ W.cell? ⟨w.heap.size, 4, none⟩ = some (.int .i64 a.k) ∧ W.cell? ⟨w.heap.size + 1, 0, none⟩ = some (.int .i64 b.lo) ∧ W.cell? ⟨w.heap.size + 1, 1, none⟩ = some (.int .i64 b.hi) ∧ W.cell? ⟨w.heap.size + 1, 2, none⟩ = some (.int .i64 b.m) ∧ W.cell? ⟨w.heap.size + 1, 3, none⟩ = some (.int .i64 b.r) ∧ W.cell? ⟨w.heap.size + 1, 4, none⟩ = some (.int .i64 b.k) ∧ w.heap.size < W.heap.size ∧ w.heap.size + 1 < W.heap.size) := hidA (fun W hW => ⟨cellA hW (by rw [← hw0]; simp [go_sem]), cellA hW (by rw [← hw0]; simp [go_sem]), cellA hW (by rw [← hw0]; simp [go_sem]), cellA hW (by rw [← hw0]; simp [go_sem]), cellA hW (by rw [← hw0]; simp [go_sem]), cellA hW (by rw [← hw0]; simp [go_sem]), cellA hW (by rw [← hw0]; simp [go_sem]), cellA hW (by rw [← hw0]; simp [go_sem]), cellA hW (by rw [← hw0]; simp [go_sem]), cellA hW (by rw [← hw0]; simp [go_sem]), (by have h0 := hW.size; have h1 := hsz; omega), (by have h0 := hW.size; have h1 := hsz; omega)⟩)
  have Hw := hidA hw0; clear hw0
  go_enter Try.func23, Try.ntmps23
  go_wp2_with fail
  rw [Hw.out]
  clear Hw
  have HS : Hid (Below w0.heap.size w0 w0) := hidA (Below.refl _ _)
  obtain ⟨c0, c1, c2, c3, c4, c5, c6, c7, c8, c9, z0, z1⟩ := PK.out _ HS.out
  go_wp2_with (first | (go_at_call 45; (with_reducible refine (within_any _ WB.out _ _).mono ?_); rintro e w1 ⟨rfl, hb⟩; have hs1 := stepA HS.out hb; clear hb; have HS' := hidA hs1; clear HS hs1; clear c0 c1 c2 c3 c4 c5 c6 c7 c8 c9 z0 z1; have HS := HS'; clear HS'; obtain ⟨c0, c1, c2, c3, c4, c5, c6, c7, c8, c9, z0, z1⟩ := PK.out _ HS.out) | (go_at_call 50; (with_reducible refine (step_any _ _).mono ?_); rintro e w1 ⟨rfl, hb⟩; have hs1 := stepA HS.out hb; clear hb; have HS' := hidA hs1; clear HS hs1; clear c0 c1 c2 c3 c4 c5 c6 c7 c8 c9 z0 z1; have HS := HS'; clear HS'; obtain ⟨c0, c1, c2, c3, c4, c5, c6, c7, c8, c9, z0, z1⟩ := PK.out _ HS.out))
  go_ret
  exact ⟨rfl, (by repeat (first | with_reducible exact Below.refl _ _ | with_reducible exact HS.out | with_reducible exact B0.out | with_reducible refine Below.setCell ?_ (by first | omega | (dsimp only; omega) | (simp; done) | (simp; omega)) _ | with_reducible refine Below.alloc ?_ (by first | omega | (dsimp only; omega) | (simp; done) | (simp; omega)) _ | with_reducible refine Below.drew ?_ | with_reducible refine drewnA ?_ _ | with_reducible refine Below.trans ?_ (HS.out.mono (by first | omega | (dsimp only; omega) | (simp; done) | (simp; omega))) | with_reducible refine Below.trans ?_ (B0.out.mono (by first | omega | (dsimp only; omega) | (simp; done) | (simp; omega)))))⟩
set_option maxHeartbeats 1000000 in
theorem leq_5 (a b : Ab) (A : Val a) (B : Val b) (p1 : withinB b a.lo = true) (p2 : withinB b a.hi = true) (s : (stp a == 0) = false) (t : (stp b == 0) = false) (r : (a.m % b.m == 0) = true) (em : (bits .andNot .i64 (a.k : Int) (b.k : Int) == 0) = sbB a.k b.k)  (w : World) :
    Calls Try.prog 23 #[.agg #[.int .i64 a.lo, .int .i64 a.hi, .int .i64 a.m, .int .i64 a.r, .int .i64 a.k], .agg #[.int .i64 b.lo, .int .i64 b.hi, .int .i64 b.m, .int .i64 b.r, .int .i64 b.k]] w fun e w' => e = .returned (.bool (sbB a.k b.k)) ∧ Below w.heap.size w w' := by
  have WB := hidA (val_wb B)
  have m1 := m_pos A
  have m2 := m_pos B
  have hz : (b.m == 0) = false := by simp; omega
  have hz2 : (b.m != 0) = true := by simp; omega
  have hm1 := (val_wb A).m2
  have hm2 := (val_wb B).m2
  have l1 := Int.emod_nonneg a.m (show b.m ≠ 0 by omega)
  have l2 := Int.emod_lt_of_pos a.m (show 0 < b.m by omega)
  obtain ⟨w0, hw0⟩ : ∃ w0, ((w.alloc (.cells #[.int .i64 a.lo, .int .i64 a.hi, .int .i64 a.m, .int .i64 a.r, .int .i64 a.k] 27)).alloc (.cells #[.int .i64 b.lo, .int .i64 b.hi, .int .i64 b.m, .int .i64 b.r, .int .i64 b.k] 27)) = w0 := ⟨_, rfl⟩
  have B0 : Hid (Below w.heap.size w w0) := hidA (by rw [← hw0]; exact (((Below.refl _ _).alloc (by first | exact Nat.le_refl _ | (simp; done) | (simp; omega) | omega) _).alloc (by first | exact Nat.le_refl _ | (simp; done) | (simp; omega) | omega) _))
  have hsz : w.heap.size + 1 < w0.heap.size := by rw [← hw0]; simp
  have PK : Hid (∀ W, Below w0.heap.size w0 W → W.cell? ⟨w.heap.size, 0, none⟩ = some (.int .i64 a.lo) ∧ W.cell? ⟨w.heap.size, 1, none⟩ = some (.int .i64 a.hi) ∧ W.cell? ⟨w.heap.size, 2, none⟩ = some (.int .i64 a.m) ∧ W.cell? ⟨w.heap.size, 3, none⟩ = some (.int .i64 a.r) ∧ W.cell? ⟨w.heap.size, 4, none⟩ = some (.int .i64 a.k) ∧ W.cell? ⟨w.heap.size + 1, 0, none⟩ = some (.int .i64 b.lo) ∧ W.cell? ⟨w.heap.size + 1, 1, none⟩ = some (.int .i64 b.hi) ∧ W.cell? ⟨w.heap.size + 1, 2, none⟩ = some (.int .i64 b.m) ∧ W.cell? ⟨w.heap.size + 1, 3, none⟩ = some (.int .i64 b.r) ∧ W.cell? ⟨w.heap.size + 1, 4, none⟩ = some (.int .i64 b.k) ∧ w.heap.size < W.heap.size ∧ w.heap.size + 1 < W.heap.size) := hidA (fun W hW => ⟨cellA hW (by rw [← hw0]; simp [go_sem]), cellA hW (by rw [← hw0]; simp [go_sem]), cellA hW (by rw [← hw0]; simp [go_sem]), cellA hW (by rw [← hw0]; simp [go_sem]), cellA hW (by rw [← hw0]; simp [go_sem]), cellA hW (by rw [← hw0]; simp [go_sem]), cellA hW (by rw [← hw0]; simp [go_sem]), cellA hW (by rw [← hw0]; simp [go_sem]), cellA hW (by rw [← hw0]; simp [go_sem]), cellA hW (by rw [← hw0]; simp [go_sem]), (by have h0 := hW.size; have h1 := hsz; omega), (by have h0 := hW.size; have h1 := hsz; omega)⟩)
  have Hw := hidA hw0; clear hw0
  go_enter Try.func23, Try.ntmps23
  go_wp2_with fail
  rw [Hw.out]
  clear Hw
  have HS : Hid (Below w0.heap.size w0 w0) := hidA (Below.refl _ _)
  obtain ⟨c0, c1, c2, c3, c4, c5, c6, c7, c8, c9, z0, z1⟩ := PK.out _ HS.out
  go_wp2_with (first | (go_at_call 45; (with_reducible refine (within_any _ WB.out _ _).mono ?_); rintro e w1 ⟨rfl, hb⟩; have hs1 := stepA HS.out hb; clear hb; have HS' := hidA hs1; clear HS hs1; clear c0 c1 c2 c3 c4 c5 c6 c7 c8 c9 z0 z1; have HS := HS'; clear HS'; obtain ⟨c0, c1, c2, c3, c4, c5, c6, c7, c8, c9, z0, z1⟩ := PK.out _ HS.out) | (go_at_call 50; (with_reducible refine (step_any _ _).mono ?_); rintro e w1 ⟨rfl, hb⟩; have hs1 := stepA HS.out hb; clear hb; have HS' := hidA hs1; clear HS hs1; clear c0 c1 c2 c3 c4 c5 c6 c7 c8 c9 z0 z1; have HS := HS'; clear HS'; obtain ⟨c0, c1, c2, c3, c4, c5, c6, c7, c8, c9, z0, z1⟩ := PK.out _ HS.out))
  go_ret
  exact ⟨rfl, (by repeat (first | with_reducible exact Below.refl _ _ | with_reducible exact HS.out | with_reducible exact B0.out | with_reducible refine Below.setCell ?_ (by first | omega | (dsimp only; omega) | (simp; done) | (simp; omega)) _ | with_reducible refine Below.alloc ?_ (by first | omega | (dsimp only; omega) | (simp; done) | (simp; omega)) _ | with_reducible refine Below.drew ?_ | with_reducible refine drewnA ?_ _ | with_reducible refine Below.trans ?_ (HS.out.mono (by first | omega | (dsimp only; omega) | (simp; done) | (simp; omega))) | with_reducible refine Below.trans ?_ (B0.out.mono (by first | omega | (dsimp only; omega) | (simp; done) | (simp; omega)))))⟩
set_option maxHeartbeats 1000000 in
theorem leq_6 (a b : Ab) (A : Val a) (B : Val b) (p1 : withinB b a.lo = true) (p2 : withinB b a.hi = true) (s : (stp a == 0) = false) (t : (stp b == 0) = false) (r : (a.m % b.m == 0) = false)  (w : World) :
    Calls Try.prog 23 #[.agg #[.int .i64 a.lo, .int .i64 a.hi, .int .i64 a.m, .int .i64 a.r, .int .i64 a.k], .agg #[.int .i64 b.lo, .int .i64 b.hi, .int .i64 b.m, .int .i64 b.r, .int .i64 b.k]] w fun e w' => e = .returned (.bool false) ∧ Below w.heap.size w w' := by
  have WB := hidA (val_wb B)
  have m1 := m_pos A
  have m2 := m_pos B
  have hz : (b.m == 0) = false := by simp; omega
  have hz2 : (b.m != 0) = true := by simp; omega
  have hm1 := (val_wb A).m2
  have hm2 := (val_wb B).m2
  have l1 := Int.emod_nonneg a.m (show b.m ≠ 0 by omega)
  have l2 := Int.emod_lt_of_pos a.m (show 0 < b.m by omega)
  obtain ⟨w0, hw0⟩ : ∃ w0, ((w.alloc (.cells #[.int .i64 a.lo, .int .i64 a.hi, .int .i64 a.m, .int .i64 a.r, .int .i64 a.k] 27)).alloc (.cells #[.int .i64 b.lo, .int .i64 b.hi, .int .i64 b.m, .int .i64 b.r, .int .i64 b.k] 27)) = w0 := ⟨_, rfl⟩
  have B0 : Hid (Below w.heap.size w w0) := hidA (by rw [← hw0]; exact (((Below.refl _ _).alloc (by first | exact Nat.le_refl _ | (simp; done) | (simp; omega) | omega) _).alloc (by first | exact Nat.le_refl _ | (simp; done) | (simp; omega) | omega) _))
  have hsz : w.heap.size + 1 < w0.heap.size := by rw [← hw0]; simp
  have PK : Hid (∀ W, Below w0.heap.size w0 W → W.cell? ⟨w.heap.size, 0, none⟩ = some (.int .i64 a.lo) ∧ W.cell? ⟨w.heap.size, 1, none⟩ = some (.int .i64 a.hi) ∧ W.cell? ⟨w.heap.size, 2, none⟩ = some (.int .i64 a.m) ∧ W.cell? ⟨w.heap.size, 3, none⟩ = some (.int .i64 a.r) ∧ W.cell? ⟨w.heap.size, 4, none⟩ = some (.int .i64 a.k) ∧ W.cell? ⟨w.heap.size + 1, 0, none⟩ = some (.int .i64 b.lo) ∧ W.cell? ⟨w.heap.size + 1, 1, none⟩ = some (.int .i64 b.hi) ∧ W.cell? ⟨w.heap.size + 1, 2, none⟩ = some (.int .i64 b.m) ∧ W.cell? ⟨w.heap.size + 1, 3, none⟩ = some (.int .i64 b.r) ∧ W.cell? ⟨w.heap.size + 1, 4, none⟩ = some (.int .i64 b.k) ∧ w.heap.size < W.heap.size ∧ w.heap.size + 1 < W.heap.size) := hidA (fun W hW => ⟨cellA hW (by rw [← hw0]; simp [go_sem]), cellA hW (by rw [← hw0]; simp [go_sem]), cellA hW (by rw [← hw0]; simp [go_sem]), cellA hW (by rw [← hw0]; simp [go_sem]), cellA hW (by rw [← hw0]; simp [go_sem]), cellA hW (by rw [← hw0]; simp [go_sem]), cellA hW (by rw [← hw0]; simp [go_sem]), cellA hW (by rw [← hw0]; simp [go_sem]), cellA hW (by rw [← hw0]; simp [go_sem]), cellA hW (by rw [← hw0]; simp [go_sem]), (by have h0 := hW.size; have h1 := hsz; omega), (by have h0 := hW.size; have h1 := hsz; omega)⟩)
  have Hw := hidA hw0; clear hw0
  go_enter Try.func23, Try.ntmps23
  go_wp2_with fail
  rw [Hw.out]
  clear Hw
  have HS : Hid (Below w0.heap.size w0 w0) := hidA (Below.refl _ _)
  obtain ⟨c0, c1, c2, c3, c4, c5, c6, c7, c8, c9, z0, z1⟩ := PK.out _ HS.out
  go_wp2_with (first | (go_at_call 45; (with_reducible refine (within_any _ WB.out _ _).mono ?_); rintro e w1 ⟨rfl, hb⟩; have hs1 := stepA HS.out hb; clear hb; have HS' := hidA hs1; clear HS hs1; clear c0 c1 c2 c3 c4 c5 c6 c7 c8 c9 z0 z1; have HS := HS'; clear HS'; obtain ⟨c0, c1, c2, c3, c4, c5, c6, c7, c8, c9, z0, z1⟩ := PK.out _ HS.out) | (go_at_call 50; (with_reducible refine (step_any _ _).mono ?_); rintro e w1 ⟨rfl, hb⟩; have hs1 := stepA HS.out hb; clear hb; have HS' := hidA hs1; clear HS hs1; clear c0 c1 c2 c3 c4 c5 c6 c7 c8 c9 z0 z1; have HS := HS'; clear HS'; obtain ⟨c0, c1, c2, c3, c4, c5, c6, c7, c8, c9, z0, z1⟩ := PK.out _ HS.out))
  go_ret
  exact ⟨rfl, (by repeat (first | with_reducible exact Below.refl _ _ | with_reducible exact HS.out | with_reducible exact B0.out | with_reducible refine Below.setCell ?_ (by first | omega | (dsimp only; omega) | (simp; done) | (simp; omega)) _ | with_reducible refine Below.alloc ?_ (by first | omega | (dsimp only; omega) | (simp; done) | (simp; omega)) _ | with_reducible refine Below.drew ?_ | with_reducible refine drewnA ?_ _ | with_reducible refine Below.trans ?_ (HS.out.mono (by first | omega | (dsimp only; omega) | (simp; done) | (simp; omega))) | with_reducible refine Below.trans ?_ (B0.out.mono (by first | omega | (dsimp only; omega) | (simp; done) | (simp; omega)))))⟩
/-- Whether a set is in another one. -/
def leB (a b : Ab) : Bool := withinB b a.lo && (withinB b a.hi && (((stp a == 0) || (stp b == 0) || (a.m % b.m == 0)) && sbB a.k b.k))
theorem leB_iff {a b : Ab} (A : Val a) (B : Val b) : leB a b = true ↔ Le a b := by
  unfold leB Le
  rw [le_iff A B]
  simp only [Bool.and_eq_true, Bool.or_eq_true, beq_iff_eq, within_iff B, sbB_iff]
  have key : Mem b a.lo → Mem b a.hi → (((stp a = 0 ∨ stp b = 0) ∨ a.m % b.m = 0) ↔ stp b ∣ stp a) := by
    intro h1 h2
    have sa := val_stp A
    have sb := val_stp B
    constructor
    · rintro ((h | h) | h)
      · rw [h]; exact Int.dvd_zero _
      · have e1 := mem_single B h h1
        have e2 := mem_single B h h2
        have : stp a = 0 := by unfold stp; rw [if_pos (by omega)]
        rw [this]; exact Int.dvd_zero _
      · by_cases z : stp a = 0
        · rw [z]; exact Int.dvd_zero _
        · by_cases y : stp b = 0
          · have e1 := mem_single B y h1
            have e2 := mem_single B y h2
            have := (sa.2.2.2 z).2.1
            omega
          · rw [(sa.2.2.2 z).1, (sb.2.2.2 y).1]; exact Int.dvd_of_emod_eq_zero h
    · intro h
      by_cases z : stp a = 0
      · exact Or.inl (Or.inl z)
      · by_cases y : stp b = 0
        · exact Or.inl (Or.inr y)
        · rw [(sa.2.2.2 z).1, (sb.2.2.2 y).1] at h
          exact Or.inr (Int.emod_eq_zero_of_dvd h)
  constructor
  · rintro ⟨h1, h2, h3, h4⟩; exact ⟨⟨h1, h2, (key h1 h2).1 h3⟩, h4⟩
  · rintro ⟨⟨h1, h2, h3⟩, h4⟩; exact ⟨h1, h2, (key h1 h2).2 h3, h4⟩
theorem leq_any (a b : Ab) (A : Val a) (B : Val b) (w : World) :
    Calls Try.prog 23 #[.agg #[.int .i64 a.lo, .int .i64 a.hi, .int .i64 a.m, .int .i64 a.r, .int .i64 a.k], .agg #[.int .i64 b.lo, .int .i64 b.hi, .int .i64 b.m, .int .i64 b.r, .int .i64 b.k]] w fun e w' => e = .returned (.bool (leB a b)) ∧ Below w.heap.size w w' := by
  have em := bits_not8 A.k B.k
  unfold leB
  cases p1 : withinB b a.lo
  · exact leq_1 a b A B p1 w
  · cases p2 : withinB b a.hi
    · exact leq_2 a b A B p1 p2 w
    · cases s : (stp a == 0)
      · cases t : (stp b == 0)
        · cases r : (a.m % b.m == 0)
          · exact leq_6 a b A B p1 p2 s t r w
          · exact leq_5 a b A B p1 p2 s t r em w
        · exact leq_4 a b A B p1 p2 s t em w
      · exact leq_3 a b A B p1 p2 s em w
end Go.Proofs.Ytnholabamjodhaa

import Derived.Test.YtdopjadlbhacfaaBi
import Derived.Test.YtdopjadlbhacfaaBj
import Derived.Test.YtdopjadlbhacfaaBk
namespace Go.Proofs.Ytdopjadlbhacfaa
open Go.RowKit Go.Instr Sp
set_option linter.unusedVariables false
set_option linter.unusedSimpArgs false

/-! span's operators: their values. -/
theorem by_with (lo hi m : Int) (k : Nat) : byA lo hi m k = { byA lo hi m 0 with k := k } := by unfold byA; split <;> rfl
theorem like_with (r m lo hi : Int) (k : Nat) : likeA r m lo hi k = { likeA r m lo hi 0 with k := k } := by_with _ _ _ _
theorem bd_with (lo hi m : Int) (k : Nat) : bdA lo hi m k = { bdA lo hi m 0 with k := k } := by
  unfold bdA
  split
  · exact by_with _ _ _ _
  · exact like_with _ _ _ _ _
theorem bd_in {lo hi m : Int} (h1 : -2147483648 ≤ lo) (h2 : lo ≤ hi) (h3 : hi ≤ 2147483647) (k : Nat) : bdA lo hi m k = byA lo hi m k := if_pos ⟨⟨h1, by omega⟩, ⟨by omega, h3⟩⟩
theorem like_one (r lo hi : Int) (k : Nat) : likeA r (pw 1) lo hi k = byA lo hi 1 k := by
  rw [show pw 1 = 1 from rfl]
  unfold likeA
  rw [Int.emod_one]
  simp
theorem dvd_anti {x y : Int} (hx : 0 ≤ x) (hy : 0 ≤ y) (h : x ∣ y) (g : y ∣ x) : x = y := Int.dvd_antisymm hx hy h g
theorem gc_mul {t : Int} (ht : 0 ≤ t) (x s : Int) : t * gc x s = gc (t * x) (t * s) := by
  unfold gc
  rw [Int.gcd_mul_left]
  have : (t.natAbs : Int) = t := by omega
  rw [Int.natCast_mul, this]
theorem stpM_is {a b : Ab} (hb : 0 ≤ stp b) : gc (stp b * gc a.lo (stp a)) (b.lo * stp a) = stpM a b := by
  unfold stpM
  rw [gc_mul hb]
  apply dvd_anti (gc_nn _ _) (gc_nn _ _)
  · refine gc_all (gc_all ?_ (gc_r _ _)) ?_
    · rw [Int.mul_comm a.lo]; exact Int.dvd_trans (gc_l _ _) (gc_l _ _)
    · rw [Int.mul_comm (stp a)]; exact Int.dvd_trans (gc_l _ _) (gc_r _ _)
  · refine gc_all (gc_all ?_ ?_) ?_
    · rw [Int.mul_comm (stp b)]; exact Int.dvd_trans (gc_l _ _) (gc_l _ _)
    · rw [Int.mul_comm (stp b)]; exact gc_r _ _
    · exact Int.dvd_trans (gc_l _ _) (gc_r _ _)
theorem sum_any (a b : Ab) (A : Val a) (B : Val b) (hne : ¬ (stp a = 0 ∧ stp b = 0)) (w : World) :
    Calls Try.prog 79 #[.agg #[.int .i64 a.lo, .int .i64 a.hi, .int .i64 a.m, .int .i64 a.r, .int .i64 a.k, .int .i64 b.lo, .int .i64 b.hi, .int .i64 b.m, .int .i64 b.r, .int .i64 b.k, .int .i64 (stp a), .int .i64 (stp b)]] w fun e w' => e = .returned (.agg #[.int .i64 ((addA a b 0).lo), .int .i64 ((addA a b 0).hi), .int .i64 ((addA a b 0).m), .int .i64 ((addA a b 0).r), .int .i64 0]) ∧ Below w.heap.size w w' := by
  have sa := stp_le A; have sb := stp_le B
  have al := A.l; have ah := A.h; have ao := A.o; have bl := B.l; have bh := B.h; have bo := B.o
  have g1 := gc_nn (stp a) (stp b)
  have g2 := gc_le sa.1 sb.1 sa.2 sb.2
  exact sum_walk a b (addA a b 0) _ _ _ _ _ (IntWalk.i64_in _ (by omega)) (IntWalk.i64_in _ (by omega)) (hidA (sdiv2_any (stp a) (stp b) (small_big (by omega) (by omega)) (small_big (by omega) (by omega)))) (hidA (fun w => swrapped_any _ _ _ (add_ok A B) ⟨by omega, by omega⟩ (by omega) (by omega) (fun h => absurd (gc_zero h) hne) w)) w
theorem diff_any (a b : Ab) (A : Val a) (B : Val b) (hne : ¬ (stp a = 0 ∧ stp b = 0)) (w : World) :
    Calls Try.prog 80 #[.agg #[.int .i64 a.lo, .int .i64 a.hi, .int .i64 a.m, .int .i64 a.r, .int .i64 a.k, .int .i64 b.lo, .int .i64 b.hi, .int .i64 b.m, .int .i64 b.r, .int .i64 b.k, .int .i64 (stp a), .int .i64 (stp b)]] w fun e w' => e = .returned (.agg #[.int .i64 ((subA a b 0).lo), .int .i64 ((subA a b 0).hi), .int .i64 ((subA a b 0).m), .int .i64 ((subA a b 0).r), .int .i64 0]) ∧ Below w.heap.size w w' := by
  have sa := stp_le A; have sb := stp_le B
  have al := A.l; have ah := A.h; have ao := A.o; have bl := B.l; have bh := B.h; have bo := B.o
  have g1 := gc_nn (stp a) (stp b)
  have g2 := gc_le sa.1 sb.1 sa.2 sb.2
  exact diff_walk a b (subA a b 0) _ _ _ _ _ (IntWalk.i64_in _ (by omega)) (IntWalk.i64_in _ (by omega)) (hidA (sdiv2_any (stp a) (stp b) (small_big (by omega) (by omega)) (small_big (by omega) (by omega)))) (hidA (fun w => swrapped_any _ _ _ (sub_ok A B) ⟨by omega, by omega⟩ (by omega) (by omega) (fun h => absurd (gc_zero h) hne) w)) w
theorem least_any (a b : Ab) (A : Val a) (B : Val b) (hne : ¬ (stp a = 0 ∧ stp b = 0)) (w : World) :
    Calls Try.prog 84 #[.agg #[.int .i64 a.lo, .int .i64 a.hi, .int .i64 a.m, .int .i64 a.r, .int .i64 a.k, .int .i64 b.lo, .int .i64 b.hi, .int .i64 b.m, .int .i64 b.r, .int .i64 b.k, .int .i64 (stp a), .int .i64 (stp b)]] w fun e w' => e = .returned (.agg #[.int .i64 ((minA a b 0).lo), .int .i64 ((minA a b 0).hi), .int .i64 ((minA a b 0).m), .int .i64 ((minA a b 0).r), .int .i64 0]) ∧ Below w.heap.size w w' := by
  have sa := stp_le A; have sb := stp_le B
  have al := A.l; have ah := A.h; have ao := A.o; have bl := B.l; have bh := B.h; have bo := B.o
  have g1 := gc_nn (gc (stp a) (stp b)) (a.lo - b.lo)
  have g2 : gc (gc (stp a) (stp b)) (a.lo - b.lo) ≤ 4294967295 := (joinStep_bd A B).2
  have e : minA a b 0 = bdA (min a.lo b.lo) (min a.hi b.hi) (gc (gc (stp a) (stp b)) (a.lo - b.lo)) 0 := (bd_in (by omega) (by omega) (by omega) 0).symm
  rw [e]
  have CB := hidA (fun w => between_walk a b (stp a) (stp b) _ _ (IntWalk.i64_in _ (by omega)) (hidA (sdiv3_any (stp a) (stp b) (a.lo - b.lo) (small_big (by omega) (by omega)) (small_big (by omega) (by omega)) (small_big (by omega) (by omega)))) w)
  exact least_walk a b _ _ _ _ (min a.lo b.lo) (min a.hi b.hi) (by split <;> omega) (by split <;> omega) CB (hidA (fun w => swrapped_any _ _ _ (min_ok A B) ⟨by omega, by omega⟩ (by omega) (by unfold apartS; omega) (fun _ => ⟨⟨by omega, by omega⟩, ⟨by omega, by omega⟩⟩) w)) w
theorem greatest_any (a b : Ab) (A : Val a) (B : Val b) (hne : ¬ (stp a = 0 ∧ stp b = 0)) (w : World) :
    Calls Try.prog 85 #[.agg #[.int .i64 a.lo, .int .i64 a.hi, .int .i64 a.m, .int .i64 a.r, .int .i64 a.k, .int .i64 b.lo, .int .i64 b.hi, .int .i64 b.m, .int .i64 b.r, .int .i64 b.k, .int .i64 (stp a), .int .i64 (stp b)]] w fun e w' => e = .returned (.agg #[.int .i64 ((maxA a b 0).lo), .int .i64 ((maxA a b 0).hi), .int .i64 ((maxA a b 0).m), .int .i64 ((maxA a b 0).r), .int .i64 0]) ∧ Below w.heap.size w w' := by
  have sa := stp_le A; have sb := stp_le B
  have al := A.l; have ah := A.h; have ao := A.o; have bl := B.l; have bh := B.h; have bo := B.o
  have g1 := gc_nn (gc (stp a) (stp b)) (a.lo - b.lo)
  have g2 : gc (gc (stp a) (stp b)) (a.lo - b.lo) ≤ 4294967295 := (joinStep_bd A B).2
  have e : maxA a b 0 = bdA (max a.lo b.lo) (max a.hi b.hi) (gc (gc (stp a) (stp b)) (a.lo - b.lo)) 0 := (bd_in (by omega) (by omega) (by omega) 0).symm
  rw [e]
  have CB := hidA (fun w => between_walk a b (stp a) (stp b) _ _ (IntWalk.i64_in _ (by omega)) (hidA (sdiv3_any (stp a) (stp b) (a.lo - b.lo) (small_big (by omega) (by omega)) (small_big (by omega) (by omega)) (small_big (by omega) (by omega)))) w)
  exact greatest_walk a b _ _ _ _ (max a.lo b.lo) (max a.hi b.hi) (by split <;> omega) (by split <;> omega) CB (hidA (fun w => swrapped_any _ _ _ (max_ok A B) ⟨by omega, by omega⟩ (by omega) (by unfold apartS; omega) (fun _ => ⟨⟨by omega, by omega⟩, ⟨by omega, by omega⟩⟩) w)) w
theorem product_any (a b : Ab) (A : Val a) (B : Val b) (hne : ¬ (stp a = 0 ∧ stp b = 0)) (w : World) :
    Calls Try.prog 81 #[.agg #[.int .i64 a.lo, .int .i64 a.hi, .int .i64 a.m, .int .i64 a.r, .int .i64 a.k, .int .i64 b.lo, .int .i64 b.hi, .int .i64 b.m, .int .i64 b.r, .int .i64 b.k, .int .i64 (stp a), .int .i64 (stp b)]] w fun e w' => e = .returned (.agg #[.int .i64 ((mulA a b 0).lo), .int .i64 ((mulA a b 0).hi), .int .i64 ((mulA a b 0).m), .int .i64 ((mulA a b 0).r), .int .i64 0]) ∧ Below w.heap.size w w' := by
  have sa := stp_le A; have sb := stp_le B
  have al := A.l; have ah := A.h; have ao := A.o; have bl := B.l; have bh := B.h; have bo := B.o
  have P1 := mul_far (x := a.lo) (y := b.lo) (by omega) (by omega) (by omega) (by omega)
  have P2 := mul_far (x := a.lo) (y := b.hi) (by omega) (by omega) (by omega) (by omega)
  have P3 := mul_far (x := a.hi) (y := b.lo) (by omega) (by omega) (by omega) (by omega)
  have P4 := mul_far (x := a.hi) (y := b.hi) (by omega) (by omega) (by omega) (by omega)
  have d0 := gc_nn a.lo (stp a)
  have d1 : gc a.lo (stp a) ≤ 2147483648 := by
    by_cases z : a.lo = 0
    · have e : gc a.lo (stp a) = stp a := by rw [z]; unfold gc; rw [Int.gcd_zero_left]; omega
      have hd := (val_stp A).2.1
      rw [e]
      by_cases y : stp a = 0
      · omega
      · have := Int.le_of_dvd (by have := ((val_stp A).2.2.2 y).2.1; omega) hd
        omega
    · have := Int.le_of_dvd (show 0 < absI a.lo by unfold absI; omega) (show gc a.lo (stp a) ∣ absI a.lo by
        have := gc_l a.lo (stp a)
        unfold absI
        rcases Int.le_total 0 a.lo with g | g
        · rw [show max a.lo (-a.lo) = a.lo by omega]; exact this
        · rw [show max a.lo (-a.lo) = -a.lo by omega]; exact Int.dvd_neg.2 this)
      unfold absI at this
      omega
  have X0 := Int.mul_nonneg sb.1 d0
  have X1 : stp b * gc a.lo (stp a) ≤ 4294967295 * 2147483648 := by
    have u := Int.mul_le_mul_of_nonneg_right sb.2 d0
    have v := Int.mul_le_mul_of_nonneg_left d1 (show (0 : Int) ≤ 4294967295 by omega)
    omega
  have Y1 : -9223372036854775807 ≤ b.lo * stp a ∧ b.lo * stp a ≤ 9223372036854775807 := by
    have u := Int.mul_le_mul_of_nonneg_right (show b.lo ≤ 2147483647 by omega) sa.1
    have v := Int.mul_le_mul_of_nonneg_right (show -2147483648 ≤ b.lo by omega) sa.1
    omega
  have EM := stpM_is (a := a) (b := b) sb.1
  have M0 : 0 ≤ stpM a b := gc_nn _ _
  have M1 : stpM a b ≤ 9223372036854775807 := by
    rw [← EM, ← gc_abs]
    exact gc_le X0 (by unfold absI; omega) (by omega) (by unfold absI; omega)
  have hz : stpM a b = 0 → inV (loM a b) ∧ inV (hiM a b) := by
    intro h
    rw [← EM] at h
    obtain ⟨h1, h2⟩ := gc_zero h
    have z1 : stp b = 0 ∨ a.lo = 0 ∧ stp a = 0 := by
      rcases Int.mul_eq_zero.1 h1 with g | g
      · exact Or.inl g
      · exact Or.inr (gc_zero g)
    have za := (val_stp A).2.2.1
    have zb := (val_stp B).2.2.1
    rcases z1 with g | ⟨g1, g2⟩
    · have hs : stp a ≠ 0 := fun x => hne ⟨x, g⟩
      have b0 : b.lo = 0 := by
        rcases Int.mul_eq_zero.1 h2 with y | y
        · exact y
        · exact absurd y hs
      have b1 := zb g
      unfold loM hiM inV
      rw [← b1, b0]
      simp
    · have a1 := za g2
      unfold loM hiM inV
      rw [← a1, g1]
      simp
  have lo1 : -4611686018427387904 ≤ loM a b ∧ loM a b ≤ 4611686018427387904 := by unfold loM; omega
  have hi1 : hiM a b ≤ 4611686018427387904 := by unfold hiM; omega
  exact product_walk a b (mulA a b 0) (stp a) (stp b) _ _ _ _ (a.lo * b.lo) (a.lo * b.hi) (a.hi * b.lo) (a.hi * b.hi) (loM a b) (hiM a b) (IntWalk.i64_in _ (by omega)) (IntWalk.i64_in _ (by omega)) (IntWalk.i64_in _ (by omega)) (IntWalk.i64_in _ (by omega)) (IntWalk.i64_in _ (by omega)) (IntWalk.i64_in _ (by omega))
    (hidA (fun ts t w => by rw [run_min4]; rfl)) (hidA (fun ts t w => by rw [run_max4]; rfl))
    (hidA (sdiv2_any a.lo (stp a) (small_big (by omega) (by omega)) (small_big (by omega) (by omega)))) (hidA (sdiv2_any (stp b * gc a.lo (stp a)) (b.lo * stp a) ⟨by omega, by omega⟩ ⟨Y1.1, Y1.2⟩))
    (hidA (fun w => by rw [EM]; exact swrapped_any _ _ _ (mul_ok A B) ⟨lo1.1, lo1.2⟩ hi1 M1 hz w)) w
theorem quotient_any (a b : Ab) (A : Val a) (B : Val b) (hne : ¬ (stp a = 0 ∧ stp b = 0)) (w : World) :
    Calls Try.prog 82 #[.agg #[.int .i64 a.lo, .int .i64 a.hi, .int .i64 a.m, .int .i64 a.r, .int .i64 a.k, .int .i64 b.lo, .int .i64 b.hi, .int .i64 b.m, .int .i64 b.r, .int .i64 b.k, .int .i64 (stp a), .int .i64 (stp b)]] w fun e w' => e = .returned (.agg #[.int .i64 ((divA a b 0).lo), .int .i64 ((divA a b 0).hi), .int .i64 ((divA a b 0).m), .int .i64 ((divA a b 0).r), .int .i64 0]) ∧ Below w.heap.size w w' := by
  have sa := stp_le A; have sb := stp_le B
  have al := A.l; have ah := A.h; have ao := A.o; have bl := B.l; have bh := B.h; have bo := B.o
  have z1 := tdiv_size a.lo b.lo
  have z2 := tdiv_size a.hi b.lo
  have u1 : absI a.lo ≤ 2147483648 ∧ 0 ≤ absI a.lo := by unfold absI; omega
  have u2 : absI a.hi ≤ 2147483648 ∧ 0 ≤ absI a.hi := by unfold absI; omega
  have S1 := hidA (fun w => (ssize_any a.lo (small_big (by omega) (by omega)) w).mono (fun _ _ h => And.intro h.1 h.2.symm))
  have S2 := hidA (fun w => (ssize_any a.hi (small_big (by omega) (by omega)) w).mono (fun _ _ h => And.intro h.1 h.2.symm))
  by_cases h : stp b = 0 ∧ b.lo ≠ 0
  · obtain ⟨h1, h2⟩ := h
    have e : divA a b 0 = bdA (min (a.lo.tdiv b.lo) (a.hi.tdiv b.lo)) (max (a.lo.tdiv b.lo) (a.hi.tdiv b.lo)) 1 0 := by
      unfold divA bdA
      rw [if_pos ⟨h1, h2⟩]
      by_cases c : inV (a.lo.tdiv b.lo) ∧ inV (a.hi.tdiv b.lo)
      · rw [if_pos c, if_pos (by obtain ⟨⟨_, _⟩, ⟨_, _⟩⟩ := c; exact ⟨⟨by omega, by omega⟩, ⟨by omega, by omega⟩⟩)]
      · rw [if_neg c, if_neg (fun g => c (by obtain ⟨⟨_, _⟩, ⟨_, _⟩⟩ := g; exact ⟨⟨by omega, by omega⟩, ⟨by omega, by omega⟩⟩)), like_one]
        rfl
    rw [e]
    exact quot_1 a b _ (stp a) (stp b) (a.lo.tdiv b.lo) (a.hi.tdiv b.lo) _ _ (by simpa using h1) (by simpa using h2) (by simpa using h2) h2 (IntWalk.i64_in _ (by omega)) (IntWalk.i64_in _ (by omega)) (by split <;> omega) (by split <;> omega)
      (hidA (fun w => swrapped_any _ _ _ (one_ok (by omega)) ⟨by omega, by omega⟩ (by omega) (by omega) (fun h => by omega) w)) w
  · have key : (stp b == 0) = false ∨ ((stp b == 0) = true ∧ (b.lo == 0) = true ∧ (b.lo != 0) = false) := by
      by_cases g : stp b = 0
      · have : b.lo = 0 := Classical.byContradiction (fun x => h ⟨g, x⟩)
        exact Or.inr ⟨by simpa using g, by simpa using this, by simpa using this⟩
      · exact Or.inl (by simpa using g)
    by_cases c : 0 ≤ a.lo ∧ 0 ≤ b.lo
    · have e : divA a b 0 = bdA 0 a.hi 1 0 := by
        unfold divA
        rw [if_neg h, if_pos c, bd_in (by omega) (by omega) (by omega)]
      rw [e]
      have CW := hidA (fun w => swrapped_any 0 a.hi 1 (one_ok (by omega)) ⟨by omega, by omega⟩ (by omega) (by omega) (fun h => by omega) w)
      rcases key with k | ⟨k1, k2, k3⟩
      · exact quot_2a a b _ (stp a) (stp b) k c.1 c.2 CW w
      · exact quot_2b a b _ (stp a) (stp b) k1 k2 k3 c.1 c.2 CW w
    · have e : divA a b 0 = bdA (-max (absI a.lo) (absI a.hi)) (max (absI a.lo) (absI a.hi)) 1 0 := by
        unfold divA bdA
        rw [if_neg h, if_neg c]
        by_cases d : inV (max (absI a.lo) (absI a.hi))
        · rw [if_pos d, if_pos ⟨⟨by have := d.1; omega, by have := d.2; omega⟩, d⟩]
        · rw [if_neg d, if_neg (fun g => d g.2), like_one]
          rfl
      rw [e]
      have em : (if absI a.lo < absI a.hi then absI a.hi else absI a.lo) = max (absI a.lo) (absI a.hi) := by split <;> omega
      have en : IntKind.i64.wrap (-max (absI a.lo) (absI a.hi)) = -max (absI a.lo) (absI a.hi) := IntWalk.i64_in _ (by omega)
      have CW := hidA (fun w => swrapped_any (-max (absI a.lo) (absI a.hi)) (max (absI a.lo) (absI a.hi)) 1 (one_ok (by omega)) ⟨by omega, by omega⟩ (by omega) (by omega) (fun h => by omega) w)
      by_cases c1 : 0 ≤ a.lo
      · have c2 : ¬ 0 ≤ b.lo := fun x => c ⟨c1, x⟩
        rcases key with k | ⟨k1, k2, k3⟩
        · exact quot_3b a b _ (stp a) (stp b) k c1 c2 _ _ _ S1 S2 em en CW w
        · have : b.lo = 0 := by simpa using k2
          omega
      · rcases key with k | ⟨k1, k2, k3⟩
        · exact quot_3a a b _ (stp a) (stp b) k c1 _ _ _ S1 S2 em en CW w
        · exact quot_3c a b _ (stp a) (stp b) k1 k2 k3 c1 _ _ _ S1 S2 em en CW w
theorem remainder_any (a b : Ab) (A : Val a) (B : Val b) (hne : ¬ (stp a = 0 ∧ stp b = 0)) (k : Nat) : ∃ (J : Ab) (z : Int), remA a b k = { J with k := k } ∧ ∀ w, Calls Try.prog 83 #[.agg #[.int .i64 a.lo, .int .i64 a.hi, .int .i64 a.m, .int .i64 a.r, .int .i64 a.k, .int .i64 b.lo, .int .i64 b.hi, .int .i64 b.m, .int .i64 b.r, .int .i64 b.k, .int .i64 (stp a), .int .i64 (stp b)]] w fun e w' => e = .returned (.agg #[.int .i64 J.lo, .int .i64 J.hi, .int .i64 J.m, .int .i64 J.r, .int .i64 z]) ∧ Below w.heap.size w w' := by
  have sa := stp_le A; have sb := stp_le B
  have al := A.l; have ah := A.h; have ao := A.o; have bl := B.l; have bh := B.h; have bo := B.o
  have n0 : 0 ≤ absI b.lo ∧ absI b.lo ≤ 2147483648 := by unfold absI; omega
  have S1 := hidA (fun w => ssize_any b.lo (small_big (by omega) (by omega)) w)
  unfold remA
  by_cases h : stp b = 0
  · rw [if_neg (fun g => g h)]
    have f1 : (stp b == 0) = true := by simpa using h
    have f2 : (stp b != 0) = false := by simpa using h
    by_cases c : absI b.lo = 0 ∨ (0 ≤ a.lo ∧ a.hi < absI b.lo)
    · rw [if_pos c]
      refine ⟨a, a.k, rfl, fun w => ?_⟩
      by_cases z : absI b.lo = 0
      · exact rem_2 a b a _ _ _ S1 f1 f2 (by simpa using z) w
      · have c2 := c.resolve_left z
        exact rem_3 a b a _ _ _ S1 f1 f2 (by simpa using z) c2.1 c2.2 w
    · rw [if_neg c]
      have z : absI b.lo ≠ 0 := fun x => c (Or.inl x)
      refine ⟨_, 0, like_with _ _ _ _ k, fun w => ?_⟩
      have RI := rem_in A z (mem_lo A)
      have GC := rem_gc A z
      have G2 : gc (stp a) (absI b.lo) ≤ 4294967295 := gc_le sa.1 n0.1 sa.2 (by omega)
      have el : (if (if a.lo < 1 - absI b.lo then 1 - absI b.lo else a.lo) < 0 then (if a.lo < 1 - absI b.lo then 1 - absI b.lo else a.lo) else 0) = (if a.lo < 0 then max a.lo (1 - absI b.lo) else 0) := by (repeat' split) <;> omega
      have e5 : (if 0 < (if a.lo < 1 - absI b.lo then 1 - absI b.lo else a.lo) then 0 else (if a.lo < 1 - absI b.lo then 1 - absI b.lo else a.lo)) = (if a.lo < 0 then max a.lo (1 - absI b.lo) else 0) := by (repeat' split) <;> omega
      have e6 : (if (if absI b.lo - 1 < a.hi then absI b.lo - 1 else a.hi) < 0 then 0 else (if absI b.lo - 1 < a.hi then absI b.lo - 1 else a.hi)) = (if 0 < a.hi then min a.hi (absI b.lo - 1) else 0) := by (repeat' split) <;> omega
      have lo1 : -2147483648 ≤ (if a.lo < 0 then max a.lo (1 - absI b.lo) else 0) ∧ (if a.lo < 0 then max a.lo (1 - absI b.lo) else 0) ≤ 0 := by split <;> omega
      have hi1 : (if 0 < a.hi then min a.hi (absI b.lo - 1) else 0) ≤ 2147483647 ∧ 0 ≤ (if 0 < a.hi then min a.hi (absI b.lo - 1) else 0) := by split <;> omega
      have CI := hidA (fun w => within_some _ (like_val (k := 0) GC RI lo1.1 hi1.1 (by omega)) a.lo (gc (stp a) (absI b.lo)) _ _ ⟨⟨by omega, by omega⟩, by omega, by omega, by omega, by omega, by omega, Or.inl (by omega)⟩ (fun v => like_mem 0 GC RI v) w)
      have CD := hidA (sdiv2_any (stp a) (absI b.lo) (small_big (by omega) (by omega)) (small_big (by omega) (by omega)))
      by_cases c1 : 0 ≤ a.lo
      · have c2 : ¬ a.hi < absI b.lo := fun x => c (Or.inr ⟨c1, x⟩)
        exact rem_5 a b _ (stp a) (stp b) _ S1 f1 f2 (by simpa using z) c1 c2 _ _ _ _ _ _ _ (IntWalk.i64_in _ (by omega)) rfl (IntWalk.i64_in _ (by omega)) rfl e5 e6 CD CI w
      · exact rem_4 a b _ (stp a) (stp b) _ S1 f1 f2 (by simpa using z) c1 _ _ _ _ _ _ _ (IntWalk.i64_in _ (by omega)) rfl (IntWalk.i64_in _ (by omega)) rfl e5 e6 CD CI w
  · rw [if_pos h]
    refine ⟨_, 0, by_with _ _ _ k, fun w => ?_⟩
    have e : byA (min a.lo 0) (max a.hi 0) 1 0 = bdA (min a.lo 0) (max a.hi 0) 1 0 := (bd_in (by omega) (by omega) (by omega) 0).symm
    rw [e]
    exact rem_1 a b _ (stp a) (stp b) _ S1 _ _ (by simpa using h) (by simpa using h) (by split <;> omega) (by split <;> omega) (hidA (fun w => swrapped_any _ _ _ (one_ok (by omega)) ⟨by omega, by omega⟩ (by omega) (by omega) (fun h => by omega) w)) w
end Go.Proofs.Ytdopjadlbhacfaa

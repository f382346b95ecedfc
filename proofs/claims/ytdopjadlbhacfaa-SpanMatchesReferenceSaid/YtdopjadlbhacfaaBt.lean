import Derived.Test.YtdopjadlbhacfaaBf
import Derived.Deep.Cut
import Derived.Deep.DeepCutAuto
namespace Go.Proofs.Ytdopjadlbhacfaa
open Go.RowKit Go.Instr Sp
set_option linter.unusedVariables false
set_option linter.unusedSimpArgs false

/-! span's inverse, and products that may be great. -/
set_option maxHeartbeats 1000000 in
theorem far_any (n m : Int) (hn : 0 ≤ n) (hn2 : n ≤ 4294967295) (hm : 0 ≤ m) (hm2 : m ≤ 4294967295) (w : World) :
    Calls Try.prog 94 #[.int .i64 n, .int .i64 m] w fun e w' => e = .returned (.int .i64 (min (n * m) 4294967296)) ∧ Below w.heap.size w w' := by
  have p0 := Int.mul_nonneg hn hm
  have p1 : n * m ≤ 4294967295 * 4294967295 := by
    have u := Int.mul_le_mul_of_nonneg_right hn2 hm
    have v := Int.mul_le_mul_of_nonneg_left hm2 (show (0 : Int) ≤ 4294967295 by omega)
    omega
  have e1 : IntKind.u64.wrap n = n := by rw [IntKind.wrap_u64]; omega
  have e2 : IntKind.u64.wrap m = m := by rw [IntKind.wrap_u64]; omega
  have e3 : IntKind.u64.wrap (n * m) = n * m := by rw [IntKind.wrap_u64]; omega
  obtain ⟨p, hp⟩ : ∃ p, n * m = p := ⟨_, rfl⟩
  rw [hp] at e3 p0 p1 ⊢
  have e4 : IntKind.u64.wrap (n * m) = p := by rw [hp]; exact e3
  have e5 : (if 4294967296 < p then 4294967296 else p) = min p 4294967296 := by split <;> omega
  have e6 : IntKind.i64.wrap (min p 4294967296) = min p 4294967296 := IntWalk.i64_in _ (by omega)
  obtain ⟨z, hz⟩ : ∃ z, min p 4294967296 = z := ⟨_, rfl⟩
  rw [hz] at e5 e6 ⊢
  go_enter Try.func94, Try.ntmps94
  go_wp2
  go_ret
  exact ⟨rfl, (by repeat (first | with_reducible exact Below.refl _ _ | with_reducible refine Below.setCell ?_ (by first | omega | simp <;> omega) _ | with_reducible refine Below.alloc ?_ (by first | omega | simp <;> omega) _ | with_reducible refine Below.drew ?_ | with_reducible refine drewnA ?_ _))⟩
/-- The inverse that span's steps find. -/
def inv2 (a m : Int) : Int := invF m (m.toNat + 1) 1 0 a m
theorem eu_start {a m : Int} (ha : 0 ≤ a) (hm : 1 ≤ m) : EuI a m 1 0 a m := by
  refine ⟨ha, by omega, ?_, ?_, rfl, Or.inr ⟨by omega, Int.le_refl _, by omega⟩⟩
  · rw [Int.one_mul, Int.sub_self]; exact Int.dvd_zero _
  · rw [Int.zero_mul, Int.zero_sub]; exact Int.dvd_neg.2 (Int.dvd_refl _)
theorem inv2_ok {a m : Int} (ha : 0 ≤ a) (hm : 1 ≤ m) (hg : gc a m = 1) : m ∣ a * inv2 a m - 1 := invF_ok hm hg _ _ _ _ _ (eu_start ha hm) (by omega)
theorem invF_range {m : Int} (hm : 1 ≤ m) : ∀ (n : Nat) (x y u v : Int), 0 ≤ invF m n x y u v ∧ invF m n x y u v < m := by
  intro n
  induction n with
  | zero => intro x y u v; exact ⟨Int.emod_nonneg _ (by omega), Int.emod_lt_of_pos _ (by omega)⟩
  | succ n ih =>
    intro x y u v
    unfold invF
    split
    · exact ⟨Int.emod_nonneg _ (by omega), Int.emod_lt_of_pos _ (by omega)⟩
    · exact ih _ _ _ _
theorem inv2_range {a m : Int} (hm : 1 ≤ m) : 0 ≤ inv2 a m ∧ inv2 a m < m := invF_range hm _ _ _ _ _
set_option maxHeartbeats 1000000 in
theorem sinverse_any (a m : Int) (ha : 0 ≤ a) (ha2 : a ≤ 4294967296) (hm : 1 ≤ m) (hm2 : m ≤ 4294967296) (w : World) :
    Calls Try.prog 93 #[.int .i64 a, .int .i64 m] w fun e w' => e = .returned (.int .i64 (inv2 a m)) ∧ w = w' := by
  have E0 := hidA (eu_start ha hm)
  have EI : Hid (inv2 a m = invF m (m.toNat + 1) 1 0 a m) := hidA rfl
  have hn : m.toNat < m.toNat + 1 := Nat.lt_succ_self _
  go_enter Try.func93, Try.ntmps93
  go_wp2
  go_loop [0, 5, 6, 7] (fun s t p q => ∃ (n : Nat) (x y u v : Int), Hid (EuI a m x y u v) ∧ v.toNat < n ∧ 0 ≤ u ∧ 0 ≤ v ∧ u ≤ 4294967296 ∧ v ≤ 4294967296 ∧ Hid (invF m n x y u v = inv2 a m) ∧ s = .int .i64 u ∧ t = .int .i64 x ∧ p = .int .i64 y ∧ q = .int .i64 v ∧ -m ≤ x ∧ x ≤ m ∧ -m ≤ y ∧ y ≤ m) (fun _ _ _ q => (intOf q).toNat)
  case atStart => exact ⟨m.toNat + 1, 1, 0, a, m, E0, by omega, ha, by omega, by omega, by omega, hidA EI.out.symm, rfl, rfl, rfl, rfl, by omega, by omega, by omega, by omega⟩
  case round =>
    obtain ⟨n, x, y, u, v, EU, hv, u0, v0, u1, v1, IF, rfl, rfl, rfl, rfl, x1, x2, y1, y2⟩ := hrel
    cases n with
    | zero => omega
    | succ n =>
      by_cases hy : v = 0
      · subst hy
        have e : inv2 a m = x % m := by rw [← IF.out]; unfold invF; rw [if_pos rfl]
        have E := hidA e
        clear e
        go_wp2_with (go_at_call 76; refine (smod_any _ _ ⟨by omega, by omega⟩ (by omega) (by omega) _).mono ?_; rintro e w1 ⟨rfl, rfl⟩)
        go_ret
        exact ⟨retA E.out.symm, rfl⟩
      · have hz0 : (v == 0) = false := by simpa using hy
        have hz1 : (v != 0) = true := by simpa using hy
        have N := hidA (eu_next EU.out hy)
        have IF2 : Hid (invF m n y (x - u / v * y) v (u - u / v * v) = inv2 a m) := hidA (by rw [← IF.out]; conv => rhs; unfold invF; rw [if_neg hy])
        have q0 : 0 ≤ u / v := Int.ediv_nonneg u0 v0
        have q1 : u / v ≤ u := Int.ediv_le_self _ u0
        have ed := Int.mul_ediv_add_emod u v
        rw [Int.mul_comm] at ed
        have r0 := Int.emod_nonneg u hy
        have r1 := Int.emod_lt_of_pos u (show 0 < v by omega)
        have eb : Hid (-m ≤ x - u / v * y ∧ x - u / v * y ≤ m) := hidA (by
          have hN := N.out
          have s := hN.s
          have yb : v * (x - u / v * y) - (u - u / v * v) * y = v * x - u * y := by
            rw [Int.mul_sub, Int.sub_mul, ← Int.mul_assoc, Int.mul_comm v (u / v)]; omega
          rcases s with ⟨s1, s2, s3⟩ | ⟨s1, s2, s3⟩
          · have p := Int.mul_nonneg (show 0 ≤ u - u / v * v by omega) (show 0 ≤ -y by omega)
            have q := Int.mul_le_mul_of_nonneg_right (show 1 ≤ v by omega) s2
            have p2 := Int.mul_neg (u - u / v * v) y
            omega
          · have p := Int.mul_nonneg (show 0 ≤ u - u / v * v by omega) s1
            have q := Int.mul_le_mul_of_nonneg_right (show 1 ≤ v by omega) (show 0 ≤ -(x - u / v * y) by omega)
            have q2 := Int.mul_neg v (x - u / v * y)
            omega)
        have hd : u.tdiv v = u / v := Int.tdiv_eq_ediv_of_nonneg u0
        obtain ⟨Q, hQ⟩ : ∃ Q, u / v = Q := ⟨_, rfl⟩
        rw [hQ] at q0 q1 ed hd N IF2 eb
        obtain ⟨A1, hA1⟩ : ∃ A1, Q * v = A1 := ⟨_, rfl⟩
        obtain ⟨A2, hA2⟩ : ∃ A2, Q * y = A2 := ⟨_, rfl⟩
        rw [hA1] at ed N IF2
        rw [hA2] at N IF2 eb
        have b1 := eb.out.1
        have b2 := eb.out.2
        clear IF EU hy eb
        go_wp2
        go_round
        case rel => exact ⟨n, y, x - A2, v, u - A1, N, by omega, by omega, by omega, by omega, by omega, IF2, by first | rfl | go_num, by first | rfl | go_num, by first | rfl | go_num, by first | rfl | go_num, y1, y2, b1, b2⟩
        case measure => simp [intOf]; omega
end Go.Proofs.Ytdopjadlbhacfaa

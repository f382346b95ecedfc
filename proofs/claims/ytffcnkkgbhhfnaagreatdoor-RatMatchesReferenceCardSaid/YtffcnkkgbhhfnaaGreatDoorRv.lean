
import Derived.Test.YtffcnkkgbhhfnaaGreatDoorRm
import Derived.Test.YtffcnkkgbhhfnaaGreatDoorRows
import Derived.WalkKit
import Derived.WalkSpells
import Derived.WalkLawsBesides
import Derived.RegionTactic
import Derived.Outline
import Derived.Below
import Derived.Deep.Draws
import Derived.Laws.Bits64b
import Derived.Deep.CutBlock
import Derived.Deep.CutRange
import Derived.Deep.LoopGhost
namespace Go.Proofs.YtffcnkkgbhhfnaaGreatDoor
open Go.RowKit Go.Instr
set_option linter.unusedVariables false

/-! 'math/bits.Div64', by two digits of 32 bits, and 'math/bits.Rem64'. -/
theorem hid {p : Prop} (h : p) : Hid p := h

theorem wrapU (a : Nat) : IntKind.u64.wrap (a : Int) = ((a % 18446744073709551616 : Nat) : Int) := by rw [IntKind.wrap_u64]; omega
theorem wrapUi (a : Int) : IntKind.u64.wrap a = a % 18446744073709551616 := by rw [IntKind.wrap_u64]
theorem wrapU_lt (a : Nat) (h : a < 18446744073709551616) : IntKind.u64.wrap (a : Int) = (a : Int) := by rw [IntKind.wrap_u64]; omega
theorem andM (a : Nat) (ha : a < 18446744073709551616) : bits .and .u64 (a : Int) 4294967295 = ((a % 4294967296 : Nat) : Int) := by
  have h := bits_and_u64_nat a 4294967295 ha (by omega)
  have e : a &&& 4294967295 = a % 4294967296 := Nat.and_two_pow_sub_one_eq_mod a 32
  rw [e] at h
  exact h
theorem powI (s : Nat) : (2 : Int) ^ s = ((2 ^ s : Nat) : Int) := by rw [Int.natCast_pow]; rfl

/-- What the shift by s leaves. -/
structure Shifted (hi lo y s D un32 un10 : Nat) : Prop where
  hD : D = y * 2 ^ s
  d0 : 9223372036854775808 ≤ D
  d1 : D < 18446744073709551616
  eN : (hi * 18446744073709551616 + lo) * 2 ^ s = un32 * 18446744073709551616 + un10
  l10 : un10 < 18446744073709551616
  l32 : un32 < D
  wD : IntKind.u64.wrap ((y : Int) * 2 ^ s) = (D : Int)
  w32 : bits .or .u64 (IntKind.u64.wrap ((hi : Int) * 2 ^ s)) ((lo : Int) / 2 ^ (64 - s)) = (un32 : Int)
  w10 : IntKind.u64.wrap ((lo : Int) * 2 ^ s) = (un10 : Int)

theorem shifted (hi lo y : Nat) (hy : hi < y) (hy2 : y < 18446744073709551616) (hlo : lo < 18446744073709551616) :
    ∃ s D un32 un10 : Nat, (64 - (Lib.bitLen (y : Int).toNat : Int)) = (s : Int) ∧ s < 64 ∧ Shifted hi lo y s D un32 un10 := by
  obtain ⟨b1, b2, b3⟩ := Lib.bitLenAux_bounds 64 y (by omega) (by omega)
  have ble : Lib.bitLen y ≤ 64 := Lib.bitLen_le y 64 (by omega) (by omega)
  have bl : Lib.bitLen y = Lib.bitLenAux 64 y := rfl
  rw [← bl] at b1 b2 b3
  obtain ⟨s, hs⟩ : ∃ s, Lib.bitLen y + s = 64 := ⟨64 - Lib.bitLen y, by omega⟩
  have p1 : 2 ^ (Lib.bitLen y - 1) * 2 ^ s = 9223372036854775808 := by rw [← Nat.pow_add, show Lib.bitLen y - 1 + s = 63 by omega]
  have p2 : 2 ^ Lib.bitLen y * 2 ^ s = 18446744073709551616 := by rw [← Nat.pow_add, hs]
  have p3 : 2 ^ s * 2 ^ (64 - s) = 18446744073709551616 := by rw [← Nat.pow_add, show s + (64 - s) = 64 by omega]
  have hp : 0 < 2 ^ s := Nat.pow_pos (by omega)
  have hp2 : 0 < 2 ^ (64 - s) := Nat.pow_pos (by omega)
  have d0 : 9223372036854775808 ≤ y * 2 ^ s := by rw [← p1]; exact Nat.mul_le_mul_right _ b2
  have d1 : y * 2 ^ s < 18446744073709551616 := by rw [← p2]; exact Nat.mul_lt_mul_of_pos_right b3 hp
  have h1 : hi * 2 ^ s + 2 ^ s ≤ y * 2 ^ s := by rw [← Nat.succ_mul]; exact Nat.mul_le_mul_right _ hy
  have h2 : lo / 2 ^ (64 - s) < 2 ^ s := by rw [Nat.div_lt_iff_lt_mul hp2, p3]; exact hlo
  have h3 : lo * 2 ^ s / 18446744073709551616 = lo / 2 ^ (64 - s) := by rw [← p3, Nat.mul_comm (2 ^ s)]; exact Nat.mul_div_mul_right _ _ hp
  have h4 := Nat.div_add_mod (lo * 2 ^ s) 18446744073709551616
  refine ⟨s, y * 2 ^ s, hi * 2 ^ s + lo / 2 ^ (64 - s), lo * 2 ^ s % 18446744073709551616, ?_, by omega, rfl, d0, d1, ?_, Nat.mod_lt _ (by omega), by omega, ?_, ?_, ?_⟩
  · show (64 - (Lib.bitLen y : Int)) = _
    omega
  · rw [Nat.add_mul, Nat.mul_right_comm]
    rw [h3] at h4
    generalize hi * 2 ^ s = p at *
    omega
  · rw [powI, ← Int.natCast_mul]; exact wrapU_lt _ d1
  · rw [powI, powI, ← Int.natCast_mul, wrapU_lt _ (by omega), ← Int.natCast_ediv, bits_or_u64_nat _ _ (by omega) (by omega), Nat.mul_comm hi, ← Nat.two_pow_add_eq_or_of_lt h2]
  · rw [powI, ← Int.natCast_mul]; exact wrapU _

set_option maxHeartbeats 2000000 in
theorem div64_zero (lo y : Nat) (hy : 0 < y) (hy2 : y < 18446744073709551616) (hlo : lo < 18446744073709551616) (w : World) :
    Calls Tryz.prog 66 #[.int .u64 ((0 : Nat) : Int), .int .u64 (lo : Int), .int .u64 (y : Int)] w fun e w' =>
      e = .returned (.tuple #[.int .u64 ((lo / y : Nat) : Int), .int .u64 ((lo % y : Nat) : Int)]) ∧ ∃ k, w' = w.drewN k := by
  have h1 : ((y : Int) == 0) = false := by simp; omega
  have h2 : decide ((y : Int) ≤ 0) = false := by simp; omega
  have k1 : IntKind.u64.wrap ((lo : Int) / (y : Int)) = ((lo / y : Nat) : Int) := by
    rw [← Int.natCast_ediv]; exact wrapU_lt _ (Nat.lt_of_le_of_lt (Nat.div_le_self _ _) hlo)
  have k2 : (lo : Int) % (y : Int) = ((lo % y : Nat) : Int) := by rw [Int.natCast_emod]
  go_enter Tryz.func66, Tryz.ntmps66
  go_wp2
  go_region
  all_goals
    go_wp2
    go_ret2
    exact ⟨rfl, by first | exact ⟨0, rfl⟩ | exact ⟨1, rfl⟩⟩

set_option maxRecDepth 100000 in
set_option maxHeartbeats 8000000 in
theorem div64_big (hi lo y : Nat) (h0 : 0 < hi) (hy : hi < y) (hy2 : y < 18446744073709551616) (hlo : lo < 18446744073709551616) (w : World)
    (c : ∀ (x : Int) (w : World), 0 ≤ x → x ≤ 18446744073709551615 → Calls Tryz.prog 76 #[.int .u64 x] w fun e w' => e = .returned (.int .i64 (64 - (Lib.bitLen x.toNat : Int))) ∧ w' = w) :
    Calls Tryz.prog 66 #[.int .u64 ((hi : Nat) : Int), .int .u64 (lo : Int), .int .u64 (y : Int)] w fun e w' =>
      e = .returned (.tuple #[.int .u64 (((hi * 18446744073709551616 + lo) / y : Nat) : Int), .int .u64 (((hi * 18446744073709551616 + lo) % y : Nat) : Int)]) ∧ ∃ k, w' = w.drewN k := by
  obtain ⟨s, D, un32, un10, hs, hs2, S⟩ := shifted hi lo y hy hy2 hlo
  obtain ⟨hD, d0, d1, eN, l10, l32, wD, w32, w10⟩ := S
  obtain ⟨yn1, e1⟩ : ∃ n, D / 4294967296 = n := ⟨_, rfl⟩
  obtain ⟨yn0, e0⟩ : ∃ n, D % 4294967296 = n := ⟨_, rfl⟩
  obtain ⟨un1, f1⟩ : ∃ n, un10 / 4294967296 = n := ⟨_, rfl⟩
  obtain ⟨un0, f0⟩ : ∃ n, un10 % 4294967296 = n := ⟨_, rfl⟩
  have eD : yn1 * 4294967296 + yn0 = D := by omega
  have D1 := hid (show DigitAt un32 un1 yn1 yn0 from ⟨by omega, by omega, by omega, by omega, by omega⟩)
  have hN2 : (hi * 18446744073709551616 + lo) * 2 ^ s = (un32 * 4294967296 + un1) * 4294967296 + un0 := by
    rw [eN]
    have : un10 = un1 * 4294967296 + un0 := by omega
    rw [this, Nat.add_mul, Nat.mul_assoc, Nat.add_assoc]
  have tw := two_digits (N := hi * 18446744073709551616 + lo) (un32 := un32) (un1 := un1) (un0 := un0) hD (by omega) hN2
  obtain ⟨q1, hq1⟩ : ∃ q, q = (un32 * 4294967296 + un1) / (yn1 * 4294967296 + yn0) := ⟨_, rfl⟩
  obtain ⟨un21, hu21⟩ : ∃ u, u = (un32 * 4294967296 + un1) % (yn1 * 4294967296 + yn0) := ⟨_, rfl⟩
  have hu21lt : un21 < yn1 * 4294967296 + yn0 := by rw [hu21]; exact Nat.mod_lt _ (by omega)
  have D2 := hid (show DigitAt un21 un0 yn1 yn0 from ⟨by omega, by omega, by omega, by omega, by omega⟩)
  obtain ⟨q2, hq2⟩ : ∃ q, q = (un21 * 4294967296 + un0) / (yn1 * 4294967296 + yn0) := ⟨_, rfl⟩
  have q1lt : q1 < 4294967296 := by rw [hq1]; exact digit_lt D1.out
  have q2lt : q2 < 4294967296 := by rw [hq2]; exact digit_lt D2.out
  rw [← eD, ← hq1, ← hu21, ← hq2] at tw
  obtain ⟨tw1, tw2⟩ := tw
  have m1 := Nat.div_add_mod (un32 * 4294967296 + un1) (yn1 * 4294967296 + yn0)
  rw [← hq1, ← hu21, Nat.mul_comm] at m1
  have m2 := Nat.div_add_mod (un21 * 4294967296 + un0) (yn1 * 4294967296 + yn0)
  rw [← hq2, Nat.mul_comm] at m2
  obtain ⟨rr, hrr⟩ : ∃ u, u = (un21 * 4294967296 + un0) % (yn1 * 4294967296 + yn0) := ⟨_, rfl⟩
  rw [← hrr] at m2 tw2
  have hrrlt : rr < yn1 * 4294967296 + yn0 := by rw [hrr]; exact Nat.mod_lt _ (by omega)
  have k1 : IntKind.u64.wrap (IntKind.u64.wrap (IntKind.u64.wrap ((un32 : Int) * 4294967296) + un1) - IntKind.u64.wrap ((q1 : Int) * D)) = (un21 : Int) := by
    rw [eD] at m1
    rw [← Int.natCast_mul, wrapUi, wrapUi, wrapUi, wrapUi]
    generalize q1 * D = p at *
    omega
  have k2 : IntKind.u64.wrap (IntKind.u64.wrap (IntKind.u64.wrap ((un21 : Int) * 4294967296) + un0) - IntKind.u64.wrap ((q2 : Int) * D)) = (rr : Int) := by
    rw [eD] at m2
    rw [← Int.natCast_mul, wrapUi, wrapUi, wrapUi, wrapUi]
    generalize q2 * D = p at *
    omega
  obtain ⟨Q, hQ⟩ : ∃ Q, (hi * 18446744073709551616 + lo) / y = Q := ⟨_, rfl⟩
  obtain ⟨R, hR⟩ : ∃ R, (hi * 18446744073709551616 + lo) % y = R := ⟨_, rfl⟩
  rw [hQ] at tw1 ⊢
  rw [hR] at tw2 ⊢
  have k3 : (rr : Int) / 2 ^ s = (R : Int) := by rw [← tw2, powI, Int.natCast_ediv]
  have k4 : ((q1 : Int) * 4294967296 + q2) = (Q : Int) := by rw [← tw1]; omega
  have x1 : (D : Int) / 4294967296 = (yn1 : Int) := by omega
  have x2 : bits .and .u64 (D : Int) 4294967295 = (yn0 : Int) := by rw [andM D d1, e0]
  have x3 : (un10 : Int) / 4294967296 = (un1 : Int) := by omega
  have x4 : bits .and .u64 (un10 : Int) 4294967295 = (un0 : Int) := by rw [andM un10 l10, f0]
  have ylo : 1 ≤ yn1 := by omega
  have l32' : un32 < 18446744073709551616 := by omega
  have u21lt : un21 < 18446744073709551616 := by omega
  have Q1 := hid hq1
  have Q2 := hid hq2
  have K1 := hid k1
  have K2 := hid k2
  have K3 := hid k3
  have K4 := hid k4
  clear hN2 hQ hR hD d0 d1 eN l10 l32 e1 e0 f1 f0 eD hq1 hu21 hu21lt hq2 tw1 tw2 m1 m2 hrr hrrlt k1 k2 k3 k4
  have h1 : ((y : Int) == 0) = false := by simp; omega
  have h2 : decide ((y : Int) ≤ hi) = false := by simp; omega
  have h3 : ((hi : Int) == 0) = false := by simp; omega
  go_enter Tryz.func66, Tryz.ntmps66
  go_wp2_with fail
  refine (c _ _ (by omega) (by omega)).mono ?_
  rintro e w' ⟨rfl, hw⟩
  rw [hw, hs]
  clear hw
  obtain ⟨g0, g1⟩ := guess_first D1.out
  obtain ⟨qa, hqa⟩ : ∃ q, un32 / yn1 = q := ⟨_, rfl⟩
  rw [hqa] at g0 g1
  obtain ⟨pa, hpa⟩ : ∃ p, qa * yn1 = p := ⟨_, rfl⟩
  have hple : pa ≤ un32 := by rw [← hpa, ← hqa]; exact Nat.div_mul_le_self un32 yn1
  rw [hpa] at g0 g1
  obtain ⟨ra, hra⟩ : ∃ p, un32 - pa = p := ⟨_, rfl⟩
  rw [hra] at g0 g1
  have b0 : qa < 18446744073709551616 := by have := g0.le; omega
  have b1 : ((un32 : Int) / yn1) = (qa : Int) := by rw [← hqa, Int.natCast_ediv]
  have b2 : IntKind.u64.wrap ((qa : Int) * yn1) = (pa : Int) := by rw [← Int.natCast_mul, hpa]; exact wrapU_lt _ (by omega)
  have b3 : IntKind.u64.wrap ((un32 : Int) - pa) = (ra : Int) := by rw [show ((un32 : Int) - pa) = (ra : Int) by omega]; exact wrapU_lt _ (by omega)
  have G0 := hid g0
  have G1 := hid g1
  clear g0 g1 hqa hpa hple hra
  go_upto_block 0 with fail
  go_cut [15, 16] from 67 to 85 (fun sq sr wx => w = wx ∧ sq = .int .u64 (q1 : Int) ∧ ∃ r : Nat, sr = .int .u64 (r : Int))
  case first =>
    clear b0 b1 b2 b3
    go_wp2_with fail
    go_loop [15, 16] (fun sq sr => ∃ q r : Nat, Guess un32 un1 yn1 yn0 q r ∧ r < 4294967296 ∧ sq = .int .u64 (q : Int) ∧ sr = .int .u64 (r : Int)) (fun sq _ => (intOf sq).toNat)
    case atStart => exact ⟨_, _, G0.out, G1.out, rfl, rfl⟩
    case round =>
      obtain ⟨q, r, g, hr, rfl, rfl⟩ := hrel
      have gt := guess_test D1.out g
      have gle := g.le
      have lo0 := D1.out.lo
      have hun1 := D1.out.u1
      have hyn := D1.out.hi2
      obtain ⟨m, hm⟩ : ∃ m, m = 4294967296 * r := ⟨_, rfl⟩
      obtain ⟨v, hv⟩ : ∃ v, v = m + un1 := ⟨_, rfl⟩
      by_cases ht : q * (yn1 * 4294967296 + yn0) ≤ un32 * 4294967296 + un1
      · have hq : q < 4294967296 := by
          rcases Nat.lt_or_ge q 4294967296 with h | h
          · exact h
          · have := gt.2 h; omega
        have e := guess_digit g ht
        have t1 := gt.1.1 ht
        have c1 : decide ((4294967296 : Int) ≤ (q : Int)) = false := by simp; omega
        have c1n : decide (4294967296 ≤ q) = false := by simp; omega
        obtain ⟨t, et⟩ : ∃ t, q * yn0 = t := ⟨_, rfl⟩
        have tw : IntKind.u64.wrap ((q : Int) * yn0) = (t : Int) := by
          rw [← Int.natCast_mul, et]
          refine wrapU_lt _ ?_
          have := Nat.mul_le_mul (show q ≤ 4294967295 by omega) (show yn0 ≤ 4294967295 by omega)
          omega
        have mw : IntKind.u64.wrap (4294967296 * (r : Int)) = (m : Int) := by rw [show 4294967296 * (r : Int) = (m : Int) by omega]; exact wrapU_lt _ (by omega)
        have vw : IntKind.u64.wrap ((m : Int) + un1) = (v : Int) := by rw [show (m : Int) + un1 = (v : Int) by omega]; exact wrapU_lt _ (by omega)
        have c2 : decide (v < t) = false := by simp; omega
        have E := hid (e.trans Q1.out.symm)
        clear gt ht e et gle lo0 hun1 hyn hm hv t1 hq hr g
        go_wp2_with fail
        go_meet
        exact ⟨rfl, by rw [E.out], r, rfl⟩
      · obtain ⟨hq1, gn⟩ := guess_next g (by omega)
        have t2 : 4294967296 * r + un1 < q * yn0 := by
          rcases Nat.lt_or_ge (4294967296 * r + un1) (q * yn0) with h | h
          · exact h
          · exact absurd (gt.1.2 h) ht
        obtain ⟨qn, hqn⟩ : ∃ n, q - 1 = n := ⟨_, rfl⟩
        obtain ⟨rn, hrn⟩ : ∃ n, r + yn1 = n := ⟨_, rfl⟩
        rw [hqn, hrn] at gn
        have qw : IntKind.u64.wrap ((q : Int) - 1) = (qn : Int) := by rw [show (q : Int) - 1 = (qn : Int) by omega]; exact wrapU_lt _ (by omega)
        have rw' : IntKind.u64.wrap ((r : Int) + yn1) = (rn : Int) := by rw [show (r : Int) + yn1 = (rn : Int) by omega]; exact wrapU_lt _ (by omega)
        have GN := hid gn
        have MS := hid (show qn < q by omega)
        clear gt ht gn g
        by_cases hb : 4294967296 ≤ rn
        · have hd : qn * (yn1 * 4294967296 + yn0) ≤ un32 * 4294967296 + un1 := guess_break D1.out GN.out (by omega) hb
          have E := hid ((guess_digit GN.out hd).trans Q1.out.symm)
          clear hd
          have c3 : decide ((4294967296 : Int) ≤ (rn : Int)) = true := by simp; omega
          have c3n : decide (4294967296 ≤ rn) = true := by simp; omega
          by_cases hB : 4294967296 ≤ q
          · have c1 : decide ((4294967296 : Int) ≤ (q : Int)) = true := by simp; omega
            have c1n : decide (4294967296 ≤ q) = true := by simp; omega
            clear t2 gle lo0 hun1 hyn hm hv hr hB hb hqn hrn hq1
            go_wp2_with fail
            go_meet
            exact ⟨rfl, by rw [E.out], _, rfl⟩
          · have c1 : decide ((4294967296 : Int) ≤ (q : Int)) = false := by simp; omega
            have c1n : decide (4294967296 ≤ q) = false := by simp; omega
            obtain ⟨t, et⟩ : ∃ t, q * yn0 = t := ⟨_, rfl⟩
            have tw : IntKind.u64.wrap ((q : Int) * yn0) = (t : Int) := by
              rw [← Int.natCast_mul, et]
              refine wrapU_lt _ ?_
              have := Nat.mul_le_mul (show q ≤ 4294967295 by omega) (show yn0 ≤ 4294967295 by omega)
              omega
            have mw : IntKind.u64.wrap (4294967296 * (r : Int)) = (m : Int) := by rw [show 4294967296 * (r : Int) = (m : Int) by omega]; exact wrapU_lt _ (by omega)
            have vw : IntKind.u64.wrap ((m : Int) + un1) = (v : Int) := by rw [show (m : Int) + un1 = (v : Int) by omega]; exact wrapU_lt _ (by omega)
            have c2 : decide (v < t) = true := by simp; omega
            clear t2 gle lo0 hun1 hyn hm hv hr hB hb hqn hrn hq1 et
            go_wp2_with fail
            go_meet
            exact ⟨rfl, by rw [E.out], _, rfl⟩
        · have c3 : decide ((4294967296 : Int) ≤ (rn : Int)) = false := by simp; omega
          have c3n : decide (4294967296 ≤ rn) = false := by simp; omega
          have RB := hid (show rn < 4294967296 by omega)
          by_cases hB : 4294967296 ≤ q
          · have c1 : decide ((4294967296 : Int) ≤ (q : Int)) = true := by simp; omega
            have c1n : decide (4294967296 ≤ q) = true := by simp; omega
            clear t2 gle lo0 hun1 hyn hm hv hr hB hb hqn hrn hq1
            go_wp2_with fail
            go_round
            case rel => exact ⟨qn, rn, GN.out, RB.out, rfl, rfl⟩
            case measure => have := MS.out; simp [intOf]; omega
          · have c1 : decide ((4294967296 : Int) ≤ (q : Int)) = false := by simp; omega
            have c1n : decide (4294967296 ≤ q) = false := by simp; omega
            obtain ⟨t, et⟩ : ∃ t, q * yn0 = t := ⟨_, rfl⟩
            have tw : IntKind.u64.wrap ((q : Int) * yn0) = (t : Int) := by
              rw [← Int.natCast_mul, et]
              refine wrapU_lt _ ?_
              have := Nat.mul_le_mul (show q ≤ 4294967295 by omega) (show yn0 ≤ 4294967295 by omega)
              omega
            have mw : IntKind.u64.wrap (4294967296 * (r : Int)) = (m : Int) := by rw [show 4294967296 * (r : Int) = (m : Int) by omega]; exact wrapU_lt _ (by omega)
            have vw : IntKind.u64.wrap ((m : Int) + un1) = (v : Int) := by rw [show (m : Int) + un1 = (v : Int) by omega]; exact wrapU_lt _ (by omega)
            have c2 : decide (v < t) = true := by simp; omega
            clear t2 gle lo0 hun1 hyn hm hv hr hB hb hqn hrn hq1 et
            go_wp2_with fail
            go_round
            case rel => exact ⟨qn, rn, GN.out, RB.out, rfl, rfl⟩
            case measure => have := MS.out; simp [intOf]; omega
  case rest =>
  obtain ⟨rfl, rfl, r1, rfl⟩ := hcut
  clear b0 b1 b2 b3
  have k1 := K1.out
  obtain ⟨g0, g1⟩ := guess_first D2.out
  obtain ⟨qa, hqa⟩ : ∃ q, un21 / yn1 = q := ⟨_, rfl⟩
  rw [hqa] at g0 g1
  obtain ⟨pa, hpa⟩ : ∃ p, qa * yn1 = p := ⟨_, rfl⟩
  have hple : pa ≤ un21 := by rw [← hpa, ← hqa]; exact Nat.div_mul_le_self un21 yn1
  rw [hpa] at g0 g1
  obtain ⟨ra, hra⟩ : ∃ p, un21 - pa = p := ⟨_, rfl⟩
  rw [hra] at g0 g1
  have b0 : qa < 18446744073709551616 := by have := g0.le; omega
  have b1 : ((un21 : Int) / yn1) = (qa : Int) := by rw [← hqa, Int.natCast_ediv]
  have b2 : IntKind.u64.wrap ((qa : Int) * yn1) = (pa : Int) := by rw [← Int.natCast_mul, hpa]; exact wrapU_lt _ (by omega)
  have b3 : IntKind.u64.wrap ((un21 : Int) - pa) = (ra : Int) := by rw [show ((un21 : Int) - pa) = (ra : Int) by omega]; exact wrapU_lt _ (by omega)
  have G0 := hid g0
  have G1 := hid g1
  clear g0 g1 hqa hpa hple hra
  go_upto_block 2 with fail
  go_cut [18, 16] from 102 to 120 (fun sq sr wx => w = wx ∧ sq = .int .u64 (q2 : Int) ∧ ∃ r : Nat, sr = .int .u64 (r : Int))
  case first =>
    clear b0 b1 b2 b3
    go_wp2_with fail
    go_loop [18, 16] (fun sq sr => ∃ q r : Nat, Guess un21 un0 yn1 yn0 q r ∧ r < 4294967296 ∧ sq = .int .u64 (q : Int) ∧ sr = .int .u64 (r : Int)) (fun sq _ => (intOf sq).toNat)
    case atStart => exact ⟨_, _, G0.out, G1.out, rfl, rfl⟩
    case round =>
      obtain ⟨q, r, g, hr, rfl, rfl⟩ := hrel
      have gt := guess_test D2.out g
      have gle := g.le
      have lo0 := D2.out.lo
      have hun1 := D2.out.u1
      have hyn := D2.out.hi2
      obtain ⟨m, hm⟩ : ∃ m, m = 4294967296 * r := ⟨_, rfl⟩
      obtain ⟨v, hv⟩ : ∃ v, v = m + un0 := ⟨_, rfl⟩
      by_cases ht : q * (yn1 * 4294967296 + yn0) ≤ un21 * 4294967296 + un0
      · have hq : q < 4294967296 := by
          rcases Nat.lt_or_ge q 4294967296 with h | h
          · exact h
          · have := gt.2 h; omega
        have e := guess_digit g ht
        have t1 := gt.1.1 ht
        have c1 : decide ((4294967296 : Int) ≤ (q : Int)) = false := by simp; omega
        have c1n : decide (4294967296 ≤ q) = false := by simp; omega
        obtain ⟨t, et⟩ : ∃ t, q * yn0 = t := ⟨_, rfl⟩
        have tw : IntKind.u64.wrap ((q : Int) * yn0) = (t : Int) := by
          rw [← Int.natCast_mul, et]
          refine wrapU_lt _ ?_
          have := Nat.mul_le_mul (show q ≤ 4294967295 by omega) (show yn0 ≤ 4294967295 by omega)
          omega
        have mw : IntKind.u64.wrap (4294967296 * (r : Int)) = (m : Int) := by rw [show 4294967296 * (r : Int) = (m : Int) by omega]; exact wrapU_lt _ (by omega)
        have vw : IntKind.u64.wrap ((m : Int) + un0) = (v : Int) := by rw [show (m : Int) + un0 = (v : Int) by omega]; exact wrapU_lt _ (by omega)
        have c2 : decide (v < t) = false := by simp; omega
        have E := hid (e.trans Q2.out.symm)
        clear gt ht e et gle lo0 hun1 hyn hm hv t1 hq hr g
        go_wp2_with fail
        go_meet
        exact ⟨rfl, by rw [E.out], r, rfl⟩
      · obtain ⟨hq1, gn⟩ := guess_next g (by omega)
        have t2 : 4294967296 * r + un0 < q * yn0 := by
          rcases Nat.lt_or_ge (4294967296 * r + un0) (q * yn0) with h | h
          · exact h
          · exact absurd (gt.1.2 h) ht
        obtain ⟨qn, hqn⟩ : ∃ n, q - 1 = n := ⟨_, rfl⟩
        obtain ⟨rn, hrn⟩ : ∃ n, r + yn1 = n := ⟨_, rfl⟩
        rw [hqn, hrn] at gn
        have qw : IntKind.u64.wrap ((q : Int) - 1) = (qn : Int) := by rw [show (q : Int) - 1 = (qn : Int) by omega]; exact wrapU_lt _ (by omega)
        have rw' : IntKind.u64.wrap ((r : Int) + yn1) = (rn : Int) := by rw [show (r : Int) + yn1 = (rn : Int) by omega]; exact wrapU_lt _ (by omega)
        have GN := hid gn
        have MS := hid (show qn < q by omega)
        clear gt ht gn g
        by_cases hb : 4294967296 ≤ rn
        · have hd : qn * (yn1 * 4294967296 + yn0) ≤ un21 * 4294967296 + un0 := guess_break D2.out GN.out (by omega) hb
          have E := hid ((guess_digit GN.out hd).trans Q2.out.symm)
          clear hd
          have c3 : decide ((4294967296 : Int) ≤ (rn : Int)) = true := by simp; omega
          have c3n : decide (4294967296 ≤ rn) = true := by simp; omega
          by_cases hB : 4294967296 ≤ q
          · have c1 : decide ((4294967296 : Int) ≤ (q : Int)) = true := by simp; omega
            have c1n : decide (4294967296 ≤ q) = true := by simp; omega
            clear t2 gle lo0 hun1 hyn hm hv hr hB hb hqn hrn hq1
            go_wp2_with fail
            go_meet
            exact ⟨rfl, by rw [E.out], _, rfl⟩
          · have c1 : decide ((4294967296 : Int) ≤ (q : Int)) = false := by simp; omega
            have c1n : decide (4294967296 ≤ q) = false := by simp; omega
            obtain ⟨t, et⟩ : ∃ t, q * yn0 = t := ⟨_, rfl⟩
            have tw : IntKind.u64.wrap ((q : Int) * yn0) = (t : Int) := by
              rw [← Int.natCast_mul, et]
              refine wrapU_lt _ ?_
              have := Nat.mul_le_mul (show q ≤ 4294967295 by omega) (show yn0 ≤ 4294967295 by omega)
              omega
            have mw : IntKind.u64.wrap (4294967296 * (r : Int)) = (m : Int) := by rw [show 4294967296 * (r : Int) = (m : Int) by omega]; exact wrapU_lt _ (by omega)
            have vw : IntKind.u64.wrap ((m : Int) + un0) = (v : Int) := by rw [show (m : Int) + un0 = (v : Int) by omega]; exact wrapU_lt _ (by omega)
            have c2 : decide (v < t) = true := by simp; omega
            clear t2 gle lo0 hun1 hyn hm hv hr hB hb hqn hrn hq1 et
            go_wp2_with fail
            go_meet
            exact ⟨rfl, by rw [E.out], _, rfl⟩
        · have c3 : decide ((4294967296 : Int) ≤ (rn : Int)) = false := by simp; omega
          have c3n : decide (4294967296 ≤ rn) = false := by simp; omega
          have RB := hid (show rn < 4294967296 by omega)
          by_cases hB : 4294967296 ≤ q
          · have c1 : decide ((4294967296 : Int) ≤ (q : Int)) = true := by simp; omega
            have c1n : decide (4294967296 ≤ q) = true := by simp; omega
            clear t2 gle lo0 hun1 hyn hm hv hr hB hb hqn hrn hq1
            go_wp2_with fail
            go_round
            case rel => exact ⟨qn, rn, GN.out, RB.out, rfl, rfl⟩
            case measure => have := MS.out; simp [intOf]; omega
          · have c1 : decide ((4294967296 : Int) ≤ (q : Int)) = false := by simp; omega
            have c1n : decide (4294967296 ≤ q) = false := by simp; omega
            obtain ⟨t, et⟩ : ∃ t, q * yn0 = t := ⟨_, rfl⟩
            have tw : IntKind.u64.wrap ((q : Int) * yn0) = (t : Int) := by
              rw [← Int.natCast_mul, et]
              refine wrapU_lt _ ?_
              have := Nat.mul_le_mul (show q ≤ 4294967295 by omega) (show yn0 ≤ 4294967295 by omega)
              omega
            have mw : IntKind.u64.wrap (4294967296 * (r : Int)) = (m : Int) := by rw [show 4294967296 * (r : Int) = (m : Int) by omega]; exact wrapU_lt _ (by omega)
            have vw : IntKind.u64.wrap ((m : Int) + un0) = (v : Int) := by rw [show (m : Int) + un0 = (v : Int) by omega]; exact wrapU_lt _ (by omega)
            have c2 : decide (v < t) = true := by simp; omega
            clear t2 gle lo0 hun1 hyn hm hv hr hB hb hqn hrn hq1 et
            go_wp2_with fail
            go_round
            case rel => exact ⟨qn, rn, GN.out, RB.out, rfl, rfl⟩
            case measure => have := MS.out; simp [intOf]; omega
  case rest =>
  obtain ⟨rfl, rfl, r2, rfl⟩ := hcut
  clear b0 b1 b2 b3
  clear k1
  have k2 := K2.out
  have k3 := K3.out
  have k4 := K4.out
  go_wp2_with fail
  go_ret2
  exact ⟨rfl, 0, rfl⟩
end Go.Proofs.YtffcnkkgbhhfnaaGreatDoor

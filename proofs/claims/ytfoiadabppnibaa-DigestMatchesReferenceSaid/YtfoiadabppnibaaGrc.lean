import Derived.Test.YtfoiadabppnibaaGrb
import Derived.Test.YtfoiadabppnibaaGy
import Derived.Laws.Concat
namespace Go.Proofs.Ytfoiadabppnibaa
open Go.RowKit Go.Instr
set_option linter.unusedVariables false

/-! The reference's 'Back', 'Text', 'Bytes'. -/
theorem rback_any (h x : BitVec 64) (w : World) : Calls Try.prog 20 #[.int .u64 (h.toNat : Int), .int .u64 (x.toNat : Int)] w fun e w' => e = .returned (.int .u64 ((backB h x).toNat : Int)) ∧ w = w' := by
  go_enter Try.func20, Try.ntmps20
  go_wp2_with fail
  refine (unsh32 _ x rfl _).mono ?_
  rintro e w1 ⟨rfl, rfl⟩
  go_wp2_with fail
  refine (rinv_any c2 _).mono ?_
  rintro e w2 ⟨rfl, rfl⟩
  go_wp2_with fail
  refine (unsh29 _ (unfoldB 32 x * rinv c2 64) (mulV _ _) _).mono ?_
  rintro e w3 ⟨rfl, rfl⟩
  go_wp2_with fail
  refine (rinv_any c1 _).mono ?_
  rintro e w4 ⟨rfl, rfl⟩
  go_wp2
  go_ret
  exact ⟨ret_int (by rw [mulV, xorV, rinv1, rinv2]; rfl), rfl⟩
theorem and15 (n : Nat) (h : n < 18446744073709551616) : bits .and .i64 (IntKind.i64.wrap (n : Int)) 15 = ((n % 16 : Nat) : Int) := by
  show IntKind.i64.wrap (((BitVec.ofInt 64 (IntKind.i64.wrap (n : Int)) &&& 15#64).toNat : Nat) : Int) = _
  have e : BitVec.ofInt 64 (IntKind.i64.wrap (n : Int)) = BitVec.ofNat 64 n := by
    apply BitVec.eq_of_toNat_eq
    rw [BitVec.toNat_ofInt, IntKind.wrap_i64, BitVec.toNat_ofNat]
    omega
  rw [e, BitVec.toNat_and, BitVec.toNat_ofNat, show (15#64).toNat = 2 ^ 4 - 1 from rfl, Nat.and_two_pow_sub_one_eq_mod, IntKind.wrap_i64]
  omega
theorem pow_60 (k : Nat) (h : k < 16) : 2 ^ (60 - 4 * k) = 16 ^ (15 - k) := by
  rw [show 60 - 4 * k = 4 * (15 - k) by omega, Nat.pow_mul]
theorem digit_str (d : Nat) (h : d < 16) : (digitsA.extract d (d + 1)).data.toList = [hexC d] := by
  have : ∀ d : Fin 16, (digitsA.extract d.val (d.val + 1)).data.toList = [hexC d.val] := by decide
  exact this ⟨d, h⟩
set_option maxHeartbeats 1000000 in
theorem rtext_any (x : Nat) (hx : x < 18446744073709551616) (w : World) :
    Calls Try.prog 22 #[.int .u64 (x : Int)] w fun e w' => e = .returned (.string ⟨(textN x 16).toArray⟩) ∧ w = w' := by
  go_enter Try.func22, Try.ntmps22
  go_wp2
  go_loop [3, 4] (fun v i => ∃ (k : Nat) (s : ByteArray), k ≤ 16 ∧ i = .int .i64 k ∧ v = .string s ∧ s.size ≤ k ∧ Hid (s.data.toList ++ textN x (16 - k) = textN x 16)) (fun _ i => 16 - (intOf i).toNat)
  case atStart => exact ⟨0, _, by omega, rfl, rfl, by decide, hid rfl⟩
  case round =>
    obtain ⟨k, s, hk, rfl, rfl, hs, HS⟩ := hrel
    by_cases hlt : k < 16
    · have hw1 : IntKind.i64.wrap (4 * (k : Int)) = 4 * (k : Int) := by rw [IntKind.wrap_i64]; omega
      have n1 : ¬ 9223372036854775807 ≤ s.size := by omega
      have hq : x / 16 ^ (15 - k) < 18446744073709551616 := by have := Nat.div_le_self x (16 ^ (15 - k)); omega
      obtain ⟨d, hd⟩ : ∃ d : Nat, x / 16 ^ (15 - k) % 16 = d := ⟨_, rfl⟩
      have hd16 : d < 16 := by omega
      have hbd : bits .and .i64 (wrap64 ((x : Int) / 2 ^ (60 - 4 * k))) 15 = (d : Int) := by
        have e1 : (x : Int) / 2 ^ (60 - 4 * k) = ((x / 16 ^ (15 - k) : Nat) : Int) := by
          rw [← pow_60 k hlt]
          simp
        rw [e1, ← hd, ← and15 _ hq, IntKind.wrap_i64]
        simp only [wrap64]
      have HE := hid (text_split x k hlt)
      have HD := hid hd
      obtain ⟨t, ht⟩ : ∃ t, digitsA.extract d (d + 1) = t := ⟨_, rfl⟩
      have htl := digit_str d hd16
      rw [ht] at htl
      have hts : t.size = 1 := by have := congrArg List.length htl; simpa using this
      have HT := hid htl
      have hs2 : ∀ W' : World, (Instr.slice 9 (.string ⟨#[48, 49, 50, 51, 52, 53, 54, 55, 56, 57, 97, 98, 99, 100, 101, 102]⟩) (some (.int .i64 (d : Int))) (some (.int .i64 ((d : Int) + 1))) none).run Try.prog W' = .ok (.string t) W' := by
        intro W'
        have h := run_slice_string (P := Try.prog) (w := W') 9 digitsA .i64 .i64 (d : Int) ((d : Int) + 1) Try.underlying9 (by omega) (by omega) (by show (d : Int) + 1 ≤ 16; omega)
        refine h.trans ?_
        rw [← ht]; rfl
      have hz1 : t.size ≤ 1 := by omega
      have n2 : ¬ 9223372036854775807 < s.size + t.size := by omega
      have n3 : s.size + t.size ≤ 9223372036854775807 := by omega
      have hlen : s.size + t.size ≤ 16 := by omega
      clear hd ht htl hts hq
      go_wp2
      go_round
      case rel =>
        refine ⟨k + 1, s ++ t, by omega, by go_num, rfl, by simp; omega, hid ?_⟩
        rw [← HS.out, HE.out, HD.out]
        simp [HT.out]
      case measure => simp [intOf]; omega
    · obtain rfl : k = 16 := by omega
      go_wp2
      go_ret
      have e : s = (⟨(textN x 16).toArray⟩ : ByteArray) := WideShapes.bytes_inj (by have h := HS.out; rw [show textN x (16 - 16) = [] from rfl, List.append_nil] at h; exact h)
      exact ⟨congrArg (fun z => Ending.returned (.string z)) e, rfl⟩

/-! 'Bytes' of the reference. -/
theorem take_cap (D : List UInt8) (k : Nat) (h : k = 8 ∨ D.length ≤ k) (hk : k ≤ 8) : D.take k = D.take 8 := by
  rcases h with rfl | h
  · rfl
  · rw [List.take_of_length_le h, List.take_of_length_le (by omega)]
set_option maxHeartbeats 4000000 in
theorem rbytes_any (v : Value) (l : List UInt8) (w : World) (hv : BytesAt w v l) :
    Calls Try.prog 14 #[v] w fun e w' => e = .returned (.int .u64 ((bytesB l).toNat : Int)) ∧ w = w' := by
  obtain ⟨hm, p, c, rfl, c1, c2, hpn, h2⟩ := hv
  have C0 := hid (fun W => rstep_v (a := 1376283091369227076) (b := (l.length : Int)) (h := c4) (x := BitVec.ofNat 64 l.length) rfl (lenV _ hm) W)
  have H2 := hid h2
  clear hpn h2 c1 c2
  go_enter Try.func14, Try.ntmps14
  go_wp2_with fail
  refine (C0.out _).mono ?_
  rintro e w1 ⟨rfl, rfl⟩
  go_wp2_with fail
  go_loop [3, 4, 5, 6] (fun h i u1 u2 => ∃ (j : Nat) (hh : BitVec 64), j ≤ l.length + 7 ∧ i = .int .i64 (j : Int) ∧ h = .int .u64 (hh.toNat : Int) ∧ Hid (stepsB hh (groupsF (l.drop j).length (l.drop j)) = bytesB l)) (fun _ i _ _ => l.length + 8 - (intOf i).toNat)
  case atStart => exact ⟨0, _, by omega, rfl, rfl, hid rfl⟩
  case round =>
    obtain ⟨j, hh, hj, rfl, rfl, HS⟩ := hrel
    by_cases hlt : j < l.length
    · obtain ⟨b, o, rfl, hc⟩ := H2.out (by omega)
      have HC := hid hc
      clear hc
      go_wp2_with fail
      go_loop [5, 6] (fun x i => ∃ k : Nat, k ≤ 8 ∧ i = .int .i64 (k : Int) ∧ x = .int .u64 ((numL ((l.drop j).take k) : Nat) : Int)) (fun _ i => 8 - (intOf i).toNat)
      case atStart => exact ⟨0, by omega, rfl, rfl⟩
      case round =>
        obtain ⟨k, hk, rfl, rfl⟩ := hrel
        by_cases hk8 : k < 8 ∧ j + k < l.length
        · obtain ⟨hk8, hjk⟩ := hk8
          have hcell := HC.out (j + k) hjk
          have HN := hid (num_take (l.drop j) k (by simp; omega))
          have HE := hid (show (l.drop j)[k]'(by simp; omega) = l[j + k] by simp)
          go_wp2_with fail
          go_round
          case rel => exact ⟨k + 1, by omega, by go_num, by rw [orV _ k _ hk8 (num_take_lt _ k), HN.out, HE.out]⟩
          case measure => simp [intOf]; omega
        · have HT := hid (take_cap (l.drop j) k (by simp; omega) hk)
          have C := hid (fun W => rstep_v (a := (hh.toNat : Int)) (b := ((numL ((l.drop j).take k) : Nat) : Int)) rfl (numV ((l.drop j).take k) (by simp; omega)) W)
          go_wp2_with fail
          all_goals
            refine (C.out _).mono ?_
            rintro e w1 ⟨rfl, rfl⟩
            go_wp2_with fail
            go_round
            case rel =>
              refine ⟨j + 8, _, by omega, by go_num, rfl, hid ?_⟩
              rw [← HS.out, groups_step (l.drop j) (by simp; omega), HT.out, List.drop_drop]
              rfl
            case measure => simp [intOf]; omega
    · go_wp2_with fail
      go_ret
      exact ⟨ret_int (by rw [← HS.out, List.drop_eq_nil_of_le (by omega)]; rfl), rfl⟩
end Go.Proofs.Ytfoiadabppnibaa

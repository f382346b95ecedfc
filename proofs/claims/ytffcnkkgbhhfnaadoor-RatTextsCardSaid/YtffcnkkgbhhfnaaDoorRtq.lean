import Derived.Test.YtffcnkkgbhhfnaaDoorRtr
namespace Go.Proofs.YtffcnkkgbhhfnaaDoor
open Go.RowKit Go.Instr
set_option linter.unusedVariables false

/-! The reference's 'read' and 'ParseIn'. -/
theorem readG_step (s : List UInt8) (k n i : Nat) (hi : i < s.length) (h1 : 48 ≤ (s[i]).toNat) (h2 : (s[i]).toNat ≤ 57) (h3 : ¬ 461168601842738790 < n) : readG (k + 1) n (s.drop i) i s.length = readG k (10 * n + ((s[i]).toNat - 48)) (s.drop (i + 1)) (i + 1) s.length := by
  rw [List.drop_eq_getElem_cons hi]
  simp only [readG]
  rw [if_pos ⟨h1, h2⟩, if_neg h3]
theorem readG_big (s : List UInt8) (k n i : Nat) (hi : i < s.length) (h1 : 48 ≤ (s[i]).toNat) (h2 : (s[i]).toNat ≤ 57) (h3 : 461168601842738790 < n) : readG (k + 1) n (s.drop i) i s.length = (0, s.length) := by
  rw [List.drop_eq_getElem_cons hi]
  simp only [readG]
  rw [if_pos ⟨h1, h2⟩, if_pos h3]
theorem readG_other (s : List UInt8) (k n i : Nat) (hi : i < s.length) (h : ¬ (48 ≤ (s[i]).toNat ∧ (s[i]).toNat ≤ 57)) : readG k n (s.drop i) i s.length = (n, i) := by
  rw [List.drop_eq_getElem_cons hi]
  cases k with
  | zero => rfl
  | succ k => simp only [readG]; rw [if_neg h]
theorem readG_over (s : List UInt8) (k n : Nat) : readG k n (s.drop s.length) s.length s.length = (n, s.length) := by
  rw [List.drop_length]; exact readG_end _ _ _ _
set_option maxRecDepth 100000 in
set_option maxHeartbeats 4000000 in
theorem read_any (s : ByteArray) (hs : s.size ≤ 1000) (i : Nat) (hi : i ≤ s.size) (w : World) :
    Calls Tryd.prog 24 #[.string s, .int .i64 (i : Int)] w fun e w' => e = .returned (.tuple #[.int .i64 ((rdG s.data.toList i).1 : Int), .int .i64 ((rdG s.data.toList i).2 : Int)]) ∧ w' = w := by
  have hsl : s.data.toList.length = s.size := by simp
  obtain ⟨R, hR⟩ : ∃ R, rdG s.data.toList i = R := ⟨_, rfl⟩
  have HR := hid (show readG 19 0 (s.data.toList.drop i) i s.data.toList.length = R from hR)
  rw [hR]
  have HL := hid hsl
  clear hR hsl
  go_enter Tryd.func24, Tryd.ntmps24
  go_wp2
  go_loopw [1, 6, 7] (fun vi vn vk wr => ∃ a n k : Nat, vi = .int .i64 (a : Int) ∧ vn = .int .i64 (n : Int) ∧ vk = .int .i64 (k : Int) ∧ k ≤ 19 ∧ a ≤ s.size ∧ n ≤ 4611686018427387909 ∧ Hid (readG (19 - k) n (s.data.toList.drop a) a s.data.toList.length = R) ∧ wr = w) (fun _ _ vk _ => 19 - (intOf vk).toNat)
  case atStart => exact ⟨i, 0, 0, rfl, rfl, rfl, by omega, hi, by omega, HR, rfl⟩
  case round =>
    obtain ⟨a, n, k, rfl, rfl, rfl, hk, ha, hn, HX, rfl⟩ := hrel
    by_cases h0 : k = 19
    · subst h0
      have RR := hid (show ((n, a) : Nat × Nat) = R from HX.out)
      have t1 : decide (((19 : Nat) : Int) < 19) = false := by decide
      clear HX HR
      go_wp2_with fail
      rw [← RR.out]
      exact bodyPost_ret (v := .tuple #[.int .i64 (_ : Int), .int .i64 (_ : Int)]) (by simp [results, Tryd.results24, go_sem]; done) rfl ⟨rfl, rfl⟩
    by_cases h1 : a = s.size
    · subst h1
      have RR := hid (show ((n, s.size) : Nat × Nat) = R by have := HX.out; rw [← HL.out, readG_over] at this; rw [← HL.out]; exact this)
      have t1 : decide ((k : Int) < 19) = true := by simp; omega
      have t2 : decide ((s.size : Int) < (s.size : Int)) = false := by simp
      clear HX HR
      go_wp2_with fail
      rw [← RR.out]
      exact bodyPost_ret (v := .tuple #[.int .i64 (_ : Int), .int .i64 (_ : Int)]) (by simp [results, Tryd.results24, go_sem]; done) rfl ⟨rfl, rfl⟩
    have hal : a < s.data.toList.length := by have := HL.out; omega
    have t1 : decide ((k : Int) < 19) = true := by simp; omega
    have t2 : decide ((a : Int) < (s.size : Int)) = true := by simp; omega
    have i1 : (0 : Int) ≤ (a : Int) := by omega
    have i2 : (a : Int) < (s.size : Int) := by omega
    have hax : a < s.size := by omega
    obtain ⟨c, hc⟩ : ∃ c : UInt8, s[a] = c := ⟨_, rfl⟩
    have hc2 : s.data.toList[a] = c := hc
    by_cases h2 : ¬ (48 ≤ c.toNat ∧ c.toNat ≤ 57)
    · have RR := hid (show ((n, a) : Nat × Nat) = R by have := HX.out; rw [readG_other _ _ _ _ hal (by rw [hc2]; exact h2)] at this; exact this)
      clear HX HR hc2 hal
      by_cases h3 : 48 ≤ c.toNat
      · have t3 : decide ((48 : Int) ≤ (c.toNat : Int)) = true := by simp; omega
        have t4 : decide ((c.toNat : Int) ≤ 57) = false := by simp; omega
        clear h2
        go_wp2_with fail
        rw [← RR.out]
        exact bodyPost_ret (v := .tuple #[.int .i64 (_ : Int), .int .i64 (_ : Int)]) (by simp [results, Tryd.results24, go_sem]; done) rfl ⟨rfl, rfl⟩
      · have t3 : decide ((48 : Int) ≤ (c.toNat : Int)) = false := by simp; omega
        clear h2
        go_wp2_with fail
        rw [← RR.out]
        exact bodyPost_ret (v := .tuple #[.int .i64 (_ : Int), .int .i64 (_ : Int)]) (by simp [results, Tryd.results24, go_sem]; done) rfl ⟨rfl, rfl⟩
    have h2' : 48 ≤ c.toNat ∧ c.toNat ≤ 57 := Decidable.not_not.1 h2
    obtain ⟨h3, h4⟩ := h2'
    have t3 : decide ((48 : Int) ≤ (c.toNat : Int)) = true := by simp; omega
    have t4 : decide ((c.toNat : Int) ≤ 57) = true := by simp; omega
    obtain ⟨kk, hkk⟩ : ∃ kk, 19 - k = kk + 1 := ⟨18 - k, by omega⟩
    by_cases h5 : 461168601842738790 < n
    · have RR := hid (show ((0, s.size) : Nat × Nat) = R by have := HX.out; rw [hkk, readG_big _ _ _ _ hal (by rw [hc2]; exact h3) (by rw [hc2]; exact h4) h5, HL.out] at this; exact this)
      have t5 : decide ((461168601842738790 : Int) < (n : Int)) = true := by simp; omega
      clear HX HR hc2 hal h2
      go_wp2_with fail
      refine (most_any _).mono ?_
      rintro e w1 ⟨rfl, rfl⟩
      go_wp2_with fail
      rw [← RR.out]
      exact bodyPost_ret (v := .tuple #[.int .i64 (_ : Int), .int .i64 (_ : Int)]) (by simp [results, Tryd.results24, go_sem]; done) rfl ⟨rfl, rfl⟩
    have HX2 := hid (show readG kk (10 * n + (c.toNat - 48)) (s.data.toList.drop (a + 1)) (a + 1) s.data.toList.length = R by have := HX.out; rw [hkk, readG_step _ _ _ _ hal (by rw [hc2]; exact h3) (by rw [hc2]; exact h4) h5] at this; rw [← hc2]; exact this)
    have t5 : decide ((461168601842738790 : Int) < (n : Int)) = false := by simp; omega
    have hcb : (c.toNat : Int) ≤ 57 := by omega
    have hcb0 : (48 : Int) ≤ (c.toNat : Int) := by omega
    clear HX HR hc2 hal h2
    go_wp2_with fail
    refine (most_any _).mono ?_
    rintro e w1 ⟨rfl, rfl⟩
    go_wp2_with fail
    go_roundw
    case rel =>
      exact ⟨a + 1, 10 * n + (c.toNat - 48), k + 1, by go_num, by go_num, by go_num, by omega, by omega, by omega, hid (by rw [show 19 - (k + 1) = kk by omega]; exact HX2.out), trivial⟩
    case measure => simp [intOf]; omega
end Go.Proofs.YtffcnkkgbhhfnaaDoor

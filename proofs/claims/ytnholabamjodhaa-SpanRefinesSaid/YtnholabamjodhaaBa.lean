import Derived.Test.YtnholabamjodhaaAs
import Derived.Test.YtnholabamjodhaaAre
namespace Go.Proofs.Ytnholabamjodhaa
open Go.RowKit Go.Instr Sp
set_option linter.unusedVariables false
set_option linter.unusedSimpArgs false

/-! span's own numbers: sizes, remainders, greatest divisors. -/
structure Big (a : Int) : Prop where
  l : -9223372036854775807 ≤ a
  h : a ≤ 9223372036854775807
set_option maxHeartbeats 400000 in
theorem ssize_any (a : Int) (ha : Big a) (w : World) :
    Calls Try.prog 77 #[.int .i64 a] w fun e w' => e = .returned (.int .i64 (absI a)) ∧ w = w' := by
  obtain ⟨h1, h2⟩ := ha
  go_enter Try.func77, Try.ntmps77
  go_wp2
  all_goals
    go_ret
    exact ⟨retA (by first | rfl | (unfold absI; omega)), rfl⟩
theorem tmod_neg {a m : Int} (hm : 1 ≤ m) (h : a.tmod m < 0) : a.tmod m + m = a % m := by
  have e := tmod_emod a m
  have l := (tmod_in a hm).1
  rw [← e, ← Int.add_emod_right, Int.emod_eq_of_lt (by omega) (by omega)]
theorem tmod_nneg {a m : Int} (hm : 1 ≤ m) (h : 0 ≤ a.tmod m) : a.tmod m = a % m := by
  have e := tmod_emod a m
  have l := (tmod_in a hm).2
  rw [← e, Int.emod_eq_of_lt h l]
set_option maxHeartbeats 400000 in
theorem smod_any (a m : Int) (ha : Big a) (hm : 1 ≤ m) (hm2 : m ≤ 9223372036854775807) (w : World) :
    Calls Try.prog 76 #[.int .i64 a, .int .i64 m] w fun e w' => e = .returned (.int .i64 (a % m)) ∧ w = w' := by
  obtain ⟨h1, h2⟩ := tmod_in a hm
  have hz : (m == 0) = false := by simp; omega
  by_cases c : a.tmod m < 0
  · have E := hidA (tmod_neg hm c)
    go_enter Try.func76, Try.ntmps76
    go_wp2
    go_ret
    exact ⟨retA E.out, rfl⟩
  · have E := hidA (tmod_nneg hm (show 0 ≤ a.tmod m by omega))
    go_enter Try.func76, Try.ntmps76
    go_wp2
    go_ret
    exact ⟨retA E.out, rfl⟩
/-- The greatest divisor of some numbers, and one more. -/
def gcF : List Int → Int → Int
  | [], d => gc d 0
  | x :: t, d => gcF t (gc d x)
theorem gc_abs2 (p x : Int) : gc (gc p 0) x = gc p x := by
  unfold gc
  simp [Int.gcd]
theorem gcF_abs : ∀ (t : List Int) (p d : Int), gc p 0 = gc d 0 → gcF t p = gcF t d
  | [], p, d, h => h
  | x :: t, p, d, h => by
    unfold gcF
    rw [← gc_abs2 p x, ← gc_abs2 d x, h]
theorem gc_tmod (p q : Int) : gc q (p.tmod q) = gc p q := by
  unfold gc Int.gcd
  rw [Int.natAbs_tmod, Nat.gcd_comm p.natAbs, Nat.gcd_rec q.natAbs p.natAbs, Nat.gcd_comm]
theorem tmod_big {p q : Int} (hq : Big q) (h0 : q ≠ 0) : Big (p.tmod q) ∧ (p.tmod q).natAbs < q.natAbs := by
  have e := Int.natAbs_tmod p q
  have l := Nat.mod_lt p.natAbs (show 0 < q.natAbs by omega)
  have := hq.l; have := hq.h
  rw [← e] at l
  exact ⟨⟨by omega, by omega⟩, l⟩
theorem gcF_nil (d : Int) : gcF [] d = absI d := by
  unfold gcF gc absI
  simp [Int.gcd]
  omega
set_option maxHeartbeats 400000 in
theorem sdivisor_any (w : World) (b : Nat) (l : List Int) (n : Nat) (hn : l.length = n) (hn2 : n ≤ 1000) (H : ∀ i x, l[i]? = some x → w.cell? ⟨b, i, none⟩ = some (.int .i64 x)) (G : ∀ x ∈ l, Big x) :
    Calls Try.prog 47 #[.slice (some ⟨b, 0, none⟩) n n] w fun e w' => e = .returned (.int .i64 (gcF l 0)) ∧ Below w.heap.size w w' := by
  have HC := hidA H
  have HG := hidA G
  clear H G
  go_enter Try.func47, Try.ntmps47
  go_wp2
  go_loopw [3, 8] (fun s u W => ∃ (i : Nat) (d : Int), i ≤ n ∧ Big d ∧ Hid (gcF (l.drop i) d = gcF l 0) ∧ Below w.heap.size w W ∧ s = .int .i64 d ∧ u = .int .i64 i) (fun _ u _ => (n - (intOf u).toNat))
  case atStart => exact ⟨0, 0, by omega, ⟨by omega, by omega⟩, hidA rfl, Below.refl _ _, rfl, rfl⟩
  case round =>
    obtain ⟨i, d, hi, hd, E, hB, rfl, rfl⟩ := hrel
    have HB := hidA hB
    clear hB
    by_cases hin : i < n
    · obtain ⟨x, hx⟩ : ∃ x, l[i]? = some x := ⟨l[i]'(by omega), List.getElem?_eq_getElem (by omega)⟩
      have bx := HG.out x (List.mem_of_getElem? hx)
      have E2 := E.out
      have ed : l.drop i = x :: l.drop (i + 1) := by
        rw [List.getElem?_eq_some_iff] at hx
        obtain ⟨h1, h2⟩ := hx
        rw [List.drop_eq_getElem_cons h1, h2]
      rw [ed] at E2
      have E3 := hidA (show gcF (l.drop (i + 1)) (gc d x) = gcF l 0 from E2)
      clear E2 E ed
      have hb' : b < w.heap.size := World.block_lt_of_cell? _ _ (HC.out i x hx)
      have cx := (HB.out.cell (p := ⟨b, i, none⟩) hb').trans (HC.out i x hx)
      have hlt : (i : Int) < n := by omega
      go_wp2
      clear cx hb' hx HC HG
      go_loopw [3, 5] (fun s t V => ∃ p q : Int, Big p ∧ Big q ∧ Hid (gc p q = gc d x) ∧ Below w.heap.size w V ∧ s = .int .i64 p ∧ t = .int .i64 q) (fun _ t _ => (intOf t).natAbs)
      case atStart => exact ⟨d, x, hd, bx, hidA rfl, HB.out, rfl, rfl⟩
      case round =>
        obtain ⟨p, q, hp, hq, I, hB2, rfl, rfl⟩ := hrel
        have HB2 := hidA hB2
        clear hB2
        by_cases hy : q = 0
        · subst hy
          have hE := hidA ((gcF_abs (l.drop (i + 1)) p (gc d x) (by rw [← I.out]; unfold gc; simp [Int.gcd])).trans E3.out)
          go_wp2
          go_roundw
          case rel => exact ⟨i + 1, p, by omega, hp, hE, HB2.out, rfl, by first | rfl | go_num⟩
          case measure => simp [intOf]; omega
        · have hz : (q == 0) = false := by simpa using hy
          have hz2 : (q != 0) = true := by simpa using hy
          obtain ⟨t1, t2⟩ := tmod_big (p := p) hq hy
          have I2 := hidA ((gc_tmod p q).trans I.out)
          have HT := hidA (⟨t1, t2⟩ : Big (p.tmod q) ∧ (p.tmod q).natAbs < q.natAbs)
          obtain ⟨t3, t4⟩ := t1
          clear t2
          go_wp2
          go_region
          go_wp2
          go_roundw
          case rel => exact ⟨q, p.tmod q, hq, HT.out.1, I2, HB2.out.drew, rfl, by first | rfl | go_num⟩
          case measure => exact HT.out.2
    · have e : i = n := by omega
      subst e
      have E2 := hidA (show absI d = gcF l 0 by rw [← gcF_nil, ← E.out, List.drop_eq_nil_of_le (by omega)])
      go_wp2_with (go_at_call 77; refine (ssize_any _ hd _).mono ?_; rintro e w1 ⟨rfl, rfl⟩)
      go_ret
      exact ⟨retA E2.out, HB.out⟩
end Go.Proofs.Ytnholabamjodhaa

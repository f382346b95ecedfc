import Derived.Test.YtcjambgbbmffiaaNb
import Derived.Test.YtcjambgbbmffiaaShelf
import Derived.Shelf.Slices.In.SortNone
import Derived.Sort.OwnSortedInts
import Derived.Lib.OwnBridge
import Derived.Sort.Grow
namespace Go.Proofs.Ytcjambgbbmffiaa
open Go.RowKit Go.Instr Go.Shelf Go.Sort
set_option linter.unusedVariables false

/-! 'num.distinct', 'num.Reads', 'num.ReadsC'. -/
theorem compact_sorted (ys : List Int) (h : ys.Pairwise (· ≤ ·)) : ∀ m, m ≤ ys.length →
    (∀ x, x ∈ Lib.compactUpTo ys.toArray m ↔ ∃ j, j < m ∧ ys.getD j 0 = x) ∧ (Lib.compactUpTo ys.toArray m).Pairwise (· < ·) := by
  have hg : ∀ j, j < ys.length → ys.toArray[j]! = ys.getD j 0 := by
    intro j hj
    rw [getElem!_pos _ j (by simpa using hj)]
    simp [List.getD, List.getElem?_eq_getElem hj]
  have hle : ∀ i j, i ≤ j → j < ys.length → ys.getD i 0 ≤ ys.getD j 0 := by
    intro i j hij hj
    rcases Nat.eq_or_lt_of_le hij with rfl | hlt
    · exact Int.le_refl _
    · have := List.pairwise_iff_getElem.1 h i j (by omega) hj hlt
      simpa [List.getD, List.getElem?_eq_getElem hj, List.getElem?_eq_getElem (show i < ys.length by omega)] using this
  intro m
  induction m with
  | zero => intro _; exact ⟨fun x => by simp [Lib.compactUpTo], by simp [Lib.compactUpTo]⟩
  | succ m ih =>
    intro hm
    obtain ⟨h1, h2⟩ := ih (by omega)
    rw [Lib.compactUpTo_succ]
    by_cases hk : Lib.keeps ys.toArray m = true
    · rw [if_pos hk, hg m (by omega)]
      constructor
      · intro x
        rw [List.mem_append, h1 x, List.mem_singleton]
        constructor
        · rintro (⟨j, hj, e⟩ | rfl)
          · exact ⟨j, by omega, e⟩
          · exact ⟨m, by omega, rfl⟩
        · rintro ⟨j, hj, e⟩
          rcases Nat.eq_or_lt_of_le (Nat.lt_succ_iff.1 hj) with rfl | hlt
          · exact Or.inr e.symm
          · exact Or.inl ⟨j, hlt, e⟩
      · rw [List.pairwise_append]
        refine ⟨h2, by simp, fun a ha b hb => ?_⟩
        rw [List.mem_singleton] at hb
        subst hb
        obtain ⟨j, hj, rfl⟩ := (h1 a).1 ha
        have hne : ys.getD m 0 ≠ ys.getD (m - 1) 0 := by
          unfold Lib.keeps at hk
          rw [decide_eq_true_eq] at hk
          rcases hk with rfl | hk
          · omega
          · rw [hg m (by omega), hg (m - 1) (by omega)] at hk
            exact hk
        have a1 := hle j (m - 1) (by omega) (by omega)
        have a2 := hle (m - 1) m (by omega) (by omega)
        omega
    · rw [if_neg hk, List.append_nil]
      refine ⟨fun x => ?_, h2⟩
      rw [h1 x]
      unfold Lib.keeps at hk
      rw [decide_eq_true_eq] at hk
      have hm0 : m ≠ 0 := fun h => hk (Or.inl h)
      have he : ys.getD m 0 = ys.getD (m - 1) 0 := by
        apply Classical.byContradiction
        intro hne
        exact hk (Or.inr (by rw [hg m (by omega), hg (m - 1) (by omega)]; exact hne))
      constructor
      · rintro ⟨j, hj, e⟩
        exact ⟨j, by omega, e⟩
      · rintro ⟨j, hj, e⟩
        rcases Nat.eq_or_lt_of_le (Nat.lt_succ_iff.1 hj) with rfl | hlt
        · exact ⟨j - 1, by omega, by rw [← he]; exact e⟩
        · exact ⟨j, hlt, e⟩
/-- A list's numbers in increasing order, each once. -/
def sortU (xs : List Int) : List Int := Lib.compact (xs.mergeSort fun x y => decide (x ≤ y))
theorem mem_getD (ys : List Int) (x : Int) : (∃ j, j < ys.length ∧ ys.getD j 0 = x) ↔ x ∈ ys := by
  rw [List.mem_iff_getElem]
  constructor
  · rintro ⟨j, hj, e⟩
    exact ⟨j, hj, by simpa [List.getD, List.getElem?_eq_getElem hj] using e⟩
  · rintro ⟨j, hj, e⟩
    exact ⟨j, hj, by simpa [List.getD, List.getElem?_eq_getElem hj] using e⟩
theorem sortU_mem (xs : List Int) (x : Int) : x ∈ sortU xs ↔ x ∈ xs := by
  have hs := List.pairwise_mergeSort (le := fun x y : Int => decide (x ≤ y)) (fun a b c h1 h2 => by simp at *; omega) (fun a b => by simp; omega) xs
  have := (compact_sorted _ (hs.imp (fun h => by simpa using h)) _ (Nat.le_refl _)).1 x
  unfold sortU Lib.compact
  rw [this, mem_getD]
  exact (List.mergeSort_perm xs _).mem_iff
theorem sortU_lt (xs : List Int) : (sortU xs).Pairwise (· < ·) := by
  have hs := List.pairwise_mergeSort (le := fun x y : Int => decide (x ≤ y)) (fun a b c h1 h2 => by simp at *; omega) (fun a b => by simp; omega) xs
  exact (compact_sorted _ (hs.imp (fun h => by simpa using h)) _ (Nat.le_refl _)).2
theorem sortU_nil : sortU [] = [] := by simp [sortU, Lib.compact, Lib.compactUpTo]
theorem sortU_len (xs : List Int) : (sortU xs).length ≤ xs.length := by
  have := Lib.compact_length_le (xs.mergeSort fun x y : Int => decide (x ≤ y))
  rw [List.length_mergeSort] at this
  exact this
theorem ints_of_row {w : World} {base g n cap : Nat} {l : List Int} (h : w.ownsRow base 3 1 (.slice (some ⟨g, 0, none⟩) n cap) n (l.map (Value.int .i64))) (hn : l.length = n) : intsIn w l (.slice (some ⟨g, 0, none⟩) n cap) := by
  rcases h.2 with ⟨h1, _⟩ | ⟨g', cap', cur, hv, hbase, hb, h1, h2, h3, h4⟩
  · cases h1
  · cases hv
    refine ⟨some ⟨g, 0, none⟩, cap, by rw [hn], by omega, by unfold maxLen at h2; omega, fun i hi => ⟨g, 0, rfl, ?_⟩⟩
    rw [h.cellAt (0 + i) (by omega)]
    simp [List.getD, List.getElem?_eq_getElem hi]
theorem ints_nil (w : World) (p : Option Addr) (c : Nat) (hc : c ≤ 9223372036854775807) : intsIn w [] (.slice p 0 c) := ⟨p, c, rfl, Nat.zero_le _, hc, fun i hi => absurd hi (by simp)⟩

set_option maxHeartbeats 1000000 in
theorem distinct_any (B : Nat) (xs : List Int) (v : Value) (n : Nat) (w : World) (hown : w.ownsRow B 3 1 v n (i64s xs)) (hm : n ≤ 2000000) (hB : B ≤ w.heap.size) :
    Calls Try.prog 46 #[v] w fun e w' => ∃ v', e = .returned v' ∧ intsIn w' (sortU xs) v' ∧ Below B w w' := by
  have hn : xs.length = n := by have := hown.1; rw [i64s_len] at this; omega
  by_cases h0 : n = 0
  · subst h0
    obtain rfl := List.eq_nil_of_length_eq_zero hn
    rw [sortU_nil]
    obtain ⟨p, c, rfl, hc⟩ : ∃ p c, v = .slice p 0 c ∧ c ≤ 9223372036854775807 := by
      rcases hown.2 with ⟨rfl, _⟩ | ⟨g, cap, cur, rfl, _, _, _, h2, _⟩
      · exact ⟨none, 0, rfl, by omega⟩
      · exact ⟨_, cap, rfl, by unfold maxLen at h2; omega⟩
    clear hown
    go_enter Try.func46, Try.ntmps46
    go_wp2_with (first
      | (go_at_call 52; refine (Any.slices_Sort_int_none Try.lays189 p c _).mono ?_; rintro e w' ⟨rfl, rfl⟩)
      | (go_at_call 53; refine (Try.slices_Compact_int_empty p c _).mono ?_; rintro e w' ⟨rfl, rfl⟩))
    go_ret
    exact ⟨_, rfl, ints_nil _ _ _ hc, Below.refl _ _⟩
  · have hnn : v ≠ .slice none 0 0 := by
      rintro rfl
      rcases hown.2 with ⟨_, h⟩ | ⟨g, cap, cur, h, _⟩
      · exact h0 h
      · cases h
    obtain ⟨g, cap, rfl, hbg, hgl, hncap, hcm, hlen, hH⟩ := Lib.holds_of_ownsRow (enc := Value.int .i64) (zs := xs) hown hnn
    have hsort := Try.slices_Sort_int g 0 cap xs w hH hgl (by omega)
    rw [hlen] at hsort
    have hl2 : (xs.mergeSort fun x y => decide (x ≤ y)).length = n := by rw [List.length_mergeSort]; exact hlen
    have hcomp := fun (nn : Nat) (os : Array Obj) => Try.slices_Compact_int g 0 cap (xs.mergeSort fun x y => decide (x ≤ y)) (grow (putRow (Value.int .i64) (Sort.ahead w nn) g 0 (xs.mergeSort fun x y => decide (x ≤ y)).toArray) os)
      (holds_grow (Value.int .i64) _ os g 0 _ (by simpa [putRow, mapBlock, Sort.ahead] using hgl) (holds_putRow (Value.int .i64) _ g 0 _ _ (holds_ahead (Value.int .i64) w nn g 0 _ hH) (by simp))) (by omega) (by omega)
    rw [hl2] at hcomp
    have HO := hid hown
    have HS := hid hsort
    have HC := hid hcomp
    clear hown hsort hcomp hH hnn
    go_enter Try.func46, Try.ntmps46
    go_wp2_with (first
      | (go_at_call 52; refine HS.out.mono ?_; rintro e w' ⟨rfl, nn, os, rfl⟩)
      | (go_at_call 53; refine (HC.out _ _).mono ?_; rintro e w' ⟨rfl, qq, rfl⟩))
    go_ret
    refine ⟨_, rfl, ?_, ?_⟩
    · rcases HO.out.2 with ⟨h1, _⟩ | ⟨g', cap', cur, hv, hbase, hb, h1, h2, h3, h4⟩
      · cases h1
      cases hv
      have hs := ownsRow_sortedI (n := nn) (os := os) (ts := xs.mergeSort fun x y => decide (x ≤ y)) (ss := xs) (by rw [hl2, hlen]) hbase hb (by omega) h2 h3
      rw [hlen] at hs
      have hle := Lib.compact_length_le (xs.mergeSort fun x y : Int => decide (x ≤ y))
      have hc := Lib.ownsRow_putRow (q := qq) (k := (Lib.compact (xs.mergeSort fun x y => decide (x ≤ y))).length) (ys := Lib.compact (xs.mergeSort fun x y => decide (x ≤ y)) ++ List.replicate (n - (Lib.compact (xs.mergeSort fun x y => decide (x ≤ y))).length) 0) hs (by simp; omega) (by omega)
      rw [List.take_left] at hc
      exact ints_of_row hc rfl
    · exact Lib.below_putRow ((Below.refl B w).grown (grownBy_sortedI _) hB (fun j hj => by cases hj; exact hbg)) hbg
end Go.Proofs.Ytcjambgbbmffiaa

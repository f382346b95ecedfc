import Derived.Test.YtagpinpelgkjcaaLm
namespace Go.Proofs.Ytagpinpelgkjcaa
set_option linter.unusedVariables false

/-! The laws' mathematics. -/
theorem part_top {l : List (BitVec 64)} {a b : Nat} (h : 2 ≤ b - a) (hb : b ≤ l.length) :
    topB ((l.take b).drop a) = joinB (topB ((l.take (a + pw (b - a))).drop a)) (topB ((l.take b).drop (a + pw (b - a)))) := by
  have hp := pw_bd h
  have hl : ((l.take b).drop a).length = b - a := by rw [List.length_drop, List.length_take]; omega
  rw [topB_two (by omega), hl]
  congr 2
  · rw [List.take_drop, List.take_take, Nat.min_eq_left (by omega)]
  · rw [List.drop_drop]
/-- The pairs on the way up from a place lead to the top. -/
theorem climb_top (l : List (BitVec 64)) : ∀ f a b i (hi : i < l.length), b - a ≤ f → a ≤ i → i < b → b ≤ l.length →
    joinP (lastP ((sibs a b i).map Sib.ahead) (0#64, l[i]) ((sibs a b i).map fun s => topB (partOf l s))) = topB ((l.take b).drop a) := by
  intro f
  induction f with
  | zero => intro a b i hi h h1 h2; omega
  | succ f ih =>
    intro a b i hi h h1 h2 h3
    by_cases h4 : b - a ≤ 1
    · rw [sibs_one i h4]
      obtain rfl : i = a := by omega
      have e : (l.take b).drop i = [l[i]] := by
        rw [show b = i + 1 by omega, List.take_succ_eq_append_getElem hi, List.drop_append_of_le_length (by simp; omega)]
        simp
      rw [e, topB_one]
      rfl
    · have hp := pw_bd (n := b - a) (by omega)
      have hpt := part_top (l := l) (a := a) (b := b) (by omega) h3
      by_cases h5 : i < a + pw (b - a)
      · rw [sibs_low (by omega) h5, List.map_append, List.map_append, lastP_app _ _ _ _ _ (by simp), hpt, ← ih a (a + pw (b - a)) i hi (by omega) h1 h5 (by omega)]
        rfl
      · rw [sibs_high (by omega) h5, List.map_append, List.map_append, lastP_app _ _ _ _ _ (by simp), hpt, ← ih (a + pw (b - a)) b i hi (by omega) (by omega) h2 h3]
        rfl
theorem pathB_len (l : List (BitVec 64)) (i : Nat) : (pathB l i).length = (sibs 0 l.length i).length := by simp [pathB]
theorem root_path (l : List (BitVec 64)) (i : Nat) (hi : i < l.length) : rootP l.length i l[i] (pathB l i) = rootB l := by
  unfold rootP rootB aheads pathB
  rw [climb_top l l.length 0 l.length i hi (by omega) (by omega) hi (Nat.le_refl _)]
  simp
theorem check_ok (l : List (BitVec 64)) (i : Nat) (hi : i < l.length) (hn : l.length ≤ 4096) : checkE (rootB l) l.length i l[i] (pathB l i) = 0 := by
  unfold checkE
  rw [if_neg (by unfold placeE; rw [if_neg (by omega), if_neg (by omega)]; simp), if_pos]
  simp only [Int.toNat_natCast]
  exact ⟨by simp [pathB, aheads], root_path l i hi⟩
theorem place_zero {n i : Int} (h1 : n ≤ 4096) (h2 : 0 ≤ i) (h3 : i < n) : placeE n i = 0 := by
  unfold placeE
  rw [if_neg (by omega), if_neg (by omega)]
theorem check_len {root leaf : BitVec 64} {n i : Nat} {path : List (BitVec 64)} (h1 : n ≤ 4096) (h2 : i < n) (h : path.length ≠ (sibs 0 n i).length) : checkE root n i leaf path = 40 := by
  unfold checkE
  rw [if_neg (by rw [place_zero (by omega) (by omega) (by omega)]; simp), if_neg]
  simp only [Int.toNat_natCast, aheads, List.length_map]
  exact fun h' => h h'.1
/-- No sibling's part has the place. -/
theorem sibs_out : ∀ f a b i, b - a ≤ f → a ≤ i → i < b → ∀ s ∈ sibs a b i, i < s.lo ∨ s.hi ≤ i := by
  intro f
  induction f with
  | zero => intro a b i h h1 h2; omega
  | succ f ih =>
    intro a b i h h1 h2 s hs
    by_cases h3 : b - a ≤ 1
    · rw [sibs_one i h3] at hs; cases hs
    · have hp := pw_bd (n := b - a) (by omega)
      by_cases h4 : i < a + pw (b - a)
      · rw [sibs_low (by omega) h4] at hs
        rcases List.mem_append.1 hs with hs | hs
        · exact ih a (a + pw (b - a)) i (by omega) h1 h4 s hs
        · obtain rfl := List.mem_singleton.1 hs
          exact .inl h4
      · rw [sibs_high (by omega) h4] at hs
        rcases List.mem_append.1 hs with hs | hs
        · exact ih (a + pw (b - a)) b i (by omega) (by omega) h2 s hs
        · obtain rfl := List.mem_singleton.1 hs
          exact .inr (by simp only; omega)
theorem path_set (l : List (BitVec 64)) (i : Nat) (v : BitVec 64) (hi : i < l.length) : pathB (l.set i v) i = pathB l i := by
  unfold pathB
  rw [List.length_set]
  apply List.map_congr_left
  intro s hs
  have h := sibs_out l.length 0 l.length i (by omega) (by omega) hi s hs
  unfold partOf
  rcases h with h | h
  · rw [List.take_set, List.drop_set_of_lt h]
  · rw [List.take_set_of_le h]
theorem path_high (l : List (BitVec 64)) (h : 2 ≤ l.length) : (pathB l (pw l.length)).getLast? = some (topB (l.take (pw l.length))) := by
  have hp := pw_bd h
  unfold pathB
  rw [sibs_high (a := 0) (b := l.length) (i := pw l.length) (by omega) (by rw [Nat.sub_zero]; omega), List.map_append]
  simp [partOf]
theorem path_low (l : List (BitVec 64)) (h : 2 ≤ l.length) : (pathB l 0).getLast? = some (topB (l.drop (pw l.length))) := by
  have hp := pw_bd h
  unfold pathB
  rw [sibs_low (a := 0) (b := l.length) (i := 0) (by omega) (by rw [Nat.sub_zero]; omega), List.map_append]
  simp [partOf]
theorem pw_of_two {n k : Nat} (h1 : k < n) (h2 : n ≤ 2 * k) (h : ∃ j, k = 2 ^ j) : pw n = k := by
  obtain ⟨j, rfl⟩ := h
  have hn : 2 ≤ n := by have := Nat.one_le_two_pow (n := j); omega
  have key : ∀ i, i ≤ j → PwAt n (2 ^ i) := by
    intro i
    induction i with
    | zero => intro _; exact pwAt_1 hn
    | succ i ih =>
      intro hi
      have := ih (by omega)
      have h3 : 2 ^ (i + 1) ≤ 2 ^ j := Nat.pow_le_pow_right (by omega) hi
      rw [Nat.pow_succ, Nat.mul_comm] at h3 ⊢
      exact this.next (by omega)
  exact ((key j (Nat.le_refl _)).done h2).symm
theorem pw_pow {n : Nat} (h : 2 ≤ n) : ∃ j, pw n = 2 ^ j := by
  have key : ∀ f p, (∃ j, p = 2 ^ j) → ∃ j, pwF n f p = 2 ^ j := by
    intro f
    induction f with
    | zero => intro p h; exact h
    | succ f ih =>
      rintro p ⟨j, rfl⟩
      unfold pwF
      split
      · exact ih _ ⟨j + 1, by rw [Nat.pow_succ, Nat.mul_comm]⟩
      · exact ⟨j, rfl⟩
  exact key n 1 ⟨0, rfl⟩

/-! Two openings of one place that lead to one root: the first pairs that differ, or none. -/
theorem up_eq : ∀ (hs : List Bool) (p q : Pair) (xs ys : List (BitVec 64)), hs.length = xs.length → hs.length = ys.length →
    (∀ (k : Nat) (a b : Pair), (upP hs p xs)[k]? = some a → (upP hs q ys)[k]? = some b → joinP a = joinP b → a = b) → lastP hs p xs = lastP hs q ys → p = q ∧ xs = ys := by
  intro hs
  induction hs with
  | nil =>
    intro p q xs ys h1 h2 h h3
    obtain rfl := List.eq_nil_of_length_eq_zero (by simpa using h1.symm : xs.length = 0)
    obtain rfl := List.eq_nil_of_length_eq_zero (by simpa using h2.symm : ys.length = 0)
    exact ⟨h3, rfl⟩
  | cons a hs ih =>
    intro p q xs ys h1 h2 h h3
    cases xs with
    | nil => simp at h1
    | cons x xs =>
      cases ys with
      | nil => simp at h2
      | cons y ys =>
        have h4 := ih _ _ xs ys (by simpa using h1) (by simpa using h2) (fun k a b ha hb => h (k + 1) a b ha hb) h3
        obtain ⟨h5, rfl⟩ := h4
        have h6 : joinP p = joinP q ∧ x = y := by
          cases a <;> simp only [besideB, Prod.mk.injEq] at h5
          · exact h5
          · exact ⟨h5.2, h5.1⟩
        obtain ⟨h7, rfl⟩ := h6
        exact ⟨h 0 p q rfl rfl h7, rfl⟩
theorem zip_get {α β : Type} (l : List α) (m : List β) (k : Nat) (a : α) (b : β) (ha : l[k]? = some a) (hb : m[k]? = some b) : (a, b) ∈ l.zip m := by
  have : (l.zip m)[k]? = some (a, b) := by rw [List.getElem?_zip_eq_some]; exact ⟨ha, hb⟩
  exact List.mem_of_getElem? this
theorem binds (n i : Nat) (lp lq : BitVec 64) (pp pq : List (BitVec 64)) (h1 : pp.length = (aheads n i).length) (h2 : pq.length = (aheads n i).length)
    (h : ((pairsB n i lp pp).zip (pairsB n i lq pq)).find? hits = none) (hr : rootP n i lp pp = rootP n i lq pq) : lp = lq ∧ pp = pq := by
  have hn : ∀ (k : Nat) (a b : Pair), (pairsB n i lp pp)[k]? = some a → (pairsB n i lq pq)[k]? = some b → joinP a = joinP b → a = b := by
    intro k a b ha hb hj
    have := List.find?_eq_none.1 h _ (zip_get _ _ k a b ha hb)
    simp only [hits, Bool.and_eq_true, decide_eq_true_eq, not_and, ne_eq] at this
    by_cases e : a = b
    · exact e
    · exact absurd hj (this e)
  have hlp : (upP (aheads n i) (0#64, lp) pp).length = (aheads n i).length + 1 := upP_len _ _ _ h1.symm
  have hlq : (upP (aheads n i) (0#64, lq) pq).length = (aheads n i).length + 1 := upP_len _ _ _ h2.symm
  have g1 : ∀ (leaf : BitVec 64) (path : List (BitVec 64)), path.length = (aheads n i).length → (pairsB n i leaf path)[(aheads n i).length + 1]? = some (BitVec.ofNat 64 n, joinP (lastP (aheads n i) (0#64, leaf) path)) := by
    intro leaf path h
    have hl : (upP (aheads n i) (0#64, leaf) path).length = (aheads n i).length + 1 := upP_len _ _ _ h.symm
    unfold pairsB
    rw [List.getElem?_append_right (by omega), hl, Nat.sub_self]
    simp only [List.getElem?_cons_zero]
  have e1 := hn ((aheads n i).length + 1) _ _ (g1 lp pp h1) (g1 lq pq h2) hr
  have e2 : joinP (lastP (aheads n i) (0#64, lp) pp) = joinP (lastP (aheads n i) (0#64, lq) pq) := congrArg Prod.snd e1
  have e3 := hn (aheads n i).length _ _ (by unfold pairsB; rw [List.getElem?_append_left (by omega), upP_get _ _ _ _ h1.symm (Nat.le_refl _)]) (by unfold pairsB; rw [List.getElem?_append_left (by omega), upP_get _ _ _ _ h2.symm (Nat.le_refl _)]) (by
    rw [List.take_of_length_le (Nat.le_refl _), List.take_of_length_le (by omega), List.take_of_length_le (by omega)]; exact e2)
  rw [List.take_of_length_le (Nat.le_refl _), List.take_of_length_le (by omega), List.take_of_length_le (by omega)] at e3
  have e4 := up_eq (aheads n i) (0#64, lp) (0#64, lq) pp pq h1.symm h2.symm (fun k a b ha hb => hn k a b
    (by unfold pairsB; rw [List.getElem?_append_left (List.getElem?_eq_some_iff.1 ha).1]; exact ha) (by unfold pairsB; rw [List.getElem?_append_left (List.getElem?_eq_some_iff.1 hb).1]; exact hb)) e3
  obtain ⟨e5, e6⟩ := e4
  simp only [Prod.mk.injEq, true_and] at e5
  exact ⟨e5, e6⟩
end Go.Proofs.Ytagpinpelgkjcaa


import Derived.Test.YtffcnkkgbhhfnaaGreatDoorRx
import Derived.Lib.AtoiAllCases
import Derived.Lib.ItoaMem
import Derived.Lib.IndexMore
namespace Go.Proofs.YtffcnkkgbhhfnaaGreatDoor
open Go.RowKit Go.Instr
set_option linter.unusedVariables false

/-! Texts of fractions: what is read of them, by strconv and by the reference. -/
theorem dec_len : ∀ (k u : Nat), u < 10 ^ (k + 1) → Lib.nDigits u ≤ k + 1
  | 0, u, h => by rw [Lib.nDigits_small (by simpa using h)]; exact Nat.le_refl _
  | k + 1, u, h => by
    by_cases h1 : u < 10
    · rw [Lib.nDigits_small h1]; omega
    · rw [Lib.nDigits_big h1]
      have := dec_len k (u / 10) (by rw [Nat.pow_succ] at h; omega)
      omega
theorem dec_digit (u : Nat) : ∀ c ∈ Lib.decDigits u, 48 ≤ c.toNat ∧ c.toNat ≤ 57 := by
  induction u using Nat.strongRecOn with
  | _ u ih =>
    intro c hc
    rw [Lib.decDigits] at hc
    split at hc
    · next h =>
      obtain rfl : c = UInt8.ofNat (48 + u) := by simpa only [List.mem_singleton] using hc
      rw [UInt8.toNat_ofNat']; omega
    · next h =>
      simp only [List.mem_append, List.mem_singleton] at hc
      rcases hc with hc | rfl
      · exact ih (u / 10) (by omega) c hc
      · rw [UInt8.toNat_ofNat']; omega
theorem dec_small {u : Nat} (h : u < 10) : Lib.decDigits u = [UInt8.ofNat (48 + u)] := by rw [Lib.decDigits, dif_pos h]
theorem dec_big {u : Nat} (h : ¬ u < 10) : Lib.decDigits u = Lib.decDigits (u / 10) ++ [UInt8.ofNat (48 + u % 10)] := by rw [Lib.decDigits, dif_neg h]
theorem dig_nat (k : Nat) (h : k < 10) : (UInt8.ofNat (48 + k)).toNat = 48 + k := by rw [UInt8.toNat_ofNat']; omega
theorem dec_parse (u : Nat) (hu : u < 9223372036854775808) (rest : List UInt8) : Lib.parseUint10 0 (Lib.decDigits u ++ rest) = Lib.parseUint10 u rest := by
  induction u using Nat.strongRecOn generalizing rest with
  | _ u ih =>
    by_cases h : u < 10
    · rw [dec_small h]
      simp only [List.cons_append, List.nil_append, Lib.parseUint10]
      rw [dig_nat u h, if_pos (by omega), if_neg (by omega), if_neg (by omega)]
      congr 1; omega
    · rw [dec_big h, List.append_assoc, ih (u / 10) (by omega) (by omega)]
      simp only [List.cons_append, List.nil_append, Lib.parseUint10]
      rw [dig_nat _ (Nat.mod_lt _ (by omega)), if_pos (by omega), if_neg (by omega), if_neg (by omega)]
      congr 1; omega
theorem dec_ne (u : Nat) : Lib.decDigits u ≠ [] := by
  rw [Lib.decDigits]; split <;> simp
theorem dec_mag (u : Nat) (hu : u < 9223372036854775808) : Lib.parseMag (Lib.decDigits u) = .ok u := by
  unfold Lib.parseMag
  rw [if_neg (dec_ne u)]
  have := dec_parse u hu []
  rw [List.append_nil] at this
  rw [this]; rfl
theorem atoi_dec (u : Nat) (hu : u < 9223372036854775808) : Lib.atoiAll (Lib.decDigits u) = .ok (u : Int) := by
  obtain ⟨c, r, hc⟩ : ∃ c r, Lib.decDigits u = c :: r := by
    cases h : Lib.decDigits u with
    | nil => exact absurd h (dec_ne u)
    | cons c r => exact ⟨c, r, rfl⟩
  have hd := dec_digit u c (by rw [hc]; exact List.mem_cons_self ..)
  have hm := dec_mag u hu
  rw [hc] at hm ⊢
  rw [Lib.atoiAll_plain c r (by omega) (by omega), hm]
  simp only [Lib.signless]
  rw [if_neg (by omega)]
theorem atoi_itoa (n : Int) (h1 : -4611686018427387904 ≤ n) (h2 : n ≤ 4611686018427387904) : Lib.atoiAll (Lib.itoa n) = .ok n := by
  by_cases h : n < 0
  · obtain ⟨u, rfl⟩ : ∃ u : Nat, n = -(u : Int) := ⟨n.natAbs, by omega⟩
    rw [Lib.itoa_neg u (by omega), Lib.atoiAll_minus, dec_mag u (by omega)]
    simp only [Lib.signed]
    rw [if_neg (by omega)]
  · obtain ⟨u, rfl⟩ : ∃ u : Nat, n = u := ⟨n.toNat, by omega⟩
    rw [Lib.itoa_nonneg]
    exact atoi_dec u (by omega)
theorem itoa_no (n : Int) : ∀ c ∈ Lib.itoa n, c ≠ 47 := by
  intro c hc
  unfold Lib.itoa at hc
  split at hc
  · simp only [List.mem_cons] at hc
    rcases hc with rfl | hc
    · decide
    · have := dec_digit _ c hc
      rintro rfl; simp at this
  · have := dec_digit _ c hc
    rintro rfl; simp at this
theorem index_no : ∀ (l : List UInt8), (∀ c ∈ l, c ≠ 47) → Lib.index l [47] = -1
  | [], _ => rfl
  | c :: l, h => by
    have hc := h c (List.mem_cons_self ..)
    have ih := index_no l (fun x hx => h x (List.mem_cons_of_mem _ hx))
    unfold Lib.index
    rw [if_neg (by simp [List.isPrefixOf]; exact fun e => hc e.symm), ih]
    rfl
theorem index_at : ∀ (l r : List UInt8), (∀ c ∈ l, c ≠ 47) → Lib.index (l ++ 47 :: r) [47] = (l.length : Int)
  | [], r, _ => by simp [Lib.index, List.isPrefixOf]
  | c :: l, r, h => by
    have hc := h c (List.mem_cons_self ..)
    have ih := index_at l r (fun x hx => h x (List.mem_cons_of_mem _ hx))
    rw [List.cons_append]
    unfold Lib.index
    rw [if_neg (by simp [List.isPrefixOf]; exact fun e => hc e.symm), ih, if_neg (by simp)]
    rfl
theorem cut_no (l : List UInt8) (h : ∀ c ∈ l, c ≠ 47) : Lib.cut l [47] = (l, [], false) := by
  unfold Lib.cut; rw [index_no l h, if_neg (by decide)]
theorem cut_at (l r : List UInt8) (h : ∀ c ∈ l, c ≠ 47) : Lib.cut (l ++ 47 :: r) [47] = (l, r, true) := by
  unfold Lib.cut
  rw [index_at l r h, if_pos (by omega)]
  simp
theorem itoa_len (n : Int) (h1 : -4611686018427387904 ≤ n) (h2 : n ≤ 4611686018427387904) : (Lib.itoa n).length ≤ 20 := by
  unfold Lib.itoa
  split
  · rw [List.length_cons, Lib.decDigits_length]
    have := dec_len 18 n.natAbs (by omega)
    omega
  · rw [Lib.decDigits_length]
    have := dec_len 18 n.toNat (by omega)
    omega
/-- 'read' of the reference: fuel, the number so far, what is left, the place, the length of all. -/
def readG : Nat → Nat → List UInt8 → Nat → Nat → Nat × Nat
  | 0, n, _, i, _ => (n, i)
  | _ + 1, n, [], i, _ => (n, i)
  | k + 1, n, c :: r, i, len => if 48 ≤ c.toNat ∧ c.toNat ≤ 57 then (if 461168601842738790 < n then (0, len) else readG k (10 * n + (c.toNat - 48)) r (i + 1) len) else (n, i)
theorem readG_dec (u : Nat) (hu : u ≤ 4611686018427387904) (rest : List UInt8) (k i len : Nat) (hk : Lib.nDigits u ≤ k) : readG k 0 (Lib.decDigits u ++ rest) i len = readG (k - Lib.nDigits u) u rest (i + Lib.nDigits u) len := by
  induction u using Nat.strongRecOn generalizing rest k i with
  | _ u ih =>
    by_cases h : u < 10
    · rw [Lib.nDigits_small h] at hk ⊢
      obtain ⟨k, rfl⟩ : ∃ j, k = j + 1 := ⟨k - 1, by omega⟩
      rw [dec_small h]
      simp only [List.cons_append, List.nil_append, readG]
      rw [dig_nat u h, if_pos (by omega), if_neg (by omega)]
      simp
    · rw [Lib.nDigits_big h] at hk ⊢
      rw [dec_big h, List.append_assoc, ih (u / 10) (by omega) (by omega) _ _ _ (by omega)]
      obtain ⟨j, hj⟩ : ∃ j, k - Lib.nDigits (u / 10) = j + 1 := ⟨k - Lib.nDigits (u / 10) - 1, by omega⟩
      rw [hj]
      simp only [List.cons_append, List.nil_append, readG]
      rw [dig_nat _ (Nat.mod_lt _ (by omega)), if_pos (by omega), if_neg (by omega)]
      congr 1 <;> omega
theorem readG_end (k n i len : Nat) : readG k n [] i len = (n, i) := by cases k <;> rfl
theorem readG_stop (k n i len : Nat) (r : List UInt8) : readG k n (47 :: r) i len = (n, i) := by cases k <;> simp [readG]
theorem readG_bound : ∀ (k n : Nat) (l : List UInt8) (i len : Nat), n ≤ 4611686018427387909 → (readG k n l i len).1 ≤ 4611686018427387909
  | 0, n, l, i, len, h => by simpa [readG] using h
  | k + 1, n, [], i, len, h => by simpa [readG] using h
  | k + 1, n, c :: r, i, len, h => by
    simp only [readG]
    split
    · next hc =>
      split
      · simp
      · exact readG_bound k _ r _ _ (by omega)
    · exact h
/-- The text of a fraction by its parts. -/
theorem text_form (n d : Int) (h : Fr n d) : textL n d = (if n < 0 then [45] else []) ++ (Lib.decDigits n.natAbs ++ (if d = 1 then [] else 47 :: Lib.decDigits d.natAbs)) := by
  have hd := h.pos
  have e1 : Lib.itoa n = (if n < 0 then [45] else []) ++ Lib.decDigits n.natAbs := by
    unfold Lib.itoa
    split
    · rfl
    · rw [show n.toNat = n.natAbs by omega]; rfl
  have e2 : Lib.itoa d = Lib.decDigits d.natAbs := by
    unfold Lib.itoa
    rw [if_neg (by omega), show d.toNat = d.natAbs by omega]
  unfold textL
  rw [e1, e2]
  by_cases h1 : d = 1
  · rw [if_pos h1, if_pos h1, List.append_nil]
  · rw [if_neg h1, if_neg h1, List.append_assoc, List.append_assoc]; rfl
theorem text_len (n d : Int) (h : Fr n d) : (textL n d).length ≤ 40 := by
  have l1 := itoa_len n h.lo h.hi
  have l2 : (Lib.itoa d).length ≤ 19 := by
    unfold Lib.itoa
    rw [if_neg (by have := h.pos; omega), Lib.decDigits_length]
    have := dec_len 18 d.toNat (by have := h.le; omega)
    omega
  unfold textL
  split
  · omega
  · simp; omega
def psOf (s : List UInt8) : Int × Int × Int :=
  match Lib.atoiAll (Lib.cut s [47]).1, Lib.atoiAll (if (Lib.cut s [47]).2.2 = true then (Lib.cut s [47]).2.1 else [49]) with
  | .ok n, .ok d => if (validB n d && (textL n d == s)) = true then (n, d, 0) else (0, 0, 3)
  | _, _ => (0, 0, 3)
theorem text_parts (n d : Int) (h : Fr n d) : Lib.atoiAll (Lib.cut (textL n d) [47]).1 = .ok n ∧ Lib.atoiAll (if (Lib.cut (textL n d) [47]).2.2 = true then (Lib.cut (textL n d) [47]).2.1 else [49]) = .ok d := by
  unfold textL
  by_cases h1 : d = 1
  · rw [if_pos h1, cut_no _ (itoa_no n)]
    subst h1
    exact ⟨atoi_itoa n h.lo h.hi, rfl⟩
  · rw [if_neg h1, List.append_assoc, show [47] ++ Lib.itoa d = 47 :: Lib.itoa d from rfl, cut_at _ _ (itoa_no n)]
    exact ⟨atoi_itoa n h.lo h.hi, atoi_itoa d (by have := h.pos; omega) h.le⟩
theorem psOf_text (n d : Int) (h : Fr n d) : psOf (textL n d) = (n, d, 0) := by
  obtain ⟨h1, h2⟩ := text_parts n d h
  unfold psOf
  rw [h1, h2]
  simp only [(valid_iff n d).2 h, beq_self_eq_true, Bool.and_self, if_true]
theorem psOf_none (s : List UInt8) (h : ∀ n d, Fr n d → textL n d ≠ s) : psOf s = (0, 0, 3) := by
  unfold psOf
  split
  · next n d _ _ =>
    rw [if_neg]
    intro hc
    simp only [Bool.and_eq_true, beq_iff_eq] at hc
    exact h n d ((valid_iff n d).1 hc.1) hc.2
  · rfl
theorem ps_check (s : List UInt8) (n' d' : Int) (H : ∀ n d, Fr n d → textL n d = s → n' = n ∧ d' = d) : (if (validB n' d' && (textL n' d' == s)) = true then (n', d', (0 : Int)) else (0, 0, 3)) = psOf s := by
  by_cases h : ∃ n d, Fr n d ∧ textL n d = s
  · obtain ⟨n, d, h1, h2⟩ := h
    obtain ⟨rfl, rfl⟩ := H n d h1 h2
    rw [← h2, psOf_text n' d' h1]
    simp only [(valid_iff n' d').2 h1, beq_self_eq_true, Bool.and_self, if_true]
  · rw [psOf_none s (fun n d h1 h2 => h ⟨n, d, h1, h2⟩), if_neg]
    intro hc
    simp only [Bool.and_eq_true, beq_iff_eq] at hc
    exact h ⟨n', d', (valid_iff n' d').1 hc.1, hc.2⟩
theorem psOf_cases (s : List UInt8) : (∃ n d, Fr n d ∧ textL n d = s ∧ psOf s = (n, d, 0)) ∨ ((∀ n d, Fr n d → textL n d ≠ s) ∧ psOf s = (0, 0, 3)) := by
  by_cases h : ∃ n d, Fr n d ∧ textL n d = s
  · obtain ⟨n, d, h1, h2⟩ := h
    exact Or.inl ⟨n, d, h1, h2, by rw [← h2]; exact psOf_text n d h1⟩
  · exact Or.inr ⟨fun n d h1 h2 => h ⟨n, d, h1, h2⟩, psOf_none s (fun n d h1 h2 => h ⟨n, d, h1, h2⟩)⟩
def rdG (s : List UInt8) (i : Nat) : Nat × Nat := readG 19 0 (s.drop i) i s.length
def pI (s : List UInt8) : Nat := if s.head? = some 45 then 1 else 0
def pD (s : List UInt8) : Nat := if (rdG s (pI s)).2 < s.length then (rdG s ((rdG s (pI s)).2 + 1)).1 else 1
def pN (s : List UInt8) : Int := if pI s = 1 then -((rdG s (pI s)).1 : Int) else ((rdG s (pI s)).1 : Int)
theorem dec_cons (u : Nat) : ∃ c r, Lib.decDigits u = c :: r ∧ c.toNat ≠ 45 := by
  cases h : Lib.decDigits u with
  | nil => exact absurd h (dec_ne u)
  | cons c r => exact ⟨c, r, rfl, by have := dec_digit u c (by rw [h]; exact List.mem_cons_self ..); omega⟩
theorem ref_parts (n d : Int) (h : Fr n d) : pN (textL n d) = n ∧ (pD (textL n d) : Int) = d := by
  have hf := text_form n d h
  obtain ⟨sg, hsg⟩ : ∃ sg : List UInt8, (if n < 0 then [45] else []) = sg := ⟨_, rfl⟩
  obtain ⟨rs, hrs⟩ : ∃ rs : List UInt8, (if d = 1 then [] else 47 :: Lib.decDigits d.natAbs) = rs := ⟨_, rfl⟩
  obtain ⟨u, hu⟩ : ∃ u, n.natAbs = u := ⟨_, rfl⟩
  have hub : u ≤ 4611686018427387904 := by have := h.lo; have := h.hi; omega
  have hnd := dec_len 18 u (by omega)
  have hdb : d.natAbs ≤ 4611686018427387904 := by have := h.pos; have := h.le; omega
  have hdd := dec_len 18 d.natAbs (by omega)
  rw [hsg, hrs, hu] at hf
  obtain ⟨S, hS⟩ : ∃ S, textL n d = S := ⟨_, rfl⟩
  rw [hS] at hf ⊢
  have hI : pI S = sg.length ∧ (sg.length = 1 ↔ n < 0) := by
    by_cases hn : n < 0
    · rw [if_pos hn] at hsg
      rw [hf, ← hsg]
      exact ⟨rfl, by simp [hn]⟩
    · rw [if_neg hn] at hsg
      obtain ⟨c, r, hc, hc2⟩ := dec_cons u
      rw [hf, ← hsg, hc]
      refine ⟨?_, by simp [hn]⟩
      unfold pI
      rw [if_neg]
      · rfl
      · simp; rintro rfl; exact hc2 rfl
  obtain ⟨hI, hI2⟩ := hI
  have hlen : S.length = sg.length + (Lib.nDigits u + rs.length) := by rw [hf]; simp [Lib.decDigits_length]
  have hr1 : rdG S (pI S) = (u, sg.length + Lib.nDigits u) := by
    unfold rdG
    rw [hI]
    have : S.drop sg.length = Lib.decDigits u ++ rs := by rw [hf]; simp
    rw [this, readG_dec u hub rs 19 _ _ (by omega)]
    by_cases hd : d = 1
    · rw [if_pos hd] at hrs; rw [← hrs, readG_end]
    · rw [if_neg hd] at hrs; rw [← hrs, readG_stop]
  constructor
  · unfold pN
    rw [hr1, hI]
    by_cases hn : n < 0
    · rw [if_pos (hI2.2 hn)]; simp only; omega
    · rw [if_neg (fun e => hn (hI2.1 e))]; simp only; omega
  · unfold pD
    rw [hr1]
    simp only
    by_cases hd : d = 1
    · rw [if_pos hd] at hrs
      rw [if_neg (by rw [hlen, ← hrs]; simp)]
      omega
    · rw [if_neg hd] at hrs
      rw [if_pos (by rw [hlen, ← hrs]; simp)]
      unfold rdG
      have : S.drop (sg.length + Lib.nDigits u + 1) = Lib.decDigits d.natAbs := by
        rw [hf, ← hrs]
        rw [show sg.length + Lib.nDigits u + 1 = sg.length + ((Lib.decDigits u).length + 1) by rw [Lib.decDigits_length]; omega]
        rw [List.drop_append, List.drop_eq_nil_of_le (by omega), List.nil_append, show sg.length + ((Lib.decDigits u).length + 1) - sg.length = (Lib.decDigits u).length + 1 by omega]
        rw [List.drop_append, List.drop_eq_nil_of_le (by omega)]
        simp
      rw [this]
      have h2 := readG_dec d.natAbs hdb [] 19 (sg.length + Lib.nDigits u + 1) S.length (by omega)
      rw [List.append_nil] at h2
      rw [h2, readG_end]
      have := h.pos
      simp only
      omega
theorem rdG_bound (s : List UInt8) (i : Nat) : (rdG s i).1 ≤ 4611686018427387909 := readG_bound 19 0 _ _ _ (by omega)
theorem pD_bound (s : List UInt8) : pD s ≤ 4611686018427387909 := by unfold pD; split; exact rdG_bound _ _; omega
theorem pN_bound (s : List UInt8) : -4611686018427387909 ≤ pN s ∧ pN s ≤ 4611686018427387909 := by
  have := rdG_bound s (pI s)
  unfold pN; split <;> omega
theorem ref_check (s : List UInt8) : (if (validB (pN s) (pD s) && (textL (pN s) (pD s) == s)) = true then (pN s, (pD s : Int), (0 : Int)) else (0, 0, 3)) = psOf s :=
  ps_check s _ _ (fun n d h1 h2 => by rw [← h2]; exact ref_parts n d h1)
end Go.Proofs.YtffcnkkgbhhfnaaGreatDoor

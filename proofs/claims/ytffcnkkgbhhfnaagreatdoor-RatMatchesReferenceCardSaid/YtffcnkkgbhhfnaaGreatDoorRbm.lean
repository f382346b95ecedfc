import Derived.Test.YtffcnkkgbhhfnaaGreatDoorRtr
namespace Go.Proofs.YtffcnkkgbhhfnaaGreatDoor
open Go.RowKit Go.Instr
set_option linter.unusedVariables false

/-! Numbers as lists of bits, the least first. -/
def vl : List Nat → Nat
  | [] => 0
  | x :: r => x + 2 * vl r
def Bit (l : List Nat) : Prop := ∀ x ∈ l, x ≤ 1
def bitsN (n : Nat) : List Nat := if h : n = 0 then [] else n % 2 :: bitsN (n / 2)
termination_by n
decreasing_by omega
theorem bitsN_zero : bitsN 0 = [] := by rw [bitsN]; rfl
theorem bitsN_pos {n : Nat} (h : n ≠ 0) : bitsN n = n % 2 :: bitsN (n / 2) := by rw [bitsN, dif_neg h]
theorem vl_bitsN (n : Nat) : vl (bitsN n) = n := by
  induction n using Nat.strongRecOn with
  | _ n ih =>
    by_cases h : n = 0
    · subst h; rw [bitsN_zero]; rfl
    · rw [bitsN_pos h, vl, ih (n / 2) (by omega)]; omega
theorem bit_bitsN (n : Nat) : Bit (bitsN n) := by
  induction n using Nat.strongRecOn with
  | _ n ih =>
    by_cases h : n = 0
    · subst h; rw [bitsN_zero]; intro x hx; cases hx
    · rw [bitsN_pos h]
      intro x hx
      rcases List.mem_cons.1 hx with rfl | hx
      · omega
      · exact ih (n / 2) (by omega) x hx
theorem bitsN_len : ∀ (k n : Nat), n < 2 ^ k → (bitsN n).length ≤ k
  | 0, n, h => by obtain rfl : n = 0 := by simpa using h
                  rw [bitsN_zero]; exact Nat.le_refl _
  | k + 1, n, h => by
    by_cases h0 : n = 0
    · subst h0; rw [bitsN_zero]; exact Nat.zero_le _
    · rw [bitsN_pos h0, List.length_cons]
      have := bitsN_len k (n / 2) (by rw [Nat.pow_succ] at h; omega)
      omega
theorem bitsN_nil {n : Nat} : bitsN n = [] ↔ n = 0 := by
  constructor
  · intro h; rw [← vl_bitsN n, h]; rfl
  · rintro rfl; exact bitsN_zero
theorem vl_append : ∀ (a b : List Nat), vl (a ++ b) = vl a + 2 ^ a.length * vl b
  | [], b => by simp [vl]
  | x :: a, b => by
    rw [List.cons_append, vl, vl, vl_append a b, List.length_cons, Nat.pow_succ, Nat.mul_add, ← Nat.mul_assoc, Nat.mul_comm 2 (2 ^ a.length)]
    omega
theorem vl_lt : ∀ (l : List Nat), Bit l → vl l < 2 ^ l.length
  | [], _ => by simp [vl]
  | x :: r, h => by
    have h1 := h x (List.mem_cons_self ..)
    have h2 := vl_lt r (fun y hy => h y (List.mem_cons_of_mem _ hy))
    rw [vl, List.length_cons, Nat.pow_succ]; omega
theorem Bit.take {l : List Nat} (h : Bit l) (k : Nat) : Bit (l.take k) := fun x hx => h x (List.mem_of_mem_take hx)
theorem Bit.drop {l : List Nat} (h : Bit l) (k : Nat) : Bit (l.drop k) := fun x hx => h x (List.mem_of_mem_drop hx)
theorem Bit.snoc {l : List Nat} (h : Bit l) {x : Nat} (hx : x ≤ 1) : Bit (l ++ [x]) := by
  intro y hy
  rcases List.mem_append.1 hy with hy | hy
  · exact h y hy
  · simp at hy; omega
theorem Bit.at {l : List Nat} (h : Bit l) (k : Nat) : l.getD k 0 ≤ 1 := by
  rw [List.getD_eq_getElem?_getD]
  cases hk : l[k]? with
  | none => simp
  | some x => exact h x (List.mem_of_getElem? hk)
theorem vl_snoc (l : List Nat) (x : Nat) : vl (l ++ [x]) = vl l + 2 ^ l.length * x := by rw [vl_append]; simp [vl]
/-- One more element of a beginning. -/
theorem vl_take (l : List Nat) (k : Nat) : vl (l.take (k + 1)) = vl (l.take k) + 2 ^ k * l.getD k 0 := by
  rcases Nat.lt_or_ge k l.length with h | h
  · rw [List.take_succ_eq_append_getElem h, vl_snoc, List.length_take, Nat.min_eq_left (by omega), List.getD_eq_getElem?_getD, List.getElem?_eq_getElem h]; rfl
  · rw [List.take_of_length_le (by omega), List.take_of_length_le h, List.getD_eq_getElem?_getD, List.getElem?_eq_none h]; simp
theorem vl_all (l : List Nat) (k : Nat) (h : l.length ≤ k) : vl (l.take k) = vl l := by rw [List.take_of_length_le h]
theorem vl_drop (l : List Nat) (k : Nat) : vl (l.drop k) = l.getD k 0 + 2 * vl (l.drop (k + 1)) := by
  rcases Nat.lt_or_ge k l.length with h | h
  · rw [List.drop_eq_getElem_cons h, vl, List.getD_eq_getElem?_getD, List.getElem?_eq_getElem h]; rfl
  · rw [List.drop_eq_nil_of_le h, List.drop_eq_nil_of_le (by omega), List.getD_eq_getElem?_getD, List.getElem?_eq_none h]; simp [vl]
theorem vl_split (l : List Nat) (k : Nat) (h : k ≤ l.length) : vl l = vl (l.take k) + 2 ^ k * vl (l.drop k) := by
  have := vl_append (l.take k) (l.drop k)
  rw [List.take_append_drop, List.length_take, Nat.min_eq_left h] at this
  exact this
/-- What is left when zeros at the end are cut off. -/
theorem cut_form (l : List Nat) (hb : Bit l) (n : Nat) (hn : n ≤ l.length) (hz : ∀ j, n ≤ j → l.getD j 0 = 0) (ht : n = 0 ∨ l.getD (n - 1) 0 ≠ 0) : l.take n = bitsN (vl l) := by
  have hd : ∀ (m : List Nat), (∀ j, m.getD j 0 = 0) → vl m = 0 := by
    intro m
    induction m with
    | nil => intro _; rfl
    | cons x r ih =>
      intro h
      have h0 := h 0
      simp at h0
      have := ih (fun j => by have := h (j + 1); simpa using this)
      rw [vl, this, h0]
  have hv : vl (l.take n) = vl l := by
    have h1 := vl_split l n hn
    rw [hd (l.drop n) (fun j => by have := hz (n + j) (by omega); rw [List.getD_eq_getElem?_getD] at this ⊢; rw [List.getElem?_drop]; exact this)] at h1
    omega
  rw [← hv]
  have key : ∀ (m : List Nat), Bit m → (m = [] ∨ m.getLast? = some 1) → m = bitsN (vl m) := by
    intro m
    induction m with
    | nil => intro _ _; rw [vl, bitsN_zero]
    | cons x r ih =>
      intro hb hl
      have hx := hb x (List.mem_cons_self ..)
      have hr : Bit r := fun y hy => hb y (List.mem_cons_of_mem _ hy)
      by_cases hr0 : r = []
      · subst hr0
        have : x = 1 := by rcases hl with h | h; cases h; simpa using h
        subst this
        rw [bitsN_pos (by simp [vl])]
        simp [vl, bitsN_zero]
      · have hl2 : r.getLast? = some 1 := by
          rcases hl with h | h
          · cases h
          · rw [List.getLast?_cons] at h
            cases hrl : r.getLast? with
            | none => exact absurd (List.getLast?_eq_none_iff.1 hrl) hr0
            | some y => rw [hrl] at h; simpa using h
        have e := ih hr (Or.inr hl2)
        have hpos : vl r ≠ 0 := by intro h0; rw [h0, bitsN_zero] at e; exact hr0 e
        rw [vl, bitsN_pos (by omega), show (x + 2 * vl r) % 2 = x by omega, show (x + 2 * vl r) / 2 = vl r by omega, ← e]
  refine key _ (hb.take n) ?_
  rcases ht with h | h
  · left; rw [h, List.take_zero]
  · by_cases h0 : n = 0
    · left; rw [h0, List.take_zero]
    · right
      have hlt : n - 1 < l.length := by omega
      have h1 := hb.at (n - 1)
      rw [show n = (n - 1) + 1 by omega, List.take_succ_eq_append_getElem hlt, List.getLast?_append]
      rw [List.getD_eq_getElem?_getD, List.getElem?_eq_getElem hlt] at h h1
      simp at h h1 ⊢
      omega
/-- Sums. -/
theorem plus_step {A B o k c x y : Nat} (h : o + 2 ^ k * c = A + B) : (o + 2 ^ k * ((x + y + c) % 2)) + 2 ^ (k + 1) * ((x + y + c) / 2) = (A + 2 ^ k * x) + (B + 2 ^ k * y) := by
  have e : (x + y + c) % 2 + 2 * ((x + y + c) / 2) = x + y + c := Nat.mod_add_div _ _
  have : 2 ^ k * ((x + y + c) % 2) + 2 ^ (k + 1) * ((x + y + c) / 2) = 2 ^ k * (x + y + c) := by
    rw [Nat.pow_succ, Nat.mul_assoc, ← Nat.mul_add, e]
  rw [Nat.mul_add, Nat.mul_add] at this
  omega
/-- Differences: s + 2 is taken where s is negative. -/
theorem minus_step {A B o k b x y s b' : Nat} (h : o + B = A + 2 ^ k * b) (e : x + 2 * b' = s + y + b) : (o + 2 ^ k * s) + (B + 2 ^ k * y) = (A + 2 ^ k * x) + 2 ^ (k + 1) * b' := by
  have : 2 ^ k * x + 2 ^ (k + 1) * b' = 2 ^ k * s + 2 ^ k * y + 2 ^ k * b := by
    rw [Nat.pow_succ, Nat.mul_assoc, ← Nat.mul_add, e, Nat.mul_add, Nat.mul_add]
  omega
theorem minus_end (a b o : List Nat) (ha : Bit a) (ho : Bit o) (hl : o.length = a.length) (hle : vl b ≤ vl a) {c : Nat} (h : vl o + vl (b.take a.length) = vl a + 2 ^ a.length * c) : vl o = vl a - vl b := by
  have l1 := vl_lt a ha
  have l2 := vl_lt o ho
  rw [hl] at l2
  have hb : vl (b.take a.length) = vl b := by
    rcases Nat.lt_or_ge b.length a.length with h1 | h1
    · exact vl_all b _ (by omega)
    · have h2 := vl_split b a.length h1
      have : vl (b.drop a.length) = 0 := by
        rcases Nat.eq_zero_or_pos (vl (b.drop a.length)) with h3 | h3
        · exact h3
        · have := Nat.mul_le_mul_left (2 ^ a.length) h3
          omega
      rw [this] at h2
      omega
  rw [hb] at h
  rcases Nat.eq_zero_or_pos c with hc | hc
  · subst hc; omega
  · have := Nat.mul_le_mul_left (2 ^ a.length) hc
    omega
/-- Comparisons. -/
theorem vl_ext : ∀ (a b : List Nat), (∀ j, a.getD j 0 = b.getD j 0) → vl a = vl b
  | [], b, h => by
    have hd : ∀ (m : List Nat), (∀ j, m.getD j 0 = 0) → vl m = 0 := by
      intro m
      induction m with
      | nil => intro _; rfl
      | cons x r ih =>
        intro h
        have h0 := h 0
        simp at h0
        have := ih (fun j => by have := h (j + 1); simpa using this)
        rw [vl, this, h0]
    rw [hd b (fun j => by have := h j; simpa using this.symm)]; rfl
  | x :: a, b, h => by
    have h0 := h 0
    have ht := vl_ext a (b.drop 1) (fun j => by have := h (j + 1); rw [List.getD_eq_getElem?_getD, List.getD_eq_getElem?_getD] at this ⊢; rw [List.getElem?_drop, Nat.add_comm 1 j]; simpa using this)
    have hb := vl_drop b 0
    rw [List.drop_zero] at hb
    rw [hb, vl, ht, ← h0]; rfl
theorem vl_ext_drop (a b : List Nat) (k : Nat) (h : ∀ j, k ≤ j → a.getD j 0 = b.getD j 0) : vl (a.drop k) = vl (b.drop k) :=
  vl_ext _ _ (fun j => by
    have := h (k + j) (by omega)
    rw [List.getD_eq_getElem?_getD, List.getD_eq_getElem?_getD] at this ⊢
    rw [List.getElem?_drop, List.getElem?_drop]; exact this)
theorem vl_pad (l : List Nat) (k : Nat) : vl l = vl (l.take k) + 2 ^ k * vl (l.drop k) := by
  rcases Nat.lt_or_ge l.length k with h | h
  · rw [List.take_of_length_le (by omega), List.drop_eq_nil_of_le (by omega)]; simp [vl]
  · exact vl_split l k h
theorem take_lt (l : List Nat) (hb : Bit l) (k : Nat) : vl (l.take k) < 2 ^ k := by
  have h1 := vl_lt _ (hb.take k)
  rw [List.length_take] at h1
  exact Nat.lt_of_lt_of_le h1 (Nat.pow_le_pow_right (by omega) (Nat.min_le_left ..))
theorem cmp_hi (a b : List Nat) (hb : Bit b) (k : Nat) (h : ∀ j, k + 1 ≤ j → a.getD j 0 = b.getD j 0) (h1 : a.getD k 0 = 1) (h2 : b.getD k 0 = 0) : vl b < vl a := by
  have e := vl_ext_drop a b (k + 1) h
  have ea := vl_pad a k
  have eb := vl_pad b k
  rw [vl_drop, h1] at ea
  rw [vl_drop, h2] at eb
  have l := take_lt b hb k
  rw [ea, eb, e, Nat.mul_add, Nat.mul_add, Nat.mul_one]
  omega
/-- Products. -/
theorem times_step {o A s k x : Nat} {l : List Nat} (ho : o = A * vl (l.take k)) (hs : s = 2 ^ k * A) (hx : l.getD k 0 = x) : o + s * x = A * vl (l.take (k + 1)) := by
  rw [vl_take, hx, Nat.mul_add, ho, hs, Nat.mul_comm (2 ^ k) A, Nat.mul_assoc]
/-- Quotients. -/
theorem div_step {A Q r m x : Nat} (h : A = m * Q + r) (hr : r < m) (hx : x ≤ 1) : (if m ≤ 2 * r + x then 2 * r + x - m else 2 * r + x) < m ∧ x + 2 * A = m * ((if m ≤ 2 * r + x then 1 else 0) + 2 * Q) + (if m ≤ 2 * r + x then 2 * r + x - m else 2 * r + x) := by
  have e : m * (2 * Q) = 2 * (m * Q) := by rw [← Nat.mul_assoc, Nat.mul_comm m 2, Nat.mul_assoc]
  by_cases hc : m ≤ 2 * r + x
  · rw [if_pos hc, if_pos hc, Nat.mul_add, e]; omega
  · rw [if_neg hc, if_neg hc, Nat.mul_add, e]; omega
theorem div_end {A Q r m : Nat} (h : A = m * Q + r) (hr : r < m) : Q = A / m ∧ r = A % m := by
  constructor
  · rw [h, Nat.mul_add_div (by omega), Nat.div_eq_of_lt hr]; rfl
  · rw [h, Nat.mul_add_mod, Nat.mod_eq_of_lt hr]
end Go.Proofs.YtffcnkkgbhhfnaaGreatDoor

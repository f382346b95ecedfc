import Derived.Test.YtchmiaeajkpijaaRows
namespace Go.Proofs.Ytchmiaeajkpijaa
set_option linter.unusedVariables false

/-! The mathematics of merkle: digests of pairs, greatest powers, tops, siblings, pairs. -/
def foldB (n : Nat) (x : BitVec 64) : BitVec 64 := x ^^^ (x >>> n)
def c1 : BitVec 64 := 0x9E3779B97F4A7C15#64
def c2 : BitVec 64 := 0xBF58476D1CE4E5B9#64
def c5 : BitVec 64 := 0xA4093822299F31D0#64
def stepB (h w : BitVec 64) : BitVec 64 := foldB 32 (foldB 29 ((h ^^^ w) * c1) * c2)
def joinB (a b : BitVec 64) : BitVec 64 := stepB (stepB c5 a) b

/-! The greatest power of 2 below n. -/
/-- p doubled until it is no longer less than n - p. -/
def pwF (n : Nat) : Nat → Nat → Nat
  | 0, p => p
  | f + 1, p => if 2 * p < n then pwF n f (2 * p) else p
def pw (n : Nat) : Nat := pwF n n 1
theorem pwF_bd (n : Nat) : ∀ f p, 1 ≤ p → p < n → n ≤ p + f → 1 ≤ pwF n f p ∧ pwF n f p < n ∧ n ≤ 2 * pwF n f p := by
  intro f
  induction f with
  | zero => intro p h1 h2 h3; omega
  | succ f ih =>
    intro p h1 h2 h3
    unfold pwF
    by_cases h : 2 * p < n
    · rw [if_pos h]; exact ih (2 * p) (by omega) h (by omega)
    · rw [if_neg h]; exact ⟨h1, h2, by omega⟩
theorem pw_bd {n : Nat} (h : 2 ≤ n) : 1 ≤ pw n ∧ pw n < n ∧ n ≤ 2 * pw n := pwF_bd n n 1 (by omega) (by omega) (by omega)
theorem pwF_fuel (n : Nat) : ∀ f g p, 1 ≤ p → n ≤ p + f → n ≤ p + g → pwF n f p = pwF n g p := by
  intro f
  induction f with
  | zero =>
    intro g p h1 h2 h3
    cases g with
    | zero => rfl
    | succ g => simp [pwF]; omega
  | succ f ih =>
    intro g p h1 h2 h3
    cases g with
    | zero => simp [pwF]; omega
    | succ g =>
      simp only [pwF]
      by_cases h : 2 * p < n
      · rw [if_pos h, if_pos h]; exact ih g (2 * p) (by omega) (by omega) (by omega)
      · rw [if_neg h, if_neg h]
/-- The state of the loop: where it goes on, and where it ends. -/
def PwAt (n p : Nat) : Prop := 1 ≤ p ∧ (p < n) ∧ pwF n n p = pw n
theorem pwAt_1 {n : Nat} (h : 2 ≤ n) : PwAt n 1 := ⟨by omega, by omega, rfl⟩
theorem PwAt.next {n p : Nat} (h : PwAt n p) (hlt : 2 * p < n) : PwAt n (2 * p) := by
  obtain ⟨h1, h2, h3⟩ := h
  refine ⟨by omega, hlt, ?_⟩
  rw [← h3, pwF_fuel n n (n - 1 + 1) p h1 (by omega) (by omega), pwF, if_pos hlt, pwF_fuel n n (n - 1) (2 * p) (by omega) (by omega) (by omega)]
theorem PwAt.done {n p : Nat} (h : PwAt n p) (hge : n ≤ 2 * p) : p = pw n := by
  obtain ⟨h1, h2, h3⟩ := h
  rw [← h3, pwF_fuel n n (n - 1 + 1) p h1 (by omega) (by omega), pwF, if_neg (by omega)]

/-! Tops. -/
def topF : Nat → List (BitVec 64) → BitVec 64
  | 0, _ => 0#64
  | f + 1, l => match l with
    | [] => 0#64
    | [x] => joinB 0#64 x
    | l => joinB (topF f (l.take (pw l.length))) (topF f (l.drop (pw l.length)))
def topB (l : List (BitVec 64)) : BitVec 64 := topF l.length l
theorem topF_fuel : ∀ f g (l : List (BitVec 64)), l.length ≤ f → l.length ≤ g → topF f l = topF g l := by
  intro f
  induction f with
  | zero =>
    intro g l h1 h2
    obtain rfl := List.eq_nil_of_length_eq_zero (by omega : l.length = 0)
    cases g <;> rfl
  | succ f ih =>
    intro g l h1 h2
    cases g with
    | zero =>
      obtain rfl := List.eq_nil_of_length_eq_zero (by omega : l.length = 0)
      rfl
    | succ g =>
      match l with
      | [] => rfl
      | [x] => rfl
      | x :: y :: l =>
        have hp := pw_bd (n := (x :: y :: l).length) (by simp)
        have e1 := ih g ((x :: y :: l).take (pw (x :: y :: l).length)) (by rw [List.length_take]; omega) (by rw [List.length_take]; omega)
        have e2 := ih g ((x :: y :: l).drop (pw (x :: y :: l).length)) (by rw [List.length_drop]; omega) (by rw [List.length_drop]; omega)
        simp only [topF, e1, e2]
theorem topB_nil : topB [] = 0#64 := rfl
theorem topB_one (x : BitVec 64) : topB [x] = joinB 0#64 x := rfl
theorem topB_two {l : List (BitVec 64)} (h : 2 ≤ l.length) : topB l = joinB (topB (l.take (pw l.length))) (topB (l.drop (pw l.length))) := by
  have hp := pw_bd h
  unfold topB
  rw [topF_fuel l.length (l.length - 1 + 1) l (by omega) (by omega)]
  rw [topF_fuel (l.take (pw l.length)).length (l.length - 1) (l.take (pw l.length)) (by omega) (by rw [List.length_take]; omega)]
  rw [topF_fuel (l.drop (pw l.length)).length (l.length - 1) (l.drop (pw l.length)) (by omega) (by rw [List.length_drop]; omega)]
  match l, h with
  | x :: y :: l, _ => rfl
def rootB (l : List (BitVec 64)) : BitVec 64 := joinB (BitVec.ofNat 64 l.length) (topB l)

/-! The siblings of a place. -/
structure Sib where
  lo : Nat
  hi : Nat
  ahead : Bool
def sibF : Nat → Nat → Nat → Nat → List Sib
  | 0, _, _, _ => []
  | f + 1, a, b, i => if b - a ≤ 1 then [] else if i < a + pw (b - a) then sibF f a (a + pw (b - a)) i ++ [⟨a + pw (b - a), b, false⟩] else sibF f (a + pw (b - a)) b i ++ [⟨a, a + pw (b - a), true⟩]
def sibs (a b i : Nat) : List Sib := sibF (b - a) a b i
theorem sibF_fuel : ∀ f g a b i, b - a ≤ f → b - a ≤ g → sibF f a b i = sibF g a b i := by
  intro f
  induction f with
  | zero =>
    intro g a b i h1 h2
    cases g with
    | zero => rfl
    | succ g => simp [sibF]; omega
  | succ f ih =>
    intro g a b i h1 h2
    cases g with
    | zero => simp [sibF]; omega
    | succ g =>
      simp only [sibF]
      by_cases h : b - a ≤ 1
      · rw [if_pos h, if_pos h]
      · have hp := pw_bd (n := b - a) (by omega)
        rw [if_neg h, if_neg h, ih g a (a + pw (b - a)) i (by omega) (by omega), ih g (a + pw (b - a)) b i (by omega) (by omega)]
theorem sibs_one {a b : Nat} (i : Nat) (h : b - a ≤ 1) : sibs a b i = [] := by
  unfold sibs
  rw [sibF_fuel (b - a) (0 + 1) a b i (by omega) (by omega), sibF, if_pos h]
theorem sibs_two {a b : Nat} (i : Nat) (h : 2 ≤ b - a) : sibs a b i = if i < a + pw (b - a) then sibs a (a + pw (b - a)) i ++ [⟨a + pw (b - a), b, false⟩] else sibs (a + pw (b - a)) b i ++ [⟨a, a + pw (b - a), true⟩] := by
  have hp := pw_bd h
  unfold sibs
  rw [sibF_fuel (b - a) (b - a - 1 + 1) a b i (by omega) (by omega), sibF, if_neg (by omega)]
  rw [sibF_fuel (a + pw (b - a) - a) (b - a - 1) a _ i (by omega) (by omega), sibF_fuel (b - (a + pw (b - a))) (b - a - 1) _ b i (by omega) (by omega)]
theorem sibs_low {a b i : Nat} (h : 2 ≤ b - a) (hi : i < a + pw (b - a)) : sibs a b i = sibs a (a + pw (b - a)) i ++ [⟨a + pw (b - a), b, false⟩] := by rw [sibs_two i h, if_pos hi]
theorem sibs_high {a b i : Nat} (h : 2 ≤ b - a) (hi : ¬ i < a + pw (b - a)) : sibs a b i = sibs (a + pw (b - a)) b i ++ [⟨a, a + pw (b - a), true⟩] := by rw [sibs_two i h, if_neg hi]
/-- Each sibling lies within. -/
theorem sibs_in : ∀ f a b i, b - a ≤ f → a ≤ i → i < b → ∀ s ∈ sibs a b i, a ≤ s.lo ∧ s.lo < s.hi ∧ s.hi ≤ b := by
  intro f
  induction f with
  | zero => intro a b i h h1 h2; omega
  | succ f ih =>
    intro a b i h h1 h2 s hs
    by_cases h3 : b - a ≤ 1
    · rw [sibs_one i h3] at hs; cases hs
    · have hp := pw_bd (n := b - a) (by omega)
      by_cases h4 : i < a + pw (b - a)
      · rw [sibs_low (by omega) h4] at hs
        rcases List.mem_append.1 hs with hs | hs
        · have := ih a (a + pw (b - a)) i (by omega) h1 h4 s hs; omega
        · obtain rfl := List.mem_singleton.1 hs
          simp only; omega
      · rw [sibs_high (by omega) h4] at hs
        rcases List.mem_append.1 hs with hs | hs
        · have := ih (a + pw (b - a)) b i (by omega) (by omega) h2 s hs; omega
        · obtain rfl := List.mem_singleton.1 hs
          simp only; omega
/-- A path of n places has no more elements than the digits of n - 1. -/
theorem sibs_len : ∀ k a b i, b - a ≤ 2 ^ k → (sibs a b i).length ≤ k := by
  intro k
  induction k with
  | zero => intro a b i h; rw [sibs_one i (by simpa using h)]; simp
  | succ k ih =>
    intro a b i h
    by_cases h3 : b - a ≤ 1
    · rw [sibs_one i h3]; simp
    · have hp := pw_bd (n := b - a) (by omega)
      have hp2 : pw (b - a) ≤ 2 ^ k := by
        have key : ∀ f p, (∃ j, p = 2 ^ j) → 1 ≤ p → p < b - a → p ≤ 2 ^ k → pwF (b - a) f p ≤ 2 ^ k := by
          intro f
          induction f with
          | zero => intro p _ _ _ h; exact h
          | succ f ih2 =>
            rintro p ⟨j, rfl⟩ h1 h2 h4
            unfold pwF
            by_cases h5 : 2 * 2 ^ j < b - a
            · rw [if_pos h5]
              have h6 : 2 ^ (j + 1) < 2 ^ (k + 1) := by rw [Nat.pow_succ]; omega
              have h7 : j + 1 < k + 1 := (Nat.pow_lt_pow_iff_right (by omega)).1 h6
              refine ih2 _ ⟨j + 1, by rw [Nat.pow_succ]; omega⟩ (by omega) h5 ?_
              rw [show 2 * 2 ^ j = 2 ^ (j + 1) by rw [Nat.pow_succ]; omega]
              exact Nat.pow_le_pow_right (by omega) (by omega)
            · rw [if_neg h5]; exact h4
        exact key _ 1 ⟨0, rfl⟩ (by omega) (by omega) Nat.one_le_two_pow
      rw [Nat.pow_succ] at h
      by_cases h4 : i < a + pw (b - a)
      · rw [sibs_low (by omega) h4]
        have := ih a (a + pw (b - a)) i (by omega)
        simp; omega
      · rw [sibs_high (by omega) h4]
        have := ih (a + pw (b - a)) b i (by omega)
        simp; omega
theorem sibs_len12 {n : Nat} (i : Nat) (h : n ≤ 4096) : (sibs 0 n i).length ≤ 12 := sibs_len 12 0 n i (by omega)

/-! Paths. -/
def partOf (l : List (BitVec 64)) (s : Sib) : List (BitVec 64) := (l.take s.hi).drop s.lo
def pathB (l : List (BitVec 64)) (i : Nat) : List (BitVec 64) := (sibs 0 l.length i).map fun s => topB (partOf l s)

/-! The pairs of an opening. -/
abbrev Pair := BitVec 64 × BitVec 64
def joinP (p : Pair) : BitVec 64 := joinB p.1 p.2
def besideB (top other : BitVec 64) : Bool → Pair
  | true => (other, top)
  | false => (top, other)
/-- The pairs on the way up, the last top's pair hs the last. -/
def upP : List Bool → Pair → List (BitVec 64) → List Pair
  | a :: hs, p, x :: xs => p :: upP hs (besideB (joinP p) x a) xs
  | _, p, _ => [p]
def lastP : List Bool → Pair → List (BitVec 64) → Pair
  | a :: hs, p, x :: xs => lastP hs (besideB (joinP p) x a) xs
  | _, p, _ => p
theorem lastP_app : ∀ (hs bs : List Bool) (p : Pair) (xs ys : List (BitVec 64)), hs.length = xs.length → lastP (hs ++ bs) p (xs ++ ys) = lastP bs (lastP hs p xs) ys := by
  intro hs
  induction hs with
  | nil => intro bs p xs ys h; obtain rfl := List.eq_nil_of_length_eq_zero (by simpa using h.symm : xs.length = 0); rfl
  | cons a hs ih =>
    intro bs p xs ys h
    cases xs with
    | nil => simp at h
    | cons x xs => exact ih bs _ xs ys (by simpa using h)
theorem upP_len : ∀ (hs : List Bool) (p : Pair) (xs : List (BitVec 64)), hs.length = xs.length → (upP hs p xs).length = hs.length + 1 := by
  intro hs
  induction hs with
  | nil => intro p xs h; rfl
  | cons a hs ih =>
    intro p xs h
    cases xs with
    | nil => simp at h
    | cons x xs => simp only [upP, List.length_cons]; rw [ih _ xs (by simpa using h)]
theorem upP_get : ∀ (hs : List Bool) (p : Pair) (xs : List (BitVec 64)) (k : Nat), hs.length = xs.length → k ≤ hs.length → (upP hs p xs)[k]? = some (lastP (hs.take k) p (xs.take k)) := by
  intro hs
  induction hs with
  | nil =>
    intro p xs k h hk
    obtain rfl : k = 0 := by simpa using hk
    rfl
  | cons a hs ih =>
    intro p xs k h hk
    cases xs with
    | nil => simp at h
    | cons x xs =>
      cases k with
      | zero => rfl
      | succ k => exact ih _ xs k (by simpa using h) (by simpa using hk)
def aheads (n i : Nat) : List Bool := (sibs 0 n i).map Sib.ahead
def pairsB (n i : Nat) (leaf : BitVec 64) (path : List (BitVec 64)) : List Pair :=
  upP (aheads n i) (0#64, leaf) path ++ [(BitVec.ofNat 64 n, joinP (lastP (aheads n i) (0#64, leaf) path))]
/-- The root to which an opening leads. -/
def rootP (n i : Nat) (leaf : BitVec 64) (path : List (BitVec 64)) : BitVec 64 := joinB (BitVec.ofNat 64 n) (joinP (lastP (aheads n i) (0#64, leaf) path))

/-! Errors of places, checks, collisions. -/
def placeE (n i : Int) : Int := if 4096 < n then 2 else if i < 0 ∨ n ≤ i then 1 else 0
def checkE (root : BitVec 64) (n i : Int) (leaf : BitVec 64) (path : List (BitVec 64)) : Int :=
  if placeE n i ≠ 0 then placeE n i else if path.length = (aheads n.toNat i.toNat).length ∧ rootP n.toNat i.toNat leaf path = root then 0 else 40
def hits (p : Pair × Pair) : Bool := decide (p.1 ≠ p.2) && decide (joinP p.1 = joinP p.2)
def collideB (n i : Int) (lp : BitVec 64) (pp : List (BitVec 64)) (lq : BitVec 64) (pq : List (BitVec 64)) : Option (Pair × Pair) :=
  if placeE n i ≠ 0 then none else if pp.length = (aheads n.toNat i.toNat).length ∧ pq.length = (aheads n.toNat i.toNat).length then ((pairsB n.toNat i.toNat lp pp).zip (pairsB n.toNat i.toNat lq pq)).find? hits else none
end Go.Proofs.Ytchmiaeajkpijaa

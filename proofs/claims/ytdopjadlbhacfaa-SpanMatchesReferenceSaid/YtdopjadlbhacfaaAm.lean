import Derived.Test.YtdopjadlbhacfaaRows
namespace Go.Proofs.Ytdopjadlbhacfaa.Sp
set_option linter.unusedVariables false
set_option linter.unusedSimpArgs false

/-! Sets of values: intervals by a step, with classes of data. -/
structure Ab where
  lo : Int
  hi : Int
  m : Int
  r : Int
  k : Nat

def stp (a : Ab) : Int := if a.lo = a.hi then 0 else a.m

structure Val (a : Ab) : Prop where
  l : -2147483648 ≤ a.lo
  o : a.lo ≤ a.hi
  h : a.hi ≤ 2147483647
  k : a.k < 256
  s : (a.lo = a.hi ∧ a.m = 1 ∧ a.r = 0) ∨ (a.lo < a.hi ∧ 1 ≤ a.m ∧ a.m ∣ a.hi - a.lo ∧ a.r = a.lo % a.m)

def Mem (a : Ab) (v : Int) : Prop := a.lo ≤ v ∧ v ≤ a.hi ∧ stp a ∣ v - a.lo

def topOf (lo hi m : Int) : Int := if 0 < m then lo + (hi - lo) / m * m else hi

def byA (lo hi m : Int) (k : Nat) : Ab :=
  if lo = topOf lo hi m then ⟨lo, lo, 1, 0, k⟩ else ⟨lo, topOf lo hi m, m, lo % m, k⟩

theorem zero_dvd_iff' {x : Int} : (0 : Int) ∣ x ↔ x = 0 := by simp

theorem dvd_le_zero {m x : Int} (h : m ∣ x) (h0 : 0 ≤ x) (h1 : x < m) : x = 0 := by
  obtain ⟨c, rfl⟩ := h
  have hm : 0 < m := by omega
  have hc : c = 0 := by
    rcases Int.lt_trichotomy c 0 with hc | hc | hc
    · have := Int.mul_le_mul_of_nonneg_left (show c ≤ -1 by omega) (show 0 ≤ m by omega)
      omega
    · exact hc
    · have := Int.mul_le_mul_of_nonneg_left (show 1 ≤ c by omega) (show 0 ≤ m by omega)
      omega
  rw [hc]; simp

structure ByOk (lo hi m : Int) : Prop where
  o : lo ≤ hi
  m0 : 0 ≤ m
  z : m = 0 → lo = hi

theorem top_le {lo hi m : Int} (B : ByOk lo hi m) : lo ≤ topOf lo hi m ∧ topOf lo hi m ≤ hi ∧ m ∣ topOf lo hi m - lo ∧ (∀ v, v ≤ hi → m ∣ v - lo → v ≤ topOf lo hi m) := by
  unfold topOf
  by_cases hm : 0 < m
  · rw [if_pos hm]
    have e := Int.mul_ediv_add_emod (hi - lo) m
    have l1 := Int.emod_nonneg (hi - lo) (show m ≠ 0 by omega)
    have l2 := Int.emod_lt_of_pos (hi - lo) hm
    have q : 0 ≤ (hi - lo) / m := Int.ediv_nonneg (by have := B.o; omega) (by omega)
    have p : 0 ≤ (hi - lo) / m * m := Int.mul_nonneg q (by omega)
    rw [Int.mul_comm] at e
    refine ⟨by omega, by omega, ?_, ?_⟩
    · rw [show lo + (hi - lo) / m * m - lo = (hi - lo) / m * m by omega]; exact Int.dvd_mul_left _ _
    · intro v hv hd
      have hd2 : m ∣ (v - lo) - (hi - lo) / m * m := Int.dvd_sub hd (Int.dvd_mul_left _ _)
      rcases Int.lt_or_le (lo + (hi - lo) / m * m) v with h | h
      · have := dvd_le_zero hd2 (by omega) (by omega)
        omega
      · exact h
  · rw [if_neg hm]
    have m0 : m = 0 := by have := B.m0; omega
    have e := B.z m0
    subst e
    refine ⟨by omega, by omega, ?_, fun v hv _ => hv⟩
    simp

theorem by_stp {lo hi m : Int} (k : Nat) (B : ByOk lo hi m) : stp (byA lo hi m k) = if lo = topOf lo hi m then 0 else m := by
  unfold byA stp
  by_cases h : lo = topOf lo hi m
  · simp [← h]
  · simp [h]

theorem by_lo (lo hi m : Int) (k : Nat) : (byA lo hi m k).lo = lo := by unfold byA; split <;> rfl
theorem by_k (lo hi m : Int) (k : Nat) : (byA lo hi m k).k = k := by unfold byA; split <;> rfl
theorem by_hi (lo hi m : Int) (k : Nat) : (byA lo hi m k).hi = topOf lo hi m := by
  unfold byA; split
  · assumption
  · rfl

theorem by_mem {lo hi m : Int} (k : Nat) (B : ByOk lo hi m) (v : Int) : Mem (byA lo hi m k) v ↔ (lo ≤ v ∧ v ≤ hi ∧ m ∣ v - lo) := by
  obtain ⟨t1, t2, t3, t4⟩ := top_le B
  unfold Mem
  rw [by_lo, by_hi, by_stp k B]
  by_cases h : lo = topOf lo hi m
  · rw [if_pos h]
    constructor
    · rintro ⟨a, b, c⟩
      have : v = lo := by omega
      subst this
      exact ⟨by omega, by omega, by simp⟩
    · rintro ⟨a, b, c⟩
      have := t4 v b c
      exact ⟨a, this, by have : v = lo := by omega
                         subst this; simp⟩
  · rw [if_neg h]
    exact ⟨fun ⟨a, b, c⟩ => ⟨a, by omega, c⟩, fun ⟨a, b, c⟩ => ⟨a, t4 v b c, c⟩⟩

theorem by_val {lo hi m : Int} {k : Nat} (B : ByOk lo hi m) (hl : -2147483648 ≤ lo) (hh : hi ≤ 2147483647) (hk : k < 256) : Val (byA lo hi m k) := by
  obtain ⟨t1, t2, t3, t4⟩ := top_le B
  unfold byA
  by_cases h : lo = topOf lo hi m
  · rw [if_pos h]
    exact ⟨hl, Int.le_refl _, by show lo ≤ _; omega, hk, Or.inl ⟨rfl, rfl, rfl⟩⟩
  · rw [if_neg h]
    have hm : m ≠ 0 := by
      intro e
      have z := B.z e
      omega
    have := B.m0
    exact ⟨hl, by show lo ≤ topOf lo hi m; omega, by show topOf lo hi m ≤ _; omega, hk, Or.inr ⟨by show lo < topOf lo hi m; omega, by show 1 ≤ m; omega, t3, rfl⟩⟩

theorem val_stp {a : Ab} (V : Val a) : 0 ≤ stp a ∧ stp a ∣ a.hi - a.lo ∧ (stp a = 0 → a.lo = a.hi) ∧ (stp a ≠ 0 → stp a = a.m ∧ a.lo < a.hi ∧ a.r = a.lo % a.m) := by
  unfold stp
  rcases V.s with ⟨e, m1, r1⟩ | ⟨l, m1, d, r1⟩
  · rw [if_pos e]; refine ⟨by omega, ?_, fun _ => e, fun h => absurd rfl h⟩
    rw [← e]; simp
  · have : ¬ a.lo = a.hi := by omega
    rw [if_neg this]
    exact ⟨by omega, d, by omega, fun _ => ⟨rfl, l, r1⟩⟩

theorem mem_lo {a : Ab} (V : Val a) : Mem a a.lo := ⟨Int.le_refl _, V.o, by simp⟩
theorem mem_hi {a : Ab} (V : Val a) : Mem a a.hi := ⟨V.o, Int.le_refl _, (val_stp V).2.1⟩

/-- a step that divides another one divides it if the second value is in. -/
theorem mem_next {a : Ab} (V : Val a) (h : a.lo ≠ a.hi) : Mem a (a.lo + a.m) := by
  rcases V.s with ⟨e, _, _⟩ | ⟨l, m1, d, r1⟩
  · exact absurd e h
  · refine ⟨by omega, ?_, ?_⟩
    · have := Int.le_of_dvd (by omega) d
      omega
    · unfold stp; rw [if_neg h, show a.lo + a.m - a.lo = a.m by omega]; exact Int.dvd_refl _

/-- Valid sets with the same values, and the same classes, are the same. -/
theorem ab_ext {a b : Ab} (A : Val a) (B : Val b) (h : ∀ v, Mem a v ↔ Mem b v) (hk : a.k = b.k) : a = b := by
  have l1 := ((h a.lo).1 (mem_lo A)).1
  have l2 := ((h b.lo).2 (mem_lo B)).1
  have h1 := ((h a.hi).1 (mem_hi A)).2.1
  have h2 := ((h b.hi).2 (mem_hi B)).2.1
  have el : a.lo = b.lo := by omega
  have eh : a.hi = b.hi := by omega
  have em : a.m = b.m ∧ a.r = b.r := by
    rcases A.s with ⟨e, m1, r1⟩ | ⟨l, m1, d, r1⟩
    · rcases B.s with ⟨e', m1', r1'⟩ | ⟨l', m1', d', r1'⟩
      · exact ⟨by omega, by omega⟩
      · omega
    · rcases B.s with ⟨e', m1', r1'⟩ | ⟨l', m1', d', r1'⟩
      · omega
      · have x := ((h _).1 (mem_next A (by omega))).2.2
        have y := ((h _).2 (mem_next B (by omega))).2.2
        unfold stp at x y
        rw [if_neg (by omega), show a.lo + a.m - b.lo = a.m by omega] at x
        rw [if_neg (by omega), show b.lo + b.m - a.lo = b.m by omega] at y
        have := Int.le_of_dvd (by omega) x
        have := Int.le_of_dvd (by omega) y
        have e : a.m = b.m := by omega
        exact ⟨e, by rw [r1, r1', e, el]⟩
  cases a; cases b
  simp only at *
  obtain ⟨e1, e2⟩ := em
  subst el eh e1 e2 hk
  rfl

/-! Classes. -/
def Sb (a b : Nat) : Prop := ∀ i, a.testBit i = true → b.testBit i = true
theorem sb_refl (a : Nat) : Sb a a := fun _ h => h
theorem sb_trans {a b c : Nat} (h : Sb a b) (g : Sb b c) : Sb a c := fun i x => g i (h i x)
theorem sb_or_l (a b : Nat) : Sb a (a ||| b) := fun i h => by rw [Nat.testBit_or, h]; rfl
theorem sb_or_r (a b : Nat) : Sb b (a ||| b) := fun i h => by rw [Nat.testBit_or, h, Bool.or_true]
theorem sb_or {a b c : Nat} (h : Sb a c) (g : Sb b c) : Sb (a ||| b) c := fun i x => by
  rw [Nat.testBit_or, Bool.or_eq_true] at x
  exact x.elim (h i) (g i)
theorem sb_anti {a b : Nat} (h : Sb a b) (g : Sb b a) : a = b := Nat.eq_of_testBit_eq (fun i => by
  cases ha : a.testBit i
  · cases hb : b.testBit i
    · rfl
    · have := g i hb; rw [ha] at this; cases this
  · exact (h i ha).symm)
theorem or_lt {a b : Nat} (h : a < 256) (g : b < 256) : a ||| b < 256 := Nat.or_lt_two_pow (n := 8) h g
theorem and_lt {a b : Nat} (h : a < 256) : a &&& b < 256 := Nat.lt_of_le_of_lt Nat.and_le_left h

/-! The order. -/
def Le (a b : Ab) : Prop := (∀ v, Mem a v → Mem b v) ∧ Sb a.k b.k
theorem le_refl (a : Ab) : Le a a := ⟨fun _ h => h, sb_refl _⟩
theorem le_trans {a b c : Ab} (h : Le a b) (g : Le b c) : Le a c := ⟨fun v x => g.1 v (h.1 v x), sb_trans h.2 g.2⟩
theorem le_anti {a b : Ab} (A : Val a) (B : Val b) (h : Le a b) (g : Le b a) : a = b :=
  ab_ext A B (fun v => ⟨h.1 v, g.1 v⟩) (sb_anti h.2 g.2)

/-- Both ends, and the second value, decide. -/
theorem le_iff {a b : Ab} (A : Val a) (B : Val b) : (∀ v, Mem a v → Mem b v) ↔ (Mem b a.lo ∧ Mem b a.hi ∧ stp b ∣ stp a) := by
  constructor
  · intro h
    refine ⟨h _ (mem_lo A), h _ (mem_hi A), ?_⟩
    by_cases e : a.lo = a.hi
    · unfold stp; rw [if_pos e]; exact Int.dvd_zero _
    · have x := (h _ (mem_next A e)).2.2
      have y := (h _ (mem_lo A)).2.2
      have z := Int.dvd_sub x y
      rw [show a.lo + a.m - b.lo - (a.lo - b.lo) = a.m by omega] at z
      have e2 : stp a = a.m := by unfold stp; rw [if_neg e]
      rw [e2]; exact z
  · rintro ⟨⟨l1, l2, l3⟩, ⟨h1, h2, h3⟩, d⟩ v ⟨v1, v2, v3⟩
    refine ⟨by omega, by omega, ?_⟩
    have := Int.dvd_add (Int.dvd_trans d v3) l3
    rwa [show v - a.lo + (a.lo - b.lo) = v - b.lo by omega] at this

/-! Join. -/
def gc (a b : Int) : Int := (Int.gcd a b : Int)
theorem gc_nn (a b : Int) : 0 ≤ gc a b := Int.natCast_nonneg _
theorem gc_l (a b : Int) : gc a b ∣ a := Int.gcd_dvd_left ..
theorem gc_r (a b : Int) : gc a b ∣ b := Int.gcd_dvd_right ..
theorem gc_all {a b c : Int} (h : c ∣ a) (g : c ∣ b) : c ∣ gc a b := Int.dvd_coe_gcd h g
theorem gc_zero {a b : Int} (h : gc a b = 0) : a = 0 ∧ b = 0 := by
  have : Int.gcd a b = 0 := by unfold gc at h; omega
  exact Int.gcd_eq_zero_iff.1 this

def joinStep (a b : Ab) : Int := gc (gc (stp a) (stp b)) (a.lo - b.lo)
def joinA (a b : Ab) : Ab := byA (min a.lo b.lo) (max a.hi b.hi) (joinStep a b) (a.k ||| b.k)
theorem join_step {a b : Ab} : joinStep a b ∣ stp a ∧ joinStep a b ∣ stp b ∧ joinStep a b ∣ a.lo - b.lo :=
  ⟨Int.dvd_trans (gc_l _ _) (gc_l _ _), Int.dvd_trans (gc_l _ _) (gc_r _ _), gc_r _ _⟩
theorem join_ok {a b : Ab} (A : Val a) (B : Val b) : ByOk (min a.lo b.lo) (max a.hi b.hi) (joinStep a b) := by
  have := A.o; have := B.o
  refine ⟨by omega, gc_nn _ _, fun h => ?_⟩
  obtain ⟨h1, h2⟩ := gc_zero h
  obtain ⟨h3, h4⟩ := gc_zero h1
  have := (val_stp A).2.2.1 h3
  have := (val_stp B).2.2.1 h4
  omega
theorem dvd_min {m x y v : Int} (h : m ∣ x - y) (g : m ∣ v - x) : m ∣ v - min x y := by
  rcases Int.le_total x y with e | e
  · rw [Int.min_eq_left e]; exact g
  · rw [Int.min_eq_right e]
    have := Int.dvd_add h g
    rwa [show x - y + (v - x) = v - y by omega] at this
theorem join_val {a b : Ab} (A : Val a) (B : Val b) : Val (joinA a b) := by
  have := A.l; have := B.l; have := A.h; have := B.h
  exact by_val (join_ok A B) (by omega) (by omega) (or_lt A.k B.k)
theorem min_comm' (x y : Int) : min x y = min y x := by omega
theorem join_comm (a b : Ab) : joinA a b = joinA b a := by
  have e : joinStep a b = joinStep b a := by
    unfold joinStep gc
    rw [Int.gcd_comm (stp a) (stp b)]
    congr 1
    rw [← Int.gcd_neg (b := a.lo - b.lo), show -(a.lo - b.lo) = b.lo - a.lo by omega]
  unfold joinA
  rw [e, min_comm', show max a.hi b.hi = max b.hi a.hi by omega, Nat.or_comm]
theorem le_join_l {a b : Ab} (A : Val a) (B : Val b) : Le a (joinA a b) := by
  refine ⟨fun v hv => ?_, ?_⟩
  · unfold joinA
    rw [by_mem _ (join_ok A B)]
    obtain ⟨s1, s2, s3⟩ := @join_step a b
    obtain ⟨h1, h2, h3⟩ := hv
    exact ⟨by omega, by omega, dvd_min s3 (Int.dvd_trans s1 h3)⟩
  · unfold joinA; rw [by_k]; exact sb_or_l _ _
theorem le_join_r {a b : Ab} (A : Val a) (B : Val b) : Le b (joinA a b) := by
  rw [join_comm]; exact le_join_l B A
theorem join_least {a b c : Ab} (A : Val a) (B : Val b) (C : Val c) (h : Le a c) (g : Le b c) : Le (joinA a b) c := by
  have J := join_ok A B
  refine ⟨?_, by unfold joinA; rw [by_k]; exact sb_or h.2 g.2⟩
  obtain ⟨a1, a2, a3⟩ := (le_iff A C).1 h.1
  obtain ⟨b1, b2, b3⟩ := (le_iff B C).1 g.1
  have d : stp c ∣ a.lo - b.lo := by
    have := Int.dvd_sub a1.2.2 b1.2.2
    rwa [show a.lo - c.lo - (b.lo - c.lo) = a.lo - b.lo by omega] at this
  have hd : stp c ∣ joinStep a b := gc_all (gc_all a3 b3) d
  intro v hv
  unfold joinA at hv
  rw [by_mem _ J] at hv
  obtain ⟨v1, v2, v3⟩ := hv
  have := a1.1; have := b1.1; have := a2.2.1; have := b2.2.1
  refine ⟨by omega, by omega, ?_⟩
  have x := Int.dvd_trans hd v3
  have y : stp c ∣ min a.lo b.lo - c.lo := by
    rcases Int.le_total a.lo b.lo with e | e
    · rw [Int.min_eq_left e]; exact a1.2.2
    · rw [Int.min_eq_right e]; exact b1.2.2
  have := Int.dvd_add x y
  rwa [show v - min a.lo b.lo + (min a.lo b.lo - c.lo) = v - c.lo by omega] at this
theorem join_iff {a b : Ab} (A : Val a) (B : Val b) : Le a b ↔ joinA a b = b :=
  ⟨fun h => le_anti (join_val A B) B (join_least A B B h (le_refl b)) (le_join_r A B), fun h => by rw [← h]; exact le_join_l A B⟩

/-! Values that wrap around. -/
def wr (x : Int) : Int := (x + 2147483648) % 4294967296 - 2147483648
theorem wr_range (x : Int) : -2147483648 ≤ wr x ∧ wr x ≤ 2147483647 := by unfold wr; omega
theorem wr_id {x : Int} (h : -2147483648 ≤ x) (g : x ≤ 2147483647) : wr x = x := by unfold wr; omega
theorem wr_dvd (x : Int) : (4294967296 : Int) ∣ wr x - x := by unfold wr; omega

theorem p2_dvd {a b : Nat} (h : a ≤ b) : (2 : Int) ^ a ∣ 2 ^ b := by
  obtain ⟨c, rfl⟩ := Nat.exists_eq_add_of_le h
  rw [Int.pow_add]; exact Int.dvd_mul_right _ _
theorem p2_pos (k : Nat) : (1 : Int) ≤ 2 ^ k := by
  induction k with
  | zero => decide
  | succ k ih => rw [Int.pow_succ]; omega
/-- The greatest power of 2, at most 2^32, that divides a number. -/
def pwF (g : Int) : Nat → Int → Int
  | 0, p => p
  | n + 1, p => if p < 4294967296 ∧ g % (2 * p) = 0 then pwF g n (2 * p) else p
def pw (g : Int) : Int := pwF g 32 1
/-- What a power has, one of 32 doublings. -/
theorem pwF_ok (g : Int) : ∀ n (k : Nat) (p : Int), p = 2 ^ k → k + n = 32 → p ∣ g → 1 ≤ pwF g n p ∧ pwF g n p ∣ 4294967296 ∧ pwF g n p ∣ g ∧ (∀ q : Nat, q ≤ 32 → ((2 : Int) ^ q) ∣ g → ((2 : Int) ^ q) ∣ pwF g n p) ∧ ∃ j : Nat, j ≤ 32 ∧ pwF g n p = 2 ^ j := by
  intro n
  induction n with
  | zero =>
    intro k p e h d
    have : k = 32 := by omega
    subst this
    unfold pwF
    refine ⟨by rw [e]; decide, by rw [e]; decide, d, fun q hq hd => ?_, 32, Nat.le_refl _, e⟩
    rw [e]; exact p2_dvd hq
  | succ n ih =>
    intro k p e h d
    unfold pwF
    have e2 : 2 * p = 2 ^ (k + 1) := by rw [e, Int.pow_succ, Int.mul_comm]
    have p1 : 1 ≤ p := by rw [e]; exact p2_pos k
    by_cases c : p < 4294967296 ∧ g % (2 * p) = 0
    · rw [if_pos c]
      exact ih (k + 1) (2 * p) e2 (by omega) (Int.dvd_of_emod_eq_zero c.2)
    · rw [if_neg c]
      refine ⟨p1, ?_, d, ?_, k, by omega, e⟩
      · rw [e, show (4294967296 : Int) = 2 ^ 32 from rfl]; exact p2_dvd (by omega)
      · intro q hq hd
        rcases Nat.lt_or_ge k q with hk | hk
        · exfalso
          apply c
          refine ⟨?_, ?_⟩
          · rw [e, show (4294967296 : Int) = 2 ^ 32 from rfl]
            exact Int.pow_lt_pow_of_lt (by decide) (by omega)
          · rw [e2]
            exact Int.emod_eq_zero_of_dvd (Int.dvd_trans (p2_dvd (by omega)) hd)
        · rw [e]; exact p2_dvd hk
theorem pw_ok (g : Int) : 1 ≤ pw g ∧ pw g ∣ 4294967296 ∧ pw g ∣ g := by
  have := pwF_ok g 32 0 1 rfl rfl (Int.one_dvd _)
  exact ⟨this.1, this.2.1, this.2.2.1⟩
/-- The values from lo to hi that differ from r by a multiple of m. -/
def likeA (r m lo hi : Int) (k : Nat) : Ab := byA (lo + (r - lo) % m) hi m k
theorem like_mem {r m lo hi : Int} (k : Nat) (hm : 1 ≤ m) {w : Int} (hw : lo ≤ w ∧ w ≤ hi ∧ m ∣ w - r) (v : Int) : Mem (likeA r m lo hi k) v ↔ (lo ≤ v ∧ v ≤ hi ∧ m ∣ v - r) := by
  have l1 := Int.emod_nonneg (r - lo) (show m ≠ 0 by omega)
  have l2 := Int.emod_lt_of_pos (r - lo) (show 0 < m by omega)
  have l3 : m ∣ (r - lo) - (r - lo) % m := Int.dvd_self_sub_emod ..
  have key : ∀ v, lo ≤ v → m ∣ v - r → lo + (r - lo) % m ≤ v ∧ m ∣ v - (lo + (r - lo) % m) := by
    intro v h1 h2
    have h3 : m ∣ v - (lo + (r - lo) % m) := by
      have := Int.dvd_add h2 l3
      rwa [show v - r + (r - lo - (r - lo) % m) = v - (lo + (r - lo) % m) by omega] at this
    refine ⟨?_, h3⟩
    rcases Int.lt_or_le v (lo + (r - lo) % m) with c | c
    · exfalso
      have h4 : m ∣ (lo + (r - lo) % m) - v := by
        have := Int.dvd_neg.2 h3
        rwa [show -(v - (lo + (r - lo) % m)) = lo + (r - lo) % m - v by omega] at this
      have := dvd_le_zero h4 (by omega) (by omega)
      omega
    · exact c
  have B : ByOk (lo + (r - lo) % m) hi m := ⟨by have := (key w hw.1 hw.2.2).1; omega, by omega, by omega⟩
  unfold likeA
  rw [by_mem _ B]
  constructor
  · rintro ⟨a, b, c⟩
    refine ⟨by omega, b, ?_⟩
    have := Int.dvd_sub c l3
    rwa [show v - (lo + (r - lo) % m) - (r - lo - (r - lo) % m) = v - r by omega] at this
  · rintro ⟨a, b, c⟩
    exact ⟨(key v a c).1, b, (key v a c).2⟩
theorem like_val {r m lo hi : Int} {k : Nat} (hm : 1 ≤ m) {w : Int} (hw : lo ≤ w ∧ w ≤ hi ∧ m ∣ w - r) (hl : -2147483648 ≤ lo) (hh : hi ≤ 2147483647) (hk : k < 256) : Val (likeA r m lo hi k) := by
  have l1 := Int.emod_nonneg (r - lo) (show m ≠ 0 by omega)
  have h := (like_mem k hm hw w).2 hw
  have : lo + (r - lo) % m ≤ w := by
    have := h.1
    unfold likeA at this
    rwa [by_lo] at this
  exact by_val ⟨by omega, by omega, by omega⟩ (by omega) hh hk
theorem like_k (r m lo hi : Int) (k : Nat) : (likeA r m lo hi k).k = k := by_k _ _ _ _

/-- The values from lo to hi by m, or everything like lo. -/
def inV (x : Int) : Prop := -2147483648 ≤ x ∧ x ≤ 2147483647
instance (x : Int) : Decidable (inV x) := inferInstanceAs (Decidable (_ ∧ _))
def bdA (lo hi m : Int) (k : Nat) : Ab :=
  if inV lo ∧ inV hi then byA lo hi m k else likeA lo (pw m) (-2147483648) 2147483647 k
/-- everything like a number has a value: the number, wrapped around. -/
theorem like_some (lo m : Int) : -2147483648 ≤ wr lo ∧ wr lo ≤ 2147483647 ∧ pw m ∣ wr lo - lo :=
  ⟨(wr_range lo).1, (wr_range lo).2, Int.dvd_trans (pw_ok m).2.1 (wr_dvd lo)⟩
/-! The operators. -/
def addA (a b : Ab) (k : Nat) : Ab := bdA (a.lo + b.lo) (a.hi + b.hi) (gc (stp a) (stp b)) k
def subA (a b : Ab) (k : Nat) : Ab := bdA (a.lo - b.hi) (a.hi - b.lo) (gc (stp a) (stp b)) k
theorem gs_zero {a b : Ab} (A : Val a) (B : Val b) (h : gc (stp a) (stp b) = 0) : a.lo = a.hi ∧ b.lo = b.hi :=
  ⟨(val_stp A).2.2.1 (gc_zero h).1, (val_stp B).2.2.1 (gc_zero h).2⟩
theorem add_ok {a b : Ab} (A : Val a) (B : Val b) : ByOk (a.lo + b.lo) (a.hi + b.hi) (gc (stp a) (stp b)) :=
  ⟨by have := A.o; have := B.o; omega, gc_nn _ _, fun h => by have := gs_zero A B h; omega⟩
theorem sub_ok {a b : Ab} (A : Val a) (B : Val b) : ByOk (a.lo - b.hi) (a.hi - b.lo) (gc (stp a) (stp b)) :=
  ⟨by have := A.o; have := B.o; omega, gc_nn _ _, fun h => by have := gs_zero A B h; omega⟩
/-! Products. -/
def loM (a b : Ab) : Int := min (min (min (a.lo * b.lo) (a.lo * b.hi)) (a.hi * b.lo)) (a.hi * b.hi)
def hiM (a b : Ab) : Int := max (max (max (a.lo * b.lo) (a.lo * b.hi)) (a.hi * b.lo)) (a.hi * b.hi)
def stpM (a b : Ab) : Int := gc (gc (a.lo * stp b) (b.lo * stp a)) (stp a * stp b)
def mulA (a b : Ab) (k : Nat) : Ab := bdA (loM a b) (hiM a b) (stpM a b) k
theorem mul_dvd {a b : Ab} {v w : Int} (hv : stp a ∣ v - a.lo) (hw : stp b ∣ w - b.lo) : stpM a b ∣ v * w - a.lo * b.lo := by
  have d1 : stpM a b ∣ a.lo * stp b := Int.dvd_trans (gc_l _ _) (gc_l _ _)
  have d2 : stpM a b ∣ b.lo * stp a := Int.dvd_trans (gc_l _ _) (gc_r _ _)
  have d3 : stpM a b ∣ stp a * stp b := gc_r _ _
  obtain ⟨i, hi⟩ := hv
  obtain ⟨j, hj⟩ := hw
  have e : v * w - a.lo * b.lo = a.lo * stp b * j + b.lo * stp a * i + stp a * stp b * (i * j) := by
    rw [show v = a.lo + stp a * i by omega, show w = b.lo + stp b * j by omega]
    generalize a.lo = x; generalize b.lo = y; generalize stp a = s; generalize stp b = t
    rw [Int.add_mul, Int.mul_add, Int.mul_add]
    rw [show x * (t * j) = x * t * j by rw [Int.mul_assoc], show s * i * y = y * s * i by rw [Int.mul_comm, ← Int.mul_assoc], show s * i * (t * j) = s * t * (i * j) by rw [Int.mul_assoc, Int.mul_assoc, ← Int.mul_assoc i t j, Int.mul_comm i t, Int.mul_assoc]]
    omega
  rw [e]
  exact Int.dvd_add (Int.dvd_add (Int.dvd_trans d1 (Int.dvd_mul_right _ _)) (Int.dvd_trans d2 (Int.dvd_mul_right _ _))) (Int.dvd_trans d3 (Int.dvd_mul_right _ _))
theorem mul_ok {a b : Ab} (A : Val a) (B : Val b) : ByOk (loM a b) (hiM a b) (stpM a b) := by
  refine ⟨?_, gc_nn _ _, fun h => ?_⟩
  · unfold loM hiM; omega
  · have d := @mul_dvd a b
    rw [h] at d
    have x1 := d (mem_lo A).2.2 (mem_hi B).2.2
    have x2 := d (mem_hi A).2.2 (mem_lo B).2.2
    have x3 := d (mem_hi A).2.2 (mem_hi B).2.2
    rw [zero_dvd_iff'] at x1 x2 x3
    unfold loM hiM; omega
/-! Quotients. -/
def allA (k : Nat) : Ab := byA (-2147483648) 2147483647 1 k
def absI (x : Int) : Int := max x (-x)
def divA (a b : Ab) (k : Nat) : Ab :=
  if stp b = 0 ∧ b.lo ≠ 0 then
    if inV (a.lo.tdiv b.lo) ∧ inV (a.hi.tdiv b.lo) then byA (min (a.lo.tdiv b.lo) (a.hi.tdiv b.lo)) (max (a.lo.tdiv b.lo) (a.hi.tdiv b.lo)) 1 k else allA k
  else if 0 ≤ a.lo ∧ 0 ≤ b.lo then byA 0 a.hi 1 k
  else if inV (max (absI a.lo) (absI a.hi)) then byA (-max (absI a.lo) (absI a.hi)) (max (absI a.lo) (absI a.hi)) 1 k else allA k
theorem one_ok {lo hi : Int} (h : lo ≤ hi) : ByOk lo hi 1 := ⟨h, by omega, by omega⟩
theorem tdiv_size (x c : Int) : -absI x ≤ x.tdiv c ∧ x.tdiv c ≤ absI x := by
  have h : (x.tdiv c).natAbs ≤ x.natAbs := by rw [Int.natAbs_tdiv]; exact Nat.div_le_self _ _
  unfold absI; omega
/-! Remainders. -/
def remA (a b : Ab) (k : Nat) : Ab :=
  if stp b ≠ 0 then byA (min a.lo 0) (max a.hi 0) 1 k
  else if absI b.lo = 0 ∨ (0 ≤ a.lo ∧ a.hi < absI b.lo) then { a with k := k }
  else likeA a.lo (gc (stp a) (absI b.lo)) (if a.lo < 0 then max a.lo (1 - absI b.lo) else 0) (if 0 < a.hi then min a.hi (absI b.lo - 1) else 0) k
/-- the remainder: its size and sign -/
theorem tmod_is (v n : Int) : (0 ≤ v → 0 ≤ v.tmod n ∧ v.tmod n ≤ v) ∧ (v ≤ 0 → v ≤ v.tmod n ∧ v.tmod n ≤ 0) ∧ (n ≠ 0 → -absI n < v.tmod n ∧ v.tmod n < absI n) ∧ n ∣ v - v.tmod n := by
  have h2 := Int.natAbs_tmod v n
  have h3 : v.natAbs % n.natAbs ≤ v.natAbs := Nat.mod_le _ _
  have hs : 0 ≤ v → 0 ≤ v.tmod n := fun h => Int.tmod_nonneg _ h
  have hn : v ≤ 0 → v.tmod n ≤ 0 := fun h => by
    have := Int.tmod_nonneg n (show 0 ≤ -v by omega)
    rw [Int.neg_tmod] at this; omega
  refine ⟨fun h => ?_, fun h => ?_, fun h => ?_, ?_⟩
  · have := hs h; omega
  · have := hn h; omega
  · have h4 : v.natAbs % n.natAbs < n.natAbs := Nat.mod_lt _ (by omega)
    unfold absI; omega
  · rw [Int.tmod_def]
    rw [show v - (v - n * v.tdiv n) = n * v.tdiv n by omega]
    exact Int.dvd_mul_right _ _
theorem abs_dvd {n x : Int} : absI n ∣ x ↔ n ∣ x := by
  unfold absI
  rcases Int.le_total 0 n with h | h
  · rw [show max n (-n) = n by omega]
  · rw [show max n (-n) = -n by omega]; exact Int.neg_dvd
theorem rem_in {a b : Ab} (A : Val a) (h0 : absI b.lo ≠ 0) {v : Int} (hv : Mem a v) :
    (if a.lo < 0 then max a.lo (1 - absI b.lo) else 0) ≤ v.tmod b.lo ∧ v.tmod b.lo ≤ (if 0 < a.hi then min a.hi (absI b.lo - 1) else 0) ∧ gc (stp a) (absI b.lo) ∣ v.tmod b.lo - a.lo := by
  obtain ⟨v1, v2, v3⟩ := hv
  obtain ⟨t1, t2, t3, t4⟩ := tmod_is v b.lo
  have hb : b.lo ≠ 0 := by intro e; apply h0; rw [e]; rfl
  have t3 := t3 hb
  have d1 : gc (stp a) (absI b.lo) ∣ v - a.lo := Int.dvd_trans (gc_l _ _) v3
  have d2 : gc (stp a) (absI b.lo) ∣ v - v.tmod b.lo := Int.dvd_trans (gc_r _ _) (abs_dvd.2 t4)
  have d3 := Int.dvd_sub d1 d2
  rw [show v - a.lo - (v - v.tmod b.lo) = v.tmod b.lo - a.lo by omega] at d3
  refine ⟨?_, ?_, d3⟩
  · split
    · rcases Int.le_total 0 v with h | h
      · have := t1 h; omega
      · have := t2 h; omega
    · have := t1 (by omega); omega
  · split
    · rcases Int.le_total 0 v with h | h
      · have := t1 h; omega
      · have := t2 h; omega
    · have := t2 (by omega); omega
theorem rem_gc {a b : Ab} (A : Val a) (h0 : absI b.lo ≠ 0) : 1 ≤ gc (stp a) (absI b.lo) := by
  have := gc_nn (stp a) (absI b.lo)
  have : gc (stp a) (absI b.lo) ≠ 0 := fun h => h0 (gc_zero h).2
  omega
/-! The lesser and the greater one. -/
def apartS (a b : Ab) : Int := gc (gc (stp a) (stp b)) (a.lo - b.lo)
def minA (a b : Ab) (k : Nat) : Ab := byA (min a.lo b.lo) (min a.hi b.hi) (apartS a b) k
def maxA (a b : Ab) (k : Nat) : Ab := byA (max a.lo b.lo) (max a.hi b.hi) (apartS a b) k
theorem min_ok {a b : Ab} (A : Val a) (B : Val b) : ByOk (min a.lo b.lo) (min a.hi b.hi) (apartS a b) := by
  have := A.o; have := B.o
  refine ⟨by omega, gc_nn _ _, fun h => ?_⟩
  have h2 := gs_zero A B (gc_zero h).1
  omega
theorem max_ok {a b : Ab} (A : Val a) (B : Val b) : ByOk (max a.lo b.lo) (max a.hi b.hi) (apartS a b) := by
  have := A.o; have := B.o
  refine ⟨by omega, gc_nn _ _, fun h => ?_⟩
  have h2 := gs_zero A B (gc_zero h).1
  omega
/-! An operator by its number. -/
def opM (op v w : Int) : Int :=
  if op = 4 then wr (v + w) else if op = 5 then wr (v - w) else if op = 6 then wr (v * w) else if op = 7 then wr (v.tdiv w)
  else if op = 8 then v.tmod w else if op = 9 then min v w else if op = 10 then max v w else 0
def oneA (v : Int) (k : Nat) : Ab := ⟨v, v, 1, 0, k⟩
theorem one_is (v : Int) (k : Nat) : byA v v 0 k = oneA v k := by unfold byA topOf; simp [oneA]
def opA (op : Int) (a b : Ab) : Ab :=
  if stp a = 0 ∧ stp b = 0 then oneA (opM op a.lo b.lo) (a.k ||| b.k)
  else if op = 4 then addA a b (a.k ||| b.k) else if op = 5 then subA a b (a.k ||| b.k) else if op = 6 then mulA a b (a.k ||| b.k)
  else if op = 7 then divA a b (a.k ||| b.k) else if op = 8 then remA a b (a.k ||| b.k) else if op = 9 then minA a b (a.k ||| b.k)
  else if op = 10 then maxA a b (a.k ||| b.k) else oneA 0 (a.k ||| b.k)
theorem opM_range (op : Int) {v w : Int} (hv : inV v) (hw : inV w) : inV (opM op v w) := by
  unfold opM
  obtain ⟨v1, v2⟩ := hv
  obtain ⟨w1, w2⟩ := hw
  obtain ⟨t1, t2, t3, t4⟩ := tmod_is v w
  have r := wr_range
  unfold inV
  split; exact r _
  split; exact r _
  split; exact r _
  split; exact r _
  split
  · rcases Int.le_total 0 v with h | h
    · have := t1 h; omega
    · have := t2 h; omega
  split; omega
  split; omega
  omega
theorem mem_in {a : Ab} (A : Val a) {v : Int} (h : Mem a v) : inV v := ⟨by have := A.l; have := h.1; omega, by have := A.h; have := h.2.1; omega⟩
theorem mem_single {a : Ab} (A : Val a) (h : stp a = 0) {v : Int} (hv : Mem a v) : v = a.lo := by
  have := (val_stp A).2.2.1 h
  have := hv.1; have := hv.2.1
  omega
/-! The operators keep the order. -/
/-! What both have. -/
structure MeetR (a b : Ab) (is : Bool) (x : Ab) : Prop where
  some : is = true → Val x ∧ (∀ v, Mem x v ↔ Mem a v ∧ Mem b v) ∧ x.k = a.k &&& b.k
  none : is = false → x = ⟨0, 0, 0, 0, 0⟩ ∧ ∀ v, ¬ (Mem a v ∧ Mem b v)
theorem meet_unique {a b x y : Ab} {i j : Bool} (M : MeetR a b i x) (N : MeetR a b j y) : i = j ∧ x = y := by
  cases i
  · cases j
    · exact ⟨rfl, (M.none rfl).1.trans (N.none rfl).1.symm⟩
    · exfalso
      obtain ⟨V, h, _⟩ := N.some rfl
      exact (M.none rfl).2 _ ((h y.lo).1 (mem_lo V))
  · cases j
    · exfalso
      obtain ⟨V, h, _⟩ := M.some rfl
      exact (N.none rfl).2 _ ((h x.lo).1 (mem_lo V))
    · obtain ⟨V, h, k⟩ := M.some rfl
      obtain ⟨W, g, l⟩ := N.some rfl
      exact ⟨rfl, ab_ext V W (fun v => (h v).trans (g v).symm) (k.trans l.symm)⟩
theorem meet_swap {a b x : Ab} {i : Bool} (M : MeetR a b i x) : MeetR b a i x :=
  ⟨fun e => by
    obtain ⟨V, h, k⟩ := M.some e
    exact ⟨V, fun v => (h v).trans And.comm, by rw [k, Nat.and_comm]⟩,
   fun e => ⟨(M.none e).1, fun v x => (M.none e).2 v x.symm⟩⟩
/-! A part of a set. -/
structure PartR (a : Ab) (P : Int → Prop) (is : Bool) (x : Ab) : Prop where
  some : is = true → Val x ∧ (∀ v, Mem x v ↔ Mem a v ∧ P v) ∧ x.k = a.k
  none : is = false → x = ⟨0, 0, 0, 0, 0⟩ ∧ ∀ v, ¬ (Mem a v ∧ P v)
theorem part_unique {a x y : Ab} {P : Int → Prop} {i j : Bool} (M : PartR a P i x) (N : PartR a P j y) : i = j ∧ x = y := by
  cases i
  · cases j
    · exact ⟨rfl, (M.none rfl).1.trans (N.none rfl).1.symm⟩
    · exfalso
      obtain ⟨V, h, _⟩ := N.some rfl
      exact (M.none rfl).2 _ ((h y.lo).1 (mem_lo V))
  · cases j
    · exfalso
      obtain ⟨V, h, _⟩ := M.some rfl
      exact (N.none rfl).2 _ ((h x.lo).1 (mem_lo V))
    · obtain ⟨V, h, k⟩ := M.some rfl
      obtain ⟨W, g, l⟩ := N.some rfl
      exact ⟨rfl, ab_ext V W (fun v => (h v).trans (g v).symm) (k.trans l.symm)⟩
theorem part_iff {a x : Ab} {P Q : Int → Prop} {i : Bool} (h : ∀ v, Mem a v → (P v ↔ Q v)) (M : PartR a P i x) : PartR a Q i x :=
  ⟨fun e => by
    obtain ⟨V, g, k⟩ := M.some e
    exact ⟨V, fun v => (g v).trans ⟨fun y => ⟨y.1, (h v y.1).1 y.2⟩, fun y => ⟨y.1, (h v y.1).2 y.2⟩⟩, k⟩,
   fun e => ⟨(M.none e).1, fun v x => (M.none e).2 v ⟨x.1, (h v x.1).2 x.2⟩⟩⟩
theorem part_all {a : Ab} {P : Int → Prop} (A : Val a) (h : ∀ v, Mem a v → P v) : PartR a P true a :=
  ⟨fun _ => ⟨A, fun v => ⟨fun g => ⟨g, h v g⟩, fun g => g.1⟩, rfl⟩, fun e => by cases e⟩
/-- The values from lo to hi. -/
def clipLo (a : Ab) (lo : Int) : Int := max a.lo lo + (a.lo - max a.lo lo) % a.m
def clipIs (a : Ab) (lo hi : Int) : Bool := decide (clipLo a lo ≤ min a.hi hi)
def clipA (a : Ab) (lo hi : Int) : Ab := if clipLo a lo ≤ min a.hi hi then byA (clipLo a lo) (min a.hi hi) a.m a.k else ⟨0, 0, 0, 0, 0⟩
theorem m_pos {a : Ab} (A : Val a) : 1 ≤ a.m := by
  rcases A.s with ⟨_, e, _⟩ | ⟨_, e, _⟩ <;> omega
theorem mem_m {a : Ab} (A : Val a) (v : Int) : Mem a v ↔ a.lo ≤ v ∧ v ≤ a.hi ∧ a.m ∣ v - a.lo := by
  unfold Mem stp
  by_cases h : a.lo = a.hi
  · rw [if_pos h]
    constructor
    · rintro ⟨x, y, z⟩; exact ⟨x, y, by rw [show v - a.lo = 0 by omega]; exact Int.dvd_zero _⟩
    · rintro ⟨x, y, z⟩; exact ⟨x, y, by rw [show v - a.lo = 0 by omega]; exact Int.dvd_zero _⟩
  · rw [if_neg h]
theorem clip_r {a : Ab} (A : Val a) (lo hi : Int) : PartR a (fun v => lo ≤ v ∧ v ≤ hi) (clipIs a lo hi) (clipA a lo hi) := by
  have hm := m_pos A
  have l1 := Int.emod_nonneg (a.lo - max a.lo lo) (show a.m ≠ 0 by omega)
  have l2 := Int.emod_lt_of_pos (a.lo - max a.lo lo) (show 0 < a.m by omega)
  have l3 : a.m ∣ (a.lo - max a.lo lo) - (a.lo - max a.lo lo) % a.m := Int.dvd_self_sub_emod ..
  have ec : clipLo a lo = max a.lo lo + (a.lo - max a.lo lo) % a.m := rfl
  have dc : a.m ∣ clipLo a lo - a.lo := by
    rw [ec]
    have := Int.dvd_neg.2 l3
    rwa [show -(a.lo - max a.lo lo - (a.lo - max a.lo lo) % a.m) = max a.lo lo + (a.lo - max a.lo lo) % a.m - a.lo by omega] at this
  have key : ∀ v, Mem a v → lo ≤ v → clipLo a lo ≤ v := by
    intro v hv h
    rw [mem_m A] at hv
    rcases Int.lt_or_le v (clipLo a lo) with c | c
    · exfalso
      have d := Int.dvd_sub dc hv.2.2
      rw [show clipLo a lo - a.lo - (v - a.lo) = clipLo a lo - v by omega] at d
      have := dvd_le_zero d (by omega) (by omega)
      omega
    · exact c
  have := A.l; have := A.h
  constructor
  · intro e
    have c : clipLo a lo ≤ min a.hi hi := by simpa [clipIs] using e
    have B : ByOk (clipLo a lo) (min a.hi hi) a.m := ⟨c, by omega, by omega⟩
    unfold clipA
    rw [if_pos c]
    refine ⟨by_val B (by omega) (by omega) A.k, fun v => ?_, by_k _ _ _ _⟩
    rw [by_mem _ B, mem_m A]
    constructor
    · rintro ⟨x, y, z⟩
      refine ⟨⟨by omega, by omega, ?_⟩, by omega, by omega⟩
      have := Int.dvd_add z dc
      rwa [show v - clipLo a lo + (clipLo a lo - a.lo) = v - a.lo by omega] at this
    · rintro ⟨⟨x, y, z⟩, p, q⟩
      refine ⟨key v ((mem_m A v).2 ⟨x, y, z⟩) p, by omega, ?_⟩
      have := Int.dvd_sub z dc
      rwa [show v - a.lo - (clipLo a lo - a.lo) = v - clipLo a lo by omega] at this
  · intro e
    have c : ¬ clipLo a lo ≤ min a.hi hi := by simpa [clipIs] using e
    unfold clipA
    rw [if_neg c]
    refine ⟨rfl, ?_⟩
    rintro v ⟨hv, p, q⟩
    have := key v hv p
    have := hv.2.1
    omega

/-! The meet, found by looking at each value. -/
theorem stp_shift {s x y q d : Int} (h : s ∣ x - y) (g : s ∣ d) : s ∣ x - q * d - y := by
  have := Int.dvd_sub h (Int.dvd_trans g (Int.dvd_mul_left q d))
  rwa [show x - y - q * d = x - q * d - y by omega] at this
/-- Of two neighbours of what both have, the difference is the step. -/
theorem near_step {a b : Ab} (A : Val a) (B : Val b) {x y : Int} (hx : Mem a x ∧ Mem b x) (hy : Mem a y ∧ Mem b y) (lt : x < y) (no : ∀ v, x < v → v < y → ¬ (Mem a v ∧ Mem b v)) :
    (∀ v, Mem a v ∧ Mem b v → y - x ∣ v - x) ∧ (stp a ∣ y - x) ∧ (stp b ∣ y - x) := by
  have da : stp a ∣ y - x := by
    have := Int.dvd_sub hy.1.2.2 hx.1.2.2
    rwa [show y - a.lo - (x - a.lo) = y - x by omega] at this
  have db : stp b ∣ y - x := by
    have := Int.dvd_sub hy.2.2.2 hx.2.2.2
    rwa [show y - b.lo - (x - b.lo) = y - x by omega] at this
  refine ⟨?_, da, db⟩
  intro v hv
  have e := Int.mul_ediv_add_emod (v - x) (y - x)
  have l1 := Int.emod_nonneg (v - x) (show y - x ≠ 0 by omega)
  have l2 := Int.emod_lt_of_pos (v - x) (show 0 < y - x by omega)
  rw [Int.mul_comm] at e
  generalize hq : (v - x) / (y - x) = q at e
  have e2 : (v - x) % (y - x) = v - q * (y - x) - x := by omega
  have h1 := stp_shift (q := q) hv.1.2.2 da
  have h2 := stp_shift (q := q) hv.2.2.2 db
  have := hx.1.1; have := hx.2.1; have := hy.1.2.1; have := hy.2.2.1
  have m : Mem a (v - q * (y - x)) ∧ Mem b (v - q * (y - x)) := ⟨⟨by omega, by omega, h1⟩, ⟨by omega, by omega, h2⟩⟩
  have z : (v - x) % (y - x) = 0 := by
    rcases Int.lt_or_le x (v - q * (y - x)) with c | c
    · exact absurd m (no _ c (by omega))
    · omega
  exact Int.dvd_of_emod_eq_zero z
def fewIs (l : List Int) : Bool := !l.isEmpty
def fewStep : List Int → Int
  | x :: y :: _ => y - x
  | _ => 0
def fewA (l : List Int) (k : Nat) : Ab := if l.isEmpty then ⟨0, 0, 0, 0, 0⟩ else byA (l.headD 0) (l.getLastD 0) (fewStep l) k
theorem last_mem : ∀ (x : Int) (l : List Int), (x :: l).getLastD 0 ∈ x :: l := by
  intro x l
  rw [List.getLastD_cons]
  induction l generalizing x with
  | nil => simp
  | cons y l ih =>
    have := ih y
    rw [List.getLastD_cons]
    exact List.mem_cons_of_mem _ this
theorem asc_last : ∀ (x : Int) (l : List Int), (x :: l).Pairwise (· < ·) → ∀ v ∈ x :: l, v ≤ (x :: l).getLastD 0 := by
  intro x l
  rw [List.getLastD_cons]
  induction l generalizing x with
  | nil => intro _ v hv; simp at hv; simp [hv]
  | cons y l ih =>
    intro h v hv
    rw [List.getLastD_cons]
    rw [List.pairwise_cons] at h
    rcases List.mem_cons.1 hv with e | e
    · subst e
      have h1 := h.1 y (List.mem_cons_self ..)
      have h2 := ih y h.2 y (List.mem_cons_self ..)
      omega
    · exact ih y h.2 v e
theorem few_r {a b : Ab} (A : Val a) (B : Val b) {l : List Int} (hp : l.Pairwise (· < ·)) (hl : ∀ v, v ∈ l ↔ Mem a v ∧ Mem b v) : MeetR a b (fewIs l) (fewA l (a.k &&& b.k)) := by
  have K : a.k &&& b.k < 256 := and_lt A.k
  cases l with
  | nil =>
    refine ⟨fun e => (by cases e), fun _ => ⟨rfl, fun v hv => ?_⟩⟩
    have := (hl v).2 hv
    cases this
  | cons x r =>
    refine ⟨fun _ => ?_, fun e => by cases e⟩
    have hx := (hl x).1 (List.mem_cons_self ..)
    have hlast := (hl _).1 (last_mem x r)
    have lo : ∀ v, Mem a v ∧ Mem b v → x ≤ v := by
      intro v hv
      have := (hl v).2 hv
      rcases List.mem_cons.1 this with e | e
      · omega
      · rw [List.pairwise_cons] at hp
        have := hp.1 v e; omega
    have hi : ∀ v, Mem a v ∧ Mem b v → v ≤ (x :: r).getLastD 0 := fun v hv => asc_last x r hp v ((hl v).2 hv)
    have ex : fewA (x :: r) (a.k &&& b.k) = byA x ((x :: r).getLastD 0) (fewStep (x :: r)) (a.k &&& b.k) := rfl
    rw [ex]
    have := A.l; have := A.h; have := hx.1.1; have := hlast.1.2.1
    cases r with
    | nil =>
      have el : ([x] : List Int).getLastD 0 = x := rfl
      rw [el] at hi ⊢
      have Bo : ByOk x x (fewStep [x]) := ⟨Int.le_refl _, Int.le_refl _, fun _ => rfl⟩
      refine ⟨by_val Bo (by omega) (by have := hx.1.2.1; omega) K, fun v => ?_, by_k _ _ _ _⟩
      rw [by_mem _ Bo]
      constructor
      · rintro ⟨h1, h2, h3⟩
        have : v = x := by omega
        rw [this]; exact hx
      · intro h
        have := lo v h; have := hi v h
        refine ⟨by omega, by omega, ?_⟩
        rw [show v - x = 0 by omega]; exact Int.dvd_zero _
    | cons y r =>
      have hy := (hl y).1 (List.mem_cons_of_mem _ (List.mem_cons_self ..))
      have hp2 := hp
      rw [List.pairwise_cons] at hp2
      have lt : x < y := hp2.1 y (List.mem_cons_self ..)
      have no : ∀ v, x < v → v < y → ¬ (Mem a v ∧ Mem b v) := by
        intro v h1 h2 h
        have m := (hl v).2 h
        rcases List.mem_cons.1 m with e | e
        · omega
        · rcases List.mem_cons.1 e with e | e
          · omega
          · have h3 := hp2.2
            rw [List.pairwise_cons] at h3
            have := h3.1 v e; omega
      obtain ⟨s1, s2, s3⟩ := near_step A B hx hy lt no
      have es : fewStep (x :: y :: r) = y - x := rfl
      rw [es]
      have top := hi y hy
      have Bo : ByOk x ((x :: y :: r).getLastD 0) (y - x) := ⟨by omega, by omega, by omega⟩
      refine ⟨by_val Bo (by omega) (by omega) K, fun v => ?_, by_k _ _ _ _⟩
      rw [by_mem _ Bo]
      constructor
      · rintro ⟨h1, h2, h3⟩
        have l1 := hlast.1; have l2 := hlast.2
        refine ⟨⟨by omega, by have := l1.2.1; omega, ?_⟩, ⟨by have := hx.2.1; omega, by have := l2.2.1; omega, ?_⟩⟩
        · have := Int.dvd_add (Int.dvd_trans s2 h3) hx.1.2.2
          rwa [show v - x + (x - a.lo) = v - a.lo by omega] at this
        · have := Int.dvd_add (Int.dvd_trans s3 h3) hx.2.2.2
          rwa [show v - x + (x - b.lo) = v - b.lo by omega] at this
      · intro h
        exact ⟨lo v h, hi v h, s1 v h⟩

/-! The meet of two long sets. -/
theorem div_of {s g c : Int} (hg : g ≠ 0) (e : s = g * c) : s / g = c := by rw [e]; exact Int.mul_ediv_cancel_left _ hg
/-- a number that is like x modulo s, and like y modulo t -/
theorem lcm_dvd' {s t d : Int} (hs : s ∣ d) (ht : t ∣ d) : s / gc s t * t ∣ d := by
  by_cases hg : gc s t = 0
  · obtain ⟨rfl, rfl⟩ := gc_zero hg
    simpa using hs
  · obtain ⟨s', es⟩ := gc_l s t
    obtain ⟨t', et⟩ := gc_r s t
    have q : s / gc s t = s' := div_of hg es
    rw [q]
    -- s' and t' have no common divisor
    have e1 : (s' * t).natAbs = Nat.lcm s.natAbs t.natAbs := by
      unfold Nat.lcm
      have h1 : s.natAbs = Int.gcd s t * s'.natAbs := by
        conv => lhs; rw [es]
        rw [Int.natAbs_mul]; rfl
      have h2 : s.natAbs * t.natAbs / Nat.gcd s.natAbs t.natAbs = s'.natAbs * t.natAbs := by
        have e3 : s.natAbs * t.natAbs = Int.gcd s t * (s'.natAbs * t.natAbs) := by rw [← Nat.mul_assoc, ← h1]
        rw [e3]
        exact Nat.mul_div_cancel_left _ (Nat.pos_of_ne_zero (fun (h : Int.gcd s t = 0) => hg (by unfold gc; rw [h]; rfl)))
      rw [Int.natAbs_mul, h2]
    rw [← Int.natAbs_dvd_natAbs, e1]
    exact Nat.lcm_dvd (Int.natAbs_dvd_natAbs.2 hs) (Int.natAbs_dvd_natAbs.2 ht)
def lcmA (a b : Ab) : Int := a.m / gc a.m b.m * b.m
def firstA (a b : Ab) (f : Int) : Int := max a.lo b.lo + (f - max a.lo b.lo) % lcmA a b
def longIs (a b : Ab) (f : Int) : Bool := decide (firstA a b f ≤ min a.hi b.hi)
def longA (a b : Ab) (f : Int) : Ab := if firstA a b f ≤ min a.hi b.hi then byA (firstA a b f) (min a.hi b.hi) (lcmA a b) (a.k &&& b.k) else ⟨0, 0, 0, 0, 0⟩
theorem lcm_pos {a b : Ab} (A : Val a) (B : Val b) : 1 ≤ lcmA a b ∧ a.m ∣ lcmA a b ∧ b.m ∣ lcmA a b := by
  have ha := m_pos A; have hb := m_pos B
  have g0 := gc_nn a.m b.m
  have gne : gc a.m b.m ≠ 0 := fun h => by have := (gc_zero h).1; omega
  obtain ⟨s', es⟩ := gc_l a.m b.m
  obtain ⟨t', et⟩ := gc_r a.m b.m
  have q : a.m / gc a.m b.m = s' := div_of gne es
  have hs : 1 ≤ s' := by
    rcases Int.lt_or_le 0 s' with h | h
    · omega
    · have := Int.mul_le_mul_of_nonneg_left h g0
      omega
  unfold lcmA
  rw [q]
  refine ⟨?_, ?_, Int.dvd_mul_left _ _⟩
  · have := Int.mul_le_mul hs hb (by omega) (by omega)
    omega
  · conv => lhs; rw [es]
    conv => rhs; rw [et, ← Int.mul_assoc, Int.mul_comm s']
    exact Int.dvd_mul_right _ _
theorem long_r {a b : Ab} (A : Val a) (B : Val b) {f : Int} (ha : a.m ∣ f - a.lo) (hb : b.m ∣ f - b.lo) : MeetR a b (longIs a b f) (longA a b f) := by
  obtain ⟨L1, L2, L3⟩ := lcm_pos A B
  have l1 := Int.emod_nonneg (f - max a.lo b.lo) (show lcmA a b ≠ 0 by omega)
  have l2 := Int.emod_lt_of_pos (f - max a.lo b.lo) (show 0 < lcmA a b by omega)
  have l3 : lcmA a b ∣ (f - max a.lo b.lo) - (f - max a.lo b.lo) % lcmA a b := Int.dvd_self_sub_emod ..
  have ef : firstA a b f = max a.lo b.lo + (f - max a.lo b.lo) % lcmA a b := rfl
  have d0 : lcmA a b ∣ f - firstA a b f := by rw [ef]; rwa [show f - (max a.lo b.lo + (f - max a.lo b.lo) % lcmA a b) = f - max a.lo b.lo - (f - max a.lo b.lo) % lcmA a b by omega]
  have key : ∀ v, Mem a v ∧ Mem b v ↔ (firstA a b f ≤ v ∧ v ≤ min a.hi b.hi ∧ lcmA a b ∣ v - firstA a b f) := by
    intro v
    rw [mem_m A, mem_m B]
    constructor
    · rintro ⟨⟨x1, x2, x3⟩, ⟨y1, y2, y3⟩⟩
      have e1 : a.m ∣ v - f := by
        have := Int.dvd_sub x3 ha
        rwa [show v - a.lo - (f - a.lo) = v - f by omega] at this
      have e2 : b.m ∣ v - f := by
        have := Int.dvd_sub y3 hb
        rwa [show v - b.lo - (f - b.lo) = v - f by omega] at this
      have e3 := Int.dvd_add (lcm_dvd' e1 e2) d0
      rw [show v - f + (f - firstA a b f) = v - firstA a b f by omega] at e3
      refine ⟨?_, by omega, e3⟩
      rcases Int.lt_or_le v (firstA a b f) with c | c
      · have e4 := Int.dvd_neg.2 e3
        rw [show -(v - firstA a b f) = firstA a b f - v by omega] at e4
        have := dvd_le_zero (m := lcmA a b) e4 (by omega) (by omega)
        omega
      · exact c
    · rintro ⟨x1, x2, x3⟩
      have e := Int.dvd_sub x3 d0
      rw [show v - firstA a b f - (f - firstA a b f) = v - f by omega] at e
      refine ⟨⟨by omega, by omega, ?_⟩, ⟨by omega, by omega, ?_⟩⟩
      · have := Int.dvd_add (Int.dvd_trans L2 e) ha
        rwa [show v - f + (f - a.lo) = v - a.lo by omega] at this
      · have := Int.dvd_add (Int.dvd_trans L3 e) hb
        rwa [show v - f + (f - b.lo) = v - b.lo by omega] at this
  have := A.l; have := A.h
  constructor
  · intro e
    have c : firstA a b f ≤ min a.hi b.hi := by simpa [longIs] using e
    have Bo : ByOk (firstA a b f) (min a.hi b.hi) (lcmA a b) := ⟨c, by omega, by omega⟩
    unfold longA
    rw [if_pos c]
    refine ⟨by_val Bo (by omega) (by omega) (and_lt A.k), fun v => ?_, by_k _ _ _ _⟩
    rw [by_mem _ Bo]; exact (key v).symm
  · intro e
    have c : ¬ firstA a b f ≤ min a.hi b.hi := by simpa [longIs] using e
    unfold longA
    rw [if_neg c]
    refine ⟨rfl, fun v hv => ?_⟩
    have := (key v).1 hv
    omega
/-- No values in common if the ends differ by no multiple of the greatest divisor. -/
theorem none_r {a b : Ab} (A : Val a) (B : Val b) (h : ¬ gc a.m b.m ∣ a.lo - b.lo) : MeetR a b false ⟨0, 0, 0, 0, 0⟩ := by
  refine ⟨fun e => (by cases e), fun _ => ⟨rfl, fun v hv => h ?_⟩⟩
  have x := ((mem_m A v).1 hv.1).2.2
  have y := ((mem_m B v).1 hv.2).2.2
  have := Int.dvd_sub (Int.dvd_trans (gc_r a.m b.m) y) (Int.dvd_trans (gc_l a.m b.m) x)
  rwa [show v - b.lo - (v - a.lo) = a.lo - b.lo by omega] at this
/-- The first common number, by an inverse. -/
theorem first_ok {s t x y i : Int} (ht : 1 ≤ t) (hd : gc s t ∣ y - x) (hi : t / gc s t ∣ s / gc s t * i - 1) :
    s ∣ x + s * ((((y - x) / gc s t) % (t / gc s t) * i) % (t / gc s t)) - x ∧ t ∣ x + s * ((((y - x) / gc s t) % (t / gc s t) * i) % (t / gc s t)) - y := by
  have gne : gc s t ≠ 0 := fun h => by have := (gc_zero h).2; omega
  obtain ⟨s', es⟩ := gc_l s t
  obtain ⟨t', et⟩ := gc_r s t
  obtain ⟨d, ed⟩ := hd
  have qs : s / gc s t = s' := div_of gne es
  have qt : t / gc s t = t' := div_of gne et
  have qd : (y - x) / gc s t = d := by rw [ed]; exact Int.mul_ediv_cancel_left _ gne
  rw [qs, qt] at hi
  rw [qt, qd]
  refine ⟨by rw [show ∀ z : Int, x + s * z - x = s * z by intro z; omega]; exact Int.dvd_mul_right _ _, ?_⟩
  -- modulo t': s' * (((d % t') * i) % t') - d
  have h1 : t' ∣ d % t' * i - (d % t' * i) % t' := Int.dvd_self_sub_emod ..
  have h2 : t' ∣ d - d % t' := Int.dvd_self_sub_emod ..
  generalize hz : (d % t' * i) % t' = z at *
  generalize d % t' = d' at *
  have k : t' ∣ s' * z - d := by
    have a1 := Int.dvd_trans h1 (Int.dvd_mul_left s' _)
    have a2 := Int.dvd_trans hi (Int.dvd_mul_right _ d')
    have e1 : s' * (d' * i - z) = d' * (s' * i) - s' * z := by
      rw [Int.mul_sub, ← Int.mul_assoc, Int.mul_comm s' d', Int.mul_assoc]
    have e2 : (s' * i - 1) * d' = d' * (s' * i) - d' := by
      rw [Int.sub_mul, Int.one_mul, Int.mul_comm]
    rw [e1] at a1
    rw [e2] at a2
    have a3 := Int.dvd_sub (Int.dvd_sub a2 a1) h2
    rwa [show d' * (s' * i) - d' - (d' * (s' * i) - s' * z) - (d - d') = s' * z - d by omega] at a3
  have e : x + s * z - y = gc s t * (s' * z - d) := by
    rw [Int.mul_sub, ← ed, ← Int.mul_assoc, ← es]; omega
  rw [e]
  conv => lhs; rw [et]
  exact Int.mul_dvd_mul_left _ k

theorem gc_comm (a b : Int) : gc a b = gc b a := by unfold gc; rw [Int.gcd_comm]
theorem gc_emod (a b : Int) : gc (a % b) b = gc a b := by
  apply Int.dvd_antisymm (gc_nn _ _) (gc_nn _ _)
  · refine gc_all ?_ (gc_r _ _)
    have h : b ∣ a - a % b := Int.dvd_self_sub_emod ..
    have := Int.dvd_add (Int.dvd_trans (gc_r (a % b) b) h) (gc_l (a % b) b)
    rwa [show a - a % b + a % b = a by omega] at this
  · refine gc_all ?_ (gc_r _ _)
    have h : b ∣ a - a % b := Int.dvd_self_sub_emod ..
    have := Int.dvd_sub (gc_l a b) (Int.dvd_trans (gc_r a b) h)
    rwa [show a - (a - a % b) = a % b by omega] at this
/-- An inverse, by the steps of the greatest divisor: x and y times a are like u and v modulo m. -/
structure EuI (a m x y u v : Int) : Prop where
  u0 : 0 ≤ u
  v0 : 0 ≤ v
  hx : m ∣ x * a - u
  hy : m ∣ y * a - v
  g : gc u v = gc a m
  s : (x ≤ 0 ∧ 0 ≤ y ∧ u * y - v * x = m) ∨ (0 ≤ x ∧ y ≤ 0 ∧ v * x - u * y = m)
theorem eu_first {a m : Int} (hm : 1 ≤ m) : EuI a m 1 0 (a % m) m := by
  refine ⟨Int.emod_nonneg _ (by omega), by omega, ?_, ?_, ?_, Or.inr ⟨by omega, Int.le_refl _, by omega⟩⟩
  · rw [Int.one_mul]; exact Int.dvd_self_sub_emod ..
  · rw [Int.zero_mul, Int.zero_sub]; exact Int.dvd_neg.2 (Int.dvd_refl _)
  · exact gc_emod a m
theorem eu_next {a m x y u v : Int} (h : EuI a m x y u v) (hv : v ≠ 0) : EuI a m y (x - u / v * y) v (u - u / v * v) := by
  have e := Int.mul_ediv_add_emod u v
  rw [Int.mul_comm] at e
  have e2 : u - u / v * v = u % v := by omega
  have q0 : 0 ≤ u / v := Int.ediv_nonneg h.u0 h.v0
  rw [e2]
  refine ⟨h.v0, Int.emod_nonneg _ hv, h.hy, ?_, ?_, ?_⟩
  · have := Int.dvd_sub h.hx (Int.dvd_trans h.hy (Int.dvd_mul_left (u / v) _))
    rw [← e2]
    rwa [show x * a - u - u / v * (y * a - v) = (x - u / v * y) * a - (u - u / v * v) by
      rw [Int.mul_sub, Int.sub_mul, Int.mul_assoc]; omega] at this
  · rw [← h.g]; exact (gc_comm v (u % v)).trans (gc_emod u v)
  · generalize hq : u / v = q at *
    have k : ∀ z : Int, (u - q * v) * z = u * z - q * (v * z) := by intro z; rw [Int.sub_mul, Int.mul_assoc]
    have k2 : v * (x - q * y) = v * x - q * (v * y) := by rw [Int.mul_sub, ← Int.mul_assoc, Int.mul_comm v q, Int.mul_assoc]
    rw [← e2]
    rcases h.s with ⟨s1, s2, s3⟩ | ⟨s1, s2, s3⟩
    · right
      refine ⟨s2, ?_, ?_⟩
      · have := Int.mul_nonneg q0 s2; omega
      · rw [k, k2]; omega
    · left
      refine ⟨s2, ?_, ?_⟩
      · have := Int.mul_nonneg q0 (show 0 ≤ -y by omega)
        rw [Int.mul_neg] at this; omega
      · rw [k, k2]; omega
end Go.Proofs.Ytdopjadlbhacfaa.Sp

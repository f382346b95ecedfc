import Derived.Test.YtnholabamjodhaaAb
namespace Go.Proofs.Ytnholabamjodhaa
open Go.RowKit Go.Instr Sp
set_option linter.unusedVariables false
set_option linter.unusedSimpArgs false

/-! The reference's sets, by value: steps, members, everything like a number. -/
set_option maxHeartbeats 400000 in
theorem step_one (a : Ab) (h : (a.lo == a.hi) = true) (w : World) :
    Calls Try.prog 50 #[.agg #[.int .i64 a.lo, .int .i64 a.hi, .int .i64 a.m, .int .i64 a.r, .int .i64 a.k]] w fun e w' => e = .returned (.int .i64 0) ∧ Below w.heap.size w w' := by
  go_enter Try.func50, Try.ntmps50
  go_wp2
  go_ret
  exact ⟨rfl, (by repeat (first | with_reducible exact Below.refl _ _ | with_reducible refine Below.setCell ?_ (by first | omega | (dsimp only; omega) | (simp; done) | (simp; omega)) _ | with_reducible refine Below.alloc ?_ (by first | omega | (dsimp only; omega) | (simp; done) | (simp; omega)) _ | with_reducible refine Below.drew ?_))⟩
set_option maxHeartbeats 400000 in
theorem step_more (a : Ab) (h : (a.lo == a.hi) = false) (w : World) :
    Calls Try.prog 50 #[.agg #[.int .i64 a.lo, .int .i64 a.hi, .int .i64 a.m, .int .i64 a.r, .int .i64 a.k]] w fun e w' => e = .returned (.int .i64 a.m) ∧ Below w.heap.size w w' := by
  go_enter Try.func50, Try.ntmps50
  go_wp2
  go_ret
  exact ⟨rfl, (by repeat (first | with_reducible exact Below.refl _ _ | with_reducible refine Below.setCell ?_ (by first | omega | (dsimp only; omega) | (simp; done) | (simp; omega)) _ | with_reducible refine Below.alloc ?_ (by first | omega | (dsimp only; omega) | (simp; done) | (simp; omega)) _ | with_reducible refine Below.drew ?_))⟩
theorem step_any (a : Ab) (w : World) :
    Calls Try.prog 50 #[.agg #[.int .i64 a.lo, .int .i64 a.hi, .int .i64 a.m, .int .i64 a.r, .int .i64 a.k]] w fun e w' => e = .returned (.int .i64 (stp a)) ∧ Below w.heap.size w w' := by
  by_cases h : a.lo = a.hi
  · rw [show stp a = 0 from if_pos h]; exact step_one a (by simpa using h) w
  · rw [show stp a = a.m from if_neg h]; exact step_more a (by simpa using h) w
set_option maxHeartbeats 400000 in
theorem like_any (r m lo hi : Int) (k : Nat) (hr : Far r) (hm : 1 ≤ m) (hm2 : m ≤ 4611686018427387904) (hlo : -2147483648 ≤ lo) (hlo2 : lo ≤ 2147483647) (hhi : hi ≤ 2147483647) (hr2 : Far (r - lo)) (hw : lo + (r - lo) % m ≤ hi) (w : World) :
    Calls Try.prog 55 #[.int .i64 r, .int .i64 m, .int .i64 lo, .int .i64 hi, .int .i64 k] w fun e w' => e = .returned (.agg #[.int .i64 (likeA r m lo hi k).lo, .int .i64 (likeA r m lo hi k).hi, .int .i64 (likeA r m lo hi k).m, .int .i64 (likeA r m lo hi k).r, .int .i64 (likeA r m lo hi k).k]) ∧ Below w.heap.size w w' := by
  obtain ⟨r1, r2⟩ := hr
  have l1 := Int.emod_nonneg (r - lo) (show m ≠ 0 by omega)
  have B : Hid (ByOk (lo + (r - lo) % m) hi m) := hidA ⟨hw, by omega, by omega⟩
  have N : Hid (Near (lo + (r - lo) % m) hi m) := hidA ⟨by omega, by omega, Int.le_trans hm2 (by omega)⟩
  obtain ⟨z, hz⟩ : ∃ z, (r - lo) % m = z := ⟨_, rfl⟩
  rw [hz] at B N l1 hw
  have E : Hid (likeA r m lo hi k = byA (lo + z) hi m k) := hidA (by unfold likeA; rw [hz])
  go_enter Try.func55, Try.ntmps55
  go_wp2_with (first | (go_at_call 42; refine (mod_any _ _ hr2 (by omega) (by omega) _).mono ?_; rintro e w1 ⟨rfl, rfl⟩) | (go_at_call 46; refine (by_any _ _ _ _ B.out N.out _).mono ?_; rintro e w2 ⟨rfl, hb⟩; have HB2 := hidA hb; obtain ⟨hc2, hf2⟩ := bcell hb; have hz20 : w.heap.size < w2.heap.size := (by have := hb.size; simp at this; omega); clear hb))
  exact bodyPost_ret (v := .agg #[.int .i64 (likeA r m lo hi k).lo, .int .i64 (likeA r m lo hi k).hi, .int .i64 (likeA r m lo hi k).m, .int .i64 (likeA r m lo hi k).r, .int .i64 (likeA r m lo hi k).k]) (by simp [results, Try.results55, go_sem, E.out, hz, hc2, hz20]) rfl ⟨by rfl, (by repeat (first | with_reducible exact Below.refl _ _ | with_reducible exact HB2.out | with_reducible refine Below.setCell ?_ (by first | omega | (dsimp only; omega) | (simp; done) | (simp; omega)) _ | with_reducible refine Below.alloc ?_ (by first | omega | (dsimp only; omega) | (simp; done) | (simp; omega)) _ | with_reducible refine Below.drew ?_ | with_reducible refine Below.trans ?_ (HB2.out.mono (by first | omega | (dsimp only; omega) | (simp; done) | (simp; omega)))))⟩
set_option maxHeartbeats 400000 in
theorem of_any (v : Int) (k : Nat) (h : inV v) (w : World) :
    Calls Try.prog 17 #[.agg #[.int .i64 v, .int .i64 k]] w fun e w' => e = .returned (.agg #[.int .i64 (oneA v k).lo, .int .i64 (oneA v k).hi, .int .i64 (oneA v k).m, .int .i64 (oneA v k).r, .int .i64 (oneA v k).k]) ∧ Below w.heap.size w w' := by
  have B : Hid (ByOk v v 0) := hidA ⟨Int.le_refl _, Int.le_refl _, fun _ => rfl⟩
  have N : Hid (Near v v 0) := hidA ⟨by have := h.1; omega, by have := h.2; omega, by omega⟩
  have E : Hid (byA v v 0 k = oneA v k) := hidA (one_is v k)
  clear h
  go_enter Try.func17, Try.ntmps17
  go_wp2_with (go_at_call 46; refine (by_any _ _ _ _ B.out N.out _).mono ?_; rintro e w2 ⟨rfl, hb⟩; have HB2 := hidA hb; obtain ⟨hc2, hf2⟩ := bcell hb; have hz20 : w.heap.size < w2.heap.size := (by have := hb.size; simp at this; omega); have hz21 : w.heap.size + 1 < w2.heap.size := (by have := hb.size; simp at this; omega); clear hb)
  exact bodyPost_ret (v := .agg #[.int .i64 (oneA v k).lo, .int .i64 (oneA v k).hi, .int .i64 (oneA v k).m, .int .i64 (oneA v k).r, .int .i64 (oneA v k).k]) (by simp [results, Try.results17, go_sem, E.out, hc2, hz20, hz21]) rfl ⟨by rfl, (by repeat (first | with_reducible exact Below.refl _ _ | with_reducible exact HB2.out | with_reducible refine Below.setCell ?_ (by first | omega | (dsimp only; omega) | (simp; done) | (simp; omega)) _ | with_reducible refine Below.alloc ?_ (by first | omega | (dsimp only; omega) | (simp; done) | (simp; omega)) _ | with_reducible refine Below.drew ?_ | with_reducible refine Below.trans ?_ (HB2.out.mono (by first | omega | (dsimp only; omega) | (simp; done) | (simp; omega)))))⟩
set_option maxHeartbeats 400000 in
theorem all_any (k : Nat) (w : World) :
    Calls Try.prog 29 #[.int .i64 k] w fun e w' => e = .returned (.agg #[.int .i64 (allA k).lo, .int .i64 (allA k).hi, .int .i64 (allA k).m, .int .i64 (allA k).r, .int .i64 (allA k).k]) ∧ Below w.heap.size w w' := by
  have B : Hid (ByOk (-2147483648) 2147483647 1) := hidA (one_ok (by omega))
  have N : Hid (Near (-2147483648) 2147483647 1) := hidA ⟨by omega, by omega, by omega⟩
  have E : Hid (byA (-2147483648) 2147483647 1 k = allA k) := hidA rfl
  go_enter Try.func29, Try.ntmps29
  go_wp2_with (go_at_call 46; refine (by_any _ _ _ _ B.out N.out _).mono ?_; rintro e w2 ⟨rfl, hb⟩; have HB2 := hidA hb; obtain ⟨hc2, hf2⟩ := bcell hb; have hz20 : w.heap.size < w2.heap.size := (by have := hb.size; simp at this; omega); clear hb)
  exact bodyPost_ret (v := .agg #[.int .i64 (allA k).lo, .int .i64 (allA k).hi, .int .i64 (allA k).m, .int .i64 (allA k).r, .int .i64 (allA k).k]) (by simp [results, Try.results29, go_sem, E.out, hc2, hz20]) rfl ⟨by rfl, (by repeat (first | with_reducible exact Below.refl _ _ | with_reducible exact HB2.out | with_reducible refine Below.setCell ?_ (by first | omega | (dsimp only; omega) | (simp; done) | (simp; omega)) _ | with_reducible refine Below.alloc ?_ (by first | omega | (dsimp only; omega) | (simp; done) | (simp; omega)) _ | with_reducible refine Below.drew ?_ | with_reducible refine Below.trans ?_ (HB2.out.mono (by first | omega | (dsimp only; omega) | (simp; done) | (simp; omega)))))⟩
set_option maxHeartbeats 400000 in
theorem in_any (lo hi : Int) (k : Nat) (h : lo ≤ hi) (h1 : inV lo) (h2 : inV hi) (w : World) :
    Calls Try.prog 27 #[.agg #[.int .i64 lo, .int .i64 hi, .int .i64 k]] w fun e w' => e = .returned (.agg #[.int .i64 (byA lo hi 1 k).lo, .int .i64 (byA lo hi 1 k).hi, .int .i64 (byA lo hi 1 k).m, .int .i64 (byA lo hi 1 k).r, .int .i64 (byA lo hi 1 k).k]) ∧ Below w.heap.size w w' := by
  have B : Hid (ByOk lo hi 1) := hidA (one_ok h)
  have N : Hid (Near lo hi 1) := hidA ⟨by have := h1.1; omega, by have := h2.2; omega, by omega⟩
  clear h h1 h2
  go_enter Try.func27, Try.ntmps27
  go_wp2_with (go_at_call 46; refine (by_any _ _ _ _ B.out N.out _).mono ?_; rintro e w2 ⟨rfl, hb⟩; have HB2 := hidA hb; obtain ⟨hc2, hf2⟩ := bcell hb; have hz20 : w.heap.size < w2.heap.size := (by have := hb.size; simp at this; omega); have hz21 : w.heap.size + 1 < w2.heap.size := (by have := hb.size; simp at this; omega); clear hb)
  exact bodyPost_ret (v := .agg #[.int .i64 (byA lo hi 1 k).lo, .int .i64 (byA lo hi 1 k).hi, .int .i64 (byA lo hi 1 k).m, .int .i64 (byA lo hi 1 k).r, .int .i64 (byA lo hi 1 k).k]) (by simp [results, Try.results27, go_sem, hc2, hz20, hz21]) rfl ⟨by rfl, (by repeat (first | with_reducible exact Below.refl _ _ | with_reducible exact HB2.out | with_reducible refine Below.setCell ?_ (by first | omega | (dsimp only; omega) | (simp; done) | (simp; omega)) _ | with_reducible refine Below.alloc ?_ (by first | omega | (dsimp only; omega) | (simp; done) | (simp; omega)) _ | with_reducible refine Below.drew ?_ | with_reducible refine Below.trans ?_ (HB2.out.mono (by first | omega | (dsimp only; omega) | (simp; done) | (simp; omega)))))⟩
/-- Whether a number is a value of a set, as the reference asks. -/
def withinB (a : Ab) (v : Int) : Bool := decide (a.lo ≤ v) && (decide (v ≤ a.hi) && decide ((v - a.lo) % a.m = 0))
theorem within_iff {a : Ab} (A : Val a) (v : Int) : withinB a v = true ↔ Mem a v := by
  unfold withinB
  rw [mem_m A]
  simp only [Bool.and_eq_true, decide_eq_true_eq]
  rw [← Int.dvd_iff_emod_eq_zero]
structure Wb (a : Ab) : Prop where
  l : -2147483648 ≤ a.lo
  h : a.hi ≤ 2147483647
  m : 1 ≤ a.m
  m2 : a.m ≤ 4294967296
theorem val_wb {a : Ab} (A : Val a) : Wb a := ⟨A.l, A.h, m_pos A, by
  rcases A.s with ⟨_, e, _⟩ | ⟨lt, e, d, _⟩
  · omega
  · have := Int.le_of_dvd (by omega) d
    have := A.l; have := A.h; omega⟩
set_option maxHeartbeats 400000 in
theorem within_no1 (a : Ab) (A : Wb a) (v : Int) (h : ¬ a.lo ≤ v) (w : World) :
    Calls Try.prog 45 #[.agg #[.int .i64 a.lo, .int .i64 a.hi, .int .i64 a.m, .int .i64 a.r, .int .i64 a.k], .int .i64 v] w fun e w' => e = .returned (.bool false) ∧ Below w.heap.size w w' := by
  obtain ⟨a1, a2, a3, a4⟩ := A
  go_enter Try.func45, Try.ntmps45
  go_wp2
  go_ret
  exact ⟨rfl, (by repeat (first | with_reducible exact Below.refl _ _ | with_reducible refine Below.setCell ?_ (by first | omega | (dsimp only; omega) | (simp; done) | (simp; omega)) _ | with_reducible refine Below.alloc ?_ (by first | omega | (dsimp only; omega) | (simp; done) | (simp; omega)) _ | with_reducible refine Below.drew ?_))⟩
set_option maxHeartbeats 400000 in
theorem within_no2 (a : Ab) (A : Wb a) (v : Int) (h : a.lo ≤ v) (h2 : ¬ v ≤ a.hi) (w : World) :
    Calls Try.prog 45 #[.agg #[.int .i64 a.lo, .int .i64 a.hi, .int .i64 a.m, .int .i64 a.r, .int .i64 a.k], .int .i64 v] w fun e w' => e = .returned (.bool false) ∧ Below w.heap.size w w' := by
  obtain ⟨a1, a2, a3, a4⟩ := A
  go_enter Try.func45, Try.ntmps45
  go_wp2
  go_ret
  exact ⟨rfl, (by repeat (first | with_reducible exact Below.refl _ _ | with_reducible refine Below.setCell ?_ (by first | omega | (dsimp only; omega) | (simp; done) | (simp; omega)) _ | with_reducible refine Below.alloc ?_ (by first | omega | (dsimp only; omega) | (simp; done) | (simp; omega)) _ | with_reducible refine Below.drew ?_))⟩
set_option maxHeartbeats 400000 in
theorem within_no3 (a : Ab) (A : Wb a) (v : Int) (h : a.lo ≤ v) (h2 : v ≤ a.hi) (h3 : ((v - a.lo) % a.m == 0) = false) (w : World) :
    Calls Try.prog 45 #[.agg #[.int .i64 a.lo, .int .i64 a.hi, .int .i64 a.m, .int .i64 a.r, .int .i64 a.k], .int .i64 v] w fun e w' => e = .returned (.bool false) ∧ Below w.heap.size w w' := by
  obtain ⟨a1, a2, a3, a4⟩ := A
  go_enter Try.func45, Try.ntmps45
  go_wp2_with (go_at_call 42; refine (mod_any _ _ ⟨by omega, by omega⟩ (by omega) (by omega) _).mono ?_; rintro e w1 ⟨rfl, rfl⟩)
  go_ret
  exact ⟨rfl, (by repeat (first | with_reducible exact Below.refl _ _ | with_reducible refine Below.setCell ?_ (by first | omega | (dsimp only; omega) | (simp; done) | (simp; omega)) _ | with_reducible refine Below.alloc ?_ (by first | omega | (dsimp only; omega) | (simp; done) | (simp; omega)) _ | with_reducible refine Below.drew ?_))⟩
set_option maxHeartbeats 400000 in
theorem within_yes (a : Ab) (A : Wb a) (v : Int) (h : a.lo ≤ v) (h2 : v ≤ a.hi) (h3 : ((v - a.lo) % a.m == 0) = true) (w : World) :
    Calls Try.prog 45 #[.agg #[.int .i64 a.lo, .int .i64 a.hi, .int .i64 a.m, .int .i64 a.r, .int .i64 a.k], .int .i64 v] w fun e w' => e = .returned (.bool true) ∧ Below w.heap.size w w' := by
  obtain ⟨a1, a2, a3, a4⟩ := A
  go_enter Try.func45, Try.ntmps45
  go_wp2_with (go_at_call 42; refine (mod_any _ _ ⟨by omega, by omega⟩ (by omega) (by omega) _).mono ?_; rintro e w1 ⟨rfl, rfl⟩)
  go_ret
  exact ⟨rfl, (by repeat (first | with_reducible exact Below.refl _ _ | with_reducible refine Below.setCell ?_ (by first | omega | (dsimp only; omega) | (simp; done) | (simp; omega)) _ | with_reducible refine Below.alloc ?_ (by first | omega | (dsimp only; omega) | (simp; done) | (simp; omega)) _ | with_reducible refine Below.drew ?_))⟩
theorem within_any (a : Ab) (A : Wb a) (v : Int) (w : World) :
    Calls Try.prog 45 #[.agg #[.int .i64 a.lo, .int .i64 a.hi, .int .i64 a.m, .int .i64 a.r, .int .i64 a.k], .int .i64 v] w fun e w' => e = .returned (.bool (withinB a v)) ∧ Below w.heap.size w w' := by
  by_cases h : a.lo ≤ v
  · by_cases h2 : v ≤ a.hi
    · by_cases h3 : (v - a.lo) % a.m = 0
      · rw [show withinB a v = true by unfold withinB; simp [h, h2, h3]]; exact within_yes a A v h h2 (by simpa using h3) w
      · rw [show withinB a v = false by unfold withinB; simp [h3]]; exact within_no3 a A v h h2 (by simpa using h3) w
    · rw [show withinB a v = false by unfold withinB; simp [h2]]; exact within_no2 a A v h h2 w
  · rw [show withinB a v = false by unfold withinB; simp [h]]; exact within_no1 a A v h w
end Go.Proofs.Ytnholabamjodhaa

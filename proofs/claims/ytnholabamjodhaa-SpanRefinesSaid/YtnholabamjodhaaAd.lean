import Derived.Test.YtnholabamjodhaaAc
import Derived.Test.YtnholabamjodhaaAn
namespace Go.Proofs.Ytnholabamjodhaa
open Go.RowKit Go.Instr Sp
set_option linter.unusedVariables false
set_option linter.unusedSimpArgs false

/-! The reference's sets, by value: words, order, joins. -/
set_option maxHeartbeats 400000 in
theorem has_yes (a : Ab) (A : Wb a) (v : Int) (k : Nat) (h : withinB a v = true) (hm : (bits .andNot .i64 (k : Int) (a.k : Int) == 0) = sbB k a.k) (w : World) :
    Calls Try.prog 15 #[.agg #[.int .i64 a.lo, .int .i64 a.hi, .int .i64 a.m, .int .i64 a.r, .int .i64 a.k], .agg #[.int .i64 v, .int .i64 k]] w fun e w' => e = .returned (.bool (sbB k a.k)) ∧ Below w.heap.size w w' := by
  go_enter Try.func15, Try.ntmps15
  go_wp2_with (go_at_call 45; refine (within_any _ A _ _).mono ?_; rintro e w1 ⟨rfl, hb⟩; have HB1 := hidA hb; obtain ⟨hc1, hf1⟩ := bcell hb; have hz10 : w.heap.size < w1.heap.size := (by have := hb.size; simp at this; omega); have hz11 : w.heap.size + 1 < w1.heap.size := (by have := hb.size; simp at this; omega); clear hb)
  go_ret
  exact ⟨rfl, (by repeat (first | with_reducible exact Below.refl _ _ | with_reducible exact HB1.out | with_reducible refine Below.setCell ?_ (by first | omega | (dsimp only; omega) | (simp; done) | (simp; omega)) _ | with_reducible refine Below.alloc ?_ (by first | omega | (dsimp only; omega) | (simp; done) | (simp; omega)) _ | with_reducible refine Below.drew ?_ | with_reducible refine Below.trans ?_ (HB1.out.mono (by first | omega | (dsimp only; omega) | (simp; done) | (simp; omega)))))⟩
set_option maxHeartbeats 400000 in
theorem has_no (a : Ab) (A : Wb a) (v : Int) (k : Nat) (h : withinB a v = false) (w : World) :
    Calls Try.prog 15 #[.agg #[.int .i64 a.lo, .int .i64 a.hi, .int .i64 a.m, .int .i64 a.r, .int .i64 a.k], .agg #[.int .i64 v, .int .i64 k]] w fun e w' => e = .returned (.bool false) ∧ Below w.heap.size w w' := by
  go_enter Try.func15, Try.ntmps15
  go_wp2_with (go_at_call 45; refine (within_any _ A _ _).mono ?_; rintro e w1 ⟨rfl, hb⟩; have HB1 := hidA hb; obtain ⟨hc1, hf1⟩ := bcell hb; have hz10 : w.heap.size < w1.heap.size := (by have := hb.size; simp at this; omega); have hz11 : w.heap.size + 1 < w1.heap.size := (by have := hb.size; simp at this; omega); clear hb)
  go_ret
  exact ⟨rfl, (by repeat (first | with_reducible exact Below.refl _ _ | with_reducible exact HB1.out | with_reducible refine Below.setCell ?_ (by first | omega | (dsimp only; omega) | (simp; done) | (simp; omega)) _ | with_reducible refine Below.alloc ?_ (by first | omega | (dsimp only; omega) | (simp; done) | (simp; omega)) _ | with_reducible refine Below.drew ?_ | with_reducible refine Below.trans ?_ (HB1.out.mono (by first | omega | (dsimp only; omega) | (simp; done) | (simp; omega)))))⟩
/-- Whether a word is in a set. -/
def hasB (a : Ab) (v : Int) (k : Nat) : Bool := withinB a v && sbB k a.k
theorem hasB_iff {a : Ab} (A : Val a) (v : Int) (k : Nat) : hasB a v k = true ↔ Mem a v ∧ Sb k a.k := by
  unfold hasB; rw [Bool.and_eq_true, within_iff A, sbB_iff]
theorem has_any (a : Ab) (A : Wb a) (v : Int) (k : Nat) (hk : k < 256) (hk2 : a.k < 256) (w : World) :
    Calls Try.prog 15 #[.agg #[.int .i64 a.lo, .int .i64 a.hi, .int .i64 a.m, .int .i64 a.r, .int .i64 a.k], .agg #[.int .i64 v, .int .i64 k]] w fun e w' => e = .returned (.bool (hasB a v k)) ∧ Below w.heap.size w w' := by
  unfold hasB
  cases h : withinB a v
  · exact has_no a A v k h w
  · exact has_yes a A v k h (bits_not8 hk hk2) w
set_option maxHeartbeats 400000 in
theorem bounded_in (lo hi m : Int) (k : Nat) (B : ByOk lo hi m) (hm : m ≤ 9223372036854775807) (h1 : decide (inV lo) = true) (h2 : decide (inV hi) = true) (w : World) :
    Calls Try.prog 59 #[.int .i64 lo, .int .i64 hi, .int .i64 m, .int .i64 k] w fun e w' => e = .returned (.agg #[.int .i64 (byA lo hi m k).lo, .int .i64 (byA lo hi m k).hi, .int .i64 (byA lo hi m k).m, .int .i64 (byA lo hi m k).r, .int .i64 (byA lo hi m k).k]) ∧ Below w.heap.size w w' := by
  have N : Hid (Near lo hi m) := hidA ⟨by have := (of_decide_eq_true h1).1; omega, by have := (of_decide_eq_true h2).2; omega, hm⟩
  have B := hidA B
  go_enter Try.func59, Try.ntmps59
  go_wp2_with (first | (go_at_call 86; refine (value_any _ _).mono ?_; rintro e w1 ⟨rfl, rfl⟩) | (go_at_call 46; refine (by_any _ _ _ _ B.out N.out _).mono ?_; rintro e w2 ⟨rfl, hb⟩; have HB2 := hidA hb; obtain ⟨hc2, hf2⟩ := bcell hb; have hz20 : w.heap.size < w2.heap.size := (by have := hb.size; simp at this; omega); clear hb))
  exact bodyPost_ret (v := .agg #[.int .i64 (byA lo hi m k).lo, .int .i64 (byA lo hi m k).hi, .int .i64 (byA lo hi m k).m, .int .i64 (byA lo hi m k).r, .int .i64 (byA lo hi m k).k]) (by simp [results, Try.results59, go_sem, hc2, hz20]) rfl ⟨by rfl, (by repeat (first | with_reducible exact Below.refl _ _ | with_reducible exact HB2.out | with_reducible refine Below.setCell ?_ (by first | omega | (dsimp only; omega) | (simp; done) | (simp; omega)) _ | with_reducible refine Below.alloc ?_ (by first | omega | (dsimp only; omega) | (simp; done) | (simp; omega)) _ | with_reducible refine Below.drew ?_ | with_reducible refine Below.trans ?_ (HB2.out.mono (by first | omega | (dsimp only; omega) | (simp; done) | (simp; omega)))))⟩
set_option maxHeartbeats 400000 in
theorem bounded_out1 (lo hi m : Int) (k : Nat) (m0 : 0 ≤ m) (hl : Far lo) (hl2 : lo ≤ 4611686016279904256) (h1 : decide (inV lo) = false) (w : World) :
    Calls Try.prog 59 #[.int .i64 lo, .int .i64 hi, .int .i64 m, .int .i64 k] w fun e w' => e = .returned (.agg #[.int .i64 (likeA lo (pw m) (-2147483648) 2147483647 k).lo, .int .i64 (likeA lo (pw m) (-2147483648) 2147483647 k).hi, .int .i64 (likeA lo (pw m) (-2147483648) 2147483647 k).m, .int .i64 (likeA lo (pw m) (-2147483648) 2147483647 k).r, .int .i64 (likeA lo (pw m) (-2147483648) 2147483647 k).k]) ∧ Below w.heap.size w w' := by
  have P := pw_ok m
  have Q := like_some lo m
  have c1 : Hid (1 ≤ pw m) := hidA P.1
  have c2 : Hid (pw m ≤ 4611686018427387904) := hidA (by have := Int.le_of_dvd (by omega) P.2.1; omega)
  have c3 : Hid (-2147483648 + (lo - -2147483648) % pw m ≤ 2147483647) := hidA (by
    have := (like_mem k P.1 Q (wr lo)).2 Q
    have := this.1; unfold likeA at this; rw [by_lo] at this; have := (wr_range lo).2; omega)
  have c4 : Hid (Far (lo - -2147483648)) := hidA ⟨by have := hl.l; omega, by omega⟩
  have HL := hidA hl
  clear hl P Q
  go_enter Try.func59, Try.ntmps59
  go_wp2_with (first | (go_at_call 86; refine (value_any _ _).mono ?_; rintro e w1 ⟨rfl, rfl⟩) | (go_at_call 87; refine (power_any _ m0 _).mono ?_; rintro e w1 ⟨rfl, rfl⟩) | (go_at_call 55; refine (like_any _ _ _ _ _ HL.out c1.out c2.out (by omega) (by omega) (by omega) c4.out c3.out _).mono ?_; rintro e w2 ⟨rfl, hb⟩; have HB2 := hidA hb; obtain ⟨hc2, hf2⟩ := bcell hb; have hz20 : w.heap.size < w2.heap.size := (by have := hb.size; simp at this; omega); clear hb))
  exact bodyPost_ret (v := .agg #[.int .i64 (likeA lo (pw m) (-2147483648) 2147483647 k).lo, .int .i64 (likeA lo (pw m) (-2147483648) 2147483647 k).hi, .int .i64 (likeA lo (pw m) (-2147483648) 2147483647 k).m, .int .i64 (likeA lo (pw m) (-2147483648) 2147483647 k).r, .int .i64 (likeA lo (pw m) (-2147483648) 2147483647 k).k]) (by simp [results, Try.results59, go_sem, hc2, hz20]) rfl ⟨by rfl, (by repeat (first | with_reducible exact Below.refl _ _ | with_reducible exact HB2.out | with_reducible refine Below.setCell ?_ (by first | omega | (dsimp only; omega) | (simp; done) | (simp; omega)) _ | with_reducible refine Below.alloc ?_ (by first | omega | (dsimp only; omega) | (simp; done) | (simp; omega)) _ | with_reducible refine Below.drew ?_ | with_reducible refine Below.trans ?_ (HB2.out.mono (by first | omega | (dsimp only; omega) | (simp; done) | (simp; omega)))))⟩
set_option maxHeartbeats 400000 in
theorem bounded_out2 (lo hi m : Int) (k : Nat) (m0 : 0 ≤ m) (hl : Far lo) (hl2 : lo ≤ 4611686016279904256) (h1 : decide (inV lo) = true) (h2 : decide (inV hi) = false) (w : World) :
    Calls Try.prog 59 #[.int .i64 lo, .int .i64 hi, .int .i64 m, .int .i64 k] w fun e w' => e = .returned (.agg #[.int .i64 (likeA lo (pw m) (-2147483648) 2147483647 k).lo, .int .i64 (likeA lo (pw m) (-2147483648) 2147483647 k).hi, .int .i64 (likeA lo (pw m) (-2147483648) 2147483647 k).m, .int .i64 (likeA lo (pw m) (-2147483648) 2147483647 k).r, .int .i64 (likeA lo (pw m) (-2147483648) 2147483647 k).k]) ∧ Below w.heap.size w w' := by
  have P := pw_ok m
  have Q := like_some lo m
  have c1 : Hid (1 ≤ pw m) := hidA P.1
  have c2 : Hid (pw m ≤ 4611686018427387904) := hidA (by have := Int.le_of_dvd (by omega) P.2.1; omega)
  have c3 : Hid (-2147483648 + (lo - -2147483648) % pw m ≤ 2147483647) := hidA (by
    have := (like_mem k P.1 Q (wr lo)).2 Q
    have := this.1; unfold likeA at this; rw [by_lo] at this; have := (wr_range lo).2; omega)
  have c4 : Hid (Far (lo - -2147483648)) := hidA ⟨by have := hl.l; omega, by omega⟩
  have HL := hidA hl
  clear hl P Q
  go_enter Try.func59, Try.ntmps59
  go_wp2_with (first | (go_at_call 86; refine (value_any _ _).mono ?_; rintro e w1 ⟨rfl, rfl⟩) | (go_at_call 87; refine (power_any _ m0 _).mono ?_; rintro e w1 ⟨rfl, rfl⟩) | (go_at_call 55; refine (like_any _ _ _ _ _ HL.out c1.out c2.out (by omega) (by omega) (by omega) c4.out c3.out _).mono ?_; rintro e w2 ⟨rfl, hb⟩; have HB2 := hidA hb; obtain ⟨hc2, hf2⟩ := bcell hb; have hz20 : w.heap.size < w2.heap.size := (by have := hb.size; simp at this; omega); clear hb))
  exact bodyPost_ret (v := .agg #[.int .i64 (likeA lo (pw m) (-2147483648) 2147483647 k).lo, .int .i64 (likeA lo (pw m) (-2147483648) 2147483647 k).hi, .int .i64 (likeA lo (pw m) (-2147483648) 2147483647 k).m, .int .i64 (likeA lo (pw m) (-2147483648) 2147483647 k).r, .int .i64 (likeA lo (pw m) (-2147483648) 2147483647 k).k]) (by simp [results, Try.results59, go_sem, hc2, hz20]) rfl ⟨by rfl, (by repeat (first | with_reducible exact Below.refl _ _ | with_reducible exact HB2.out | with_reducible refine Below.setCell ?_ (by first | omega | (dsimp only; omega) | (simp; done) | (simp; omega)) _ | with_reducible refine Below.alloc ?_ (by first | omega | (dsimp only; omega) | (simp; done) | (simp; omega)) _ | with_reducible refine Below.drew ?_ | with_reducible refine Below.trans ?_ (HB2.out.mono (by first | omega | (dsimp only; omega) | (simp; done) | (simp; omega)))))⟩
theorem bounded_any (lo hi m : Int) (k : Nat) (B : ByOk lo hi m) (hm : m ≤ 9223372036854775807) (hl : Far lo) (hl2 : lo ≤ 4611686016279904256) (w : World) :
    Calls Try.prog 59 #[.int .i64 lo, .int .i64 hi, .int .i64 m, .int .i64 k] w fun e w' => e = .returned (.agg #[.int .i64 (bdA lo hi m k).lo, .int .i64 (bdA lo hi m k).hi, .int .i64 (bdA lo hi m k).m, .int .i64 (bdA lo hi m k).r, .int .i64 (bdA lo hi m k).k]) ∧ Below w.heap.size w w' := by
  unfold bdA
  cases h1 : decide (inV lo)
  · rw [if_neg (fun h => absurd h.1 (of_decide_eq_false h1))]; exact bounded_out1 lo hi m k B.m0 hl hl2 h1 w
  · cases h2 : decide (inV hi)
    · rw [if_neg (fun h => absurd h.2 (of_decide_eq_false h2))]; exact bounded_out2 lo hi m k B.m0 hl hl2 h1 h2 w
    · rw [if_pos ⟨of_decide_eq_true h1, of_decide_eq_true h2⟩]; exact bounded_in lo hi m k B hm h1 h2 w
end Go.Proofs.Ytnholabamjodhaa

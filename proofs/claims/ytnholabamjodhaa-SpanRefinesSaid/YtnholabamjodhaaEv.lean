import Derived.Test.YtnholabamjodhaaEx

namespace Go.Proofs.Ytnholabamjodhaa
open Go.RowKit Go.Instr
set_option linter.unusedVariables false
set_option linter.unusedSimpArgs false

/-! 'num.Eval' and what it calls. -/
def elemF (l : List Int) (n : Int) : Int := if 0 ≤ n ∧ n < l.length then wrap32 (l.getD n.toNat 0) else 0

mutual
def evalE (V L : List Int) : Ex → Int
  | .mk op n v l => if op = 1 then wrap32 v else if op = 2 then elemF V n else if op = 3 then elemF L n else opF op ((evalsE V L l).getD 0 0) ((evalsE V L l).getD 1 0)
def evalsE (V L : List Int) : List Ex → List Int
  | [] => []
  | t :: r => evalE V L t :: evalsE V L r
end

set_option maxHeartbeats 400000 in
theorem isop_any (n : Int) (w : World) :
    Calls Try.prog 100 #[.int .i64 n] w fun e w' => e = .returned (.bool (decide (4 ≤ n) && decide (n ≤ 10))) ∧ w = w' := by
  by_cases h : 4 ≤ n
  · by_cases h2 : n ≤ 10
    all_goals
      go_enter Try.func100, Try.ntmps100
      go_wp2
      go_ret
      exact ⟨by simp [h, h2], rfl⟩
  · go_enter Try.func100, Try.ntmps100
    go_wp2
    go_ret
    exact ⟨by have h' : decide (4 ≤ n) = false := by simpa using h
              rw [h']; rfl, rfl⟩

set_option maxHeartbeats 400000 in
theorem element_any (L : List Int) (s : Value) (n : Int) (w : World) (hs : intsIn w L s) :
    Calls Try.prog 99 #[s, .int .i64 n] w fun e w' => e = .returned (.int .i64 (elemF L n)) ∧ w = w' := by
  obtain ⟨oa, cap, rfl, hl, hm, hc⟩ := hs
  by_cases h0 : n < 0
  · have hr : elemF L n = 0 := by unfold elemF; rw [if_neg (by omega)]
    rw [hr]
    clear hr hc
    go_enter Try.func99, Try.ntmps99
    go_wp2
    go_ret
    exact ⟨rfl, rfl⟩
  · obtain ⟨k, rfl⟩ := Int.eq_ofNat_of_zero_le (Int.not_lt.1 h0)
    by_cases h1 : L.length ≤ k
    · have hr : elemF L k = 0 := by unfold elemF; rw [if_neg (by omega)]
      rw [hr]
      clear hr hc
      go_enter Try.func99, Try.ntmps99
      go_wp2
      go_ret
      exact ⟨rfl, rfl⟩
    · have hr : elemF L k = wrap32 (L.getD k 0) := by unfold elemF; rw [if_pos (by omega)]; rfl
      rw [hr]
      obtain ⟨b, off, rfl, hcell⟩ := hc k (by omega)
      clear hr hc
      have hlt : (k : Int) < (L.length : Int) := by omega
      generalize L.getD k 0 = z at *
      generalize L.length = len at *
      go_enter Try.func99, Try.ntmps99
      go_wp2_with (first | (go_at_call 73; refine (wrap_any _ _).mono ?_; rintro e w2 ⟨rfl, rfl⟩))
      go_ret
      exact ⟨rfl, rfl⟩

/-- What 'num.Eval' leaves for this expression. -/
def EvalOk (V L : List Int) (t : Ex) : Prop := ∀ (x vs ls : Value) (w : World), exIn w t x → intsIn w V vs → intsIn w L ls →
  Calls Try.prog 92 #[x, vs, ls] w fun e w' => e = .returned (.int .i64 (evalE V L t)) ∧ Below w.heap.size w w'

set_option maxHeartbeats 400000 in
theorem values_any (V L : List Int) (l : List Ex) (IH : ∀ t, t ∈ l → EvalOk V L t) (oa : Option Addr) (cap : Nat) (vs ls : Value) (w : World) (hx : exsIn w l oa 0) (hl : l.length ≤ cap) (hm : cap ≤ 9223372036854775807)
    (hv : intsIn w V vs) (hL : intsIn w L ls) :
    Calls Try.prog 75 #[.slice oa l.length cap, vs, ls] w fun e w' => e = .returned (.tuple #[.int .i64 ((evalsE V L l).getD 0 0), .int .i64 ((evalsE V L l).getD 1 0)]) ∧ Below w.heap.size w w' := by
  cases l with
  | nil =>
    simp only [List.length_nil] at *
    rw [evalsE]
    clear IH hx hv hL
    go_enter Try.func75, Try.ntmps75
    go_wp2
    go_ret2
    exact ⟨by simp, Below.refl _ _⟩
  | cons t r =>
    obtain ⟨b, off, x0, x1, x2, x3, rfl, c0, c1, c2, c3, hin⟩ := exsIn_at hx 0 t rfl
    simp only [Nat.zero_mul, Nat.add_zero] at c0 c1 c2 c3
    have ht := IH t (List.mem_cons_self ..) (.agg #[x0, x1, x2, x3]) vs ls w hin hv hL
    rw [evalsE]
    cases r with
    | nil =>
      rw [evalsE]
      simp only [List.length_cons, List.length_nil] at *
      clear IH hx
      have Ht := hid ht; clear ht
      have Hin := hid hin; clear hin
      have Hv := hid hv; clear hv
      have HL := hid hL; clear hL
      go_enter Try.func75, Try.ntmps75
      go_wp2_with fail
      refine Ht.out.mono ?_
      rintro e w1 ⟨rfl, hb⟩
      go_wp2
      go_ret2
      exact ⟨by simp, hb⟩
    | cons t2 r2 =>
      obtain ⟨b', off', y0, y1, y2, y3, hoa, d0, d1, d2, d3, hin2⟩ := exsIn_at hx 1 t2 rfl
      simp only [Option.some.injEq, Addr.mk.injEq, and_true] at hoa
      obtain ⟨rfl, rfl⟩ := hoa
      simp only [Nat.zero_add, Nat.one_mul, Nat.add_assoc, Nat.reduceAdd] at d0 d1 d2 d3
      have ht2 : ∀ w1, Below w.heap.size w w1 → _ := fun w1 hb => IH t2 (by simp) (.agg #[y0, y1, y2, y3]) vs ls w1 (exIn_below hb _ _ hin2) (intsIn_below hb hv) (intsIn_below hb hL)
      have e0 : ∀ w1, Below w.heap.size w w1 → w1.cell? ⟨b, off + 4, none⟩ = some y0 := fun w1 hb => cell_below hb d0
      have e1 : ∀ w1, Below w.heap.size w w1 → w1.cell? ⟨b, off + 5, none⟩ = some y1 := fun w1 hb => cell_below hb d1
      have e2 : ∀ w1, Below w.heap.size w w1 → w1.cell? ⟨b, off + 6, none⟩ = some y2 := fun w1 hb => cell_below hb d2
      have e3 : ∀ w1, Below w.heap.size w w1 → w1.cell? ⟨b, off + 7, none⟩ = some y3 := fun w1 hb => cell_below hb d3
      rw [evalsE]
      simp only [List.length_cons] at *
      clear IH hx hin2 d0 d1 d2 d3 hin hv hL
      have Ht := hid ht; clear ht
      have Ht2 := hid ht2; clear ht2
      have E0 := hid e0; clear e0
      have E1 := hid e1; clear e1
      have E2 := hid e2; clear e2
      have E3 := hid e3; clear e3
      generalize r2.length = n at *
      generalize evalsE V L r2 = rest at *
      go_enter Try.func75, Try.ntmps75
      go_wp2_with fail
      refine Ht.out.mono ?_
      rintro e w1 ⟨rfl, hb⟩
      have e0 := E0.out w1 hb
      have e1 := E1.out w1 hb
      have e2 := E2.out w1 hb
      have e3 := E3.out w1 hb
      go_wp2_with fail
      refine (Ht2.out w1 hb).mono ?_
      rintro e w2 ⟨rfl, hb2⟩
      clear e0 e1 e2 e3
      go_wp2
      go_ret2
      exact ⟨by simp, hb.trans (hb2.mono hb.size)⟩
end Go.Proofs.Ytnholabamjodhaa

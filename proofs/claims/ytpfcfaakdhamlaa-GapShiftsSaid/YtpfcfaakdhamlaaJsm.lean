import Derived.Test.YtpfcfaakdhamlaaJu
import Derived.Test.YtpfcfaakdhamlaaJop
namespace Go.Proofs.Ytpfcfaakdhamlaa
open Go.RowKit Go.Instr Go.Deep
set_option maxRecDepth 100000
set_option linter.unusedVariables false
set_option linter.unusedSimpArgs false

/-! Chains of shifts. -/
def sgn (k : Nat) (x : Int) : Int := if k % 2 = 1 then -x else x
def ssum (l : List Int) : Nat → Int
  | 0 => 0
  | k + 1 => ssum l k + sgn k (l.getD k 0)
def knw (l : List Int) : Nat → Bool
  | 0 => true
  | k + 1 => knw l k && nearB (ssum l (k + 1))
theorem ssum_bd {l : List Int} (h : ∀ i, -2147483648 ≤ l.getD i 0 ∧ l.getD i 0 ≤ 2147483647) : ∀ k : Nat, -(2147483648 * (k : Int)) ≤ ssum l k ∧ ssum l k ≤ 2147483648 * (k : Int)
  | 0 => by simp [ssum]
  | k + 1 => by
    have ih := ssum_bd h k
    have hk := h k
    unfold ssum sgn
    split <;> omega
/-- What is known on the way. -/
structure InvS (Z : Nat → Nat → Int) (at_ q : Nat) (S : Int) (kb : Bool) : Prop where
  ok : Zok 5 3 Z
  lt : at_ < 5
  oth : ∀ j, j < 3 → j ≠ q → Z at_ j = 1099511627776
  own : Z at_ q = if kb = true then S else 1099511627776
theorem InvS.start {q : Nat} (hq : q < 3) : InvS newF q q 0 true :=
  ⟨fun i j _ _ => newF_fine i j, by omega, fun j _ hj => by unfold newF; rw [if_neg (fun e => hj e.symm)], by unfold newF; simp⟩
theorem sumF_fine (a k : Int) : fineB (sumF a k) = true := by
  unfold sumF
  split
  · rename_i h
    unfold fineB
    rw [h]; simp
  · decide
theorem sumF_no {d : Int} (h1 : -2147483648 ≤ d) (h2 : d ≤ 2147483648) : sumF 1099511627776 d = 1099511627776 := by
  unfold sumF
  split
  · rename_i h
    rw [nearB_iff] at h
    omega
  · rfl
theorem setN_ok {n m : Nat} {Z : Nat → Nat → Int} (h : Zok n m Z) (vv : Int) (wh sh : Bool) (sw sc : Int) : Zok n m (setN n m Z vv wh sh sw sc) := fun i j hi hj => by
  unfold setN
  split
  · split
    · exact sumF_fine _ _
    · decide
  · exact h i j hi hj
theorem InvS.step {Z : Nat → Nat → Int} {at_ q : Nat} {S : Int} {kb : Bool} (h : InvS Z at_ q S kb) (hq : q < 3) {d : Int} (h1 : -2147483648 ≤ d) (h2 : d ≤ 2147483648) {nx : Nat} (hn : nx < 5) :
    InvS (setN 5 3 Z nx true true at_ d) nx q (S + d) (kb && nearB (S + d)) := by
  have e : ∀ j, j < 3 → setN 5 3 Z nx true true at_ d nx j = sumF (Z at_ j) d := fun j hj => by
    unfold setN
    rw [if_pos rfl, boundF_in Z h.lt hj]
    rfl
  refine ⟨setN_ok h.ok _ _ _ _ _, hn, fun j hj hjq => ?_, ?_⟩
  · rw [e j hj, h.oth j hj hjq]
    exact sumF_no h1 h2
  · rw [e q hq, h.own]
    cases kb
    · simp only [Bool.false_and]
      exact sumF_no h1 h2
    · simp only [Bool.true_and]
      unfold sumF
      rfl
theorem sh_plus {a : Nat} {c : Int} (ha : a < 5) (h1 : -2147483648 ≤ c) (h2 : c ≤ 2147483647) : shiftT 5 4 0 [.mk 2 (a : Int) 0 [], .mk 1 0 c []] = (a, c, true) := by
  unfold shiftT
  have e : formT 4 0 [.mk 2 (a : Int) 0 [], .mk 1 0 c []] = ((a : Int), c, true) := by unfold formT; simp
  rw [e]
  have hb : shiftB ((5 : Nat) : Int) (a : Int) c true = true := by unfold shiftB; simp; omega
  rw [if_pos hb]
  simp
theorem wrap64_neg {c : Int} (h1 : -2147483648 ≤ c) (h2 : c ≤ 2147483648) : wrap64 (-c) = -c := by
  have := IntWalk.i64_in (-c) (by omega)
  first | exact this | (unfold wrap64; exact this) | (unfold wrap64; omega)
theorem sh_minus {a : Nat} {c : Int} (ha : a < 5) (h1 : -2147483648 ≤ c) (h2 : c ≤ 2147483647) : shiftT 5 5 0 [.mk 2 (a : Int) 0 [], .mk 1 0 c []] = (a, -c, true) := by
  unfold shiftT
  have e : formT 5 0 [.mk 2 (a : Int) 0 [], .mk 1 0 c []] = ((a : Int), -c, true) := by unfold formT; simp [wrap64_neg h1 (show c ≤ 2147483648 by omega)]
  rw [e]
  have hb : shiftB ((5 : Nat) : Int) (a : Int) (-c) true = true := by unfold shiftB; simp; omega
  rw [if_pos hb]
  simp
/-- Set by a shift. -/
theorem setP {w : World} {lo b : Nat} {R C : Nat → Nat} {Z : Nat → Nat → Int} (c : Nat) (h : Gr w lo b 5 3 R C Z) (hZ : Zok 5 3 Z) (op : Int) (hop : op = 4 ∨ op = 5) {a : Nat} (ha : a < 5) {x : Int} (h1 : -2147483648 ≤ x) (h2 : x ≤ 2147483647) (nx : Nat) (oa : Option Addr) (cap : Nat) (hx : exIn w (.mk op 0 0 [.mk 2 (a : Int) 0 [], .mk 1 0 x []]) (.agg #[.int .i64 op, .int .i64 0, .int .i64 0, .slice oa 2 cap])) {d : Int} (hd : d = if op = 4 then x else -x) :
    Calls Try.prog 15 #[.slice (some ⟨b, 0, none⟩) 5 c, .int .i64 (nx : Int), .agg #[.int .i64 op, .int .i64 0, .int .i64 0, .slice oa 2 cap], .bool true] w fun e w' => GrRet w.heap.size 5 3 (setN 5 3 Z nx true true a d) w e w' := by
  have k := gset2 w c h nx op 0 0 _ oa 2 cap hx rfl true (by omega) (by omega) hZ
  rcases hop with rfl | rfl
  · rw [sh_plus ha h1 h2] at k
    rw [hd, if_pos rfl]
    exact k
  · rw [sh_minus ha h1 h2] at k
    rw [hd, if_neg (by decide)]
    exact k
end Go.Proofs.Ytpfcfaakdhamlaa

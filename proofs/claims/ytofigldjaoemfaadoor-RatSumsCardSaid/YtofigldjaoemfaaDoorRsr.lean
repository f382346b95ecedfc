import Derived.Test.YtofigldjaoemfaaDoorRsq
import Derived.Laws.BitsLemmas
namespace Go.Proofs.YtofigldjaoemfaaDoor
open Go.RowKit Go.Instr
set_option linter.unusedVariables false

/-- The denominator of an entry. -/
def denOf (y : Int) : Int := 1 + bits .and .i16 y 32767 % 12
theorem and_short (y : Int) : 0 ≤ bits .and .i16 y 32767 ∧ bits .and .i16 y 32767 ≤ 32767 := by
  have e : bits .and .i16 y 32767 = IntKind.i16.wrap (((BitVec.ofInt 16 y &&& BitVec.ofInt 16 32767).toNat : Nat) : Int) := rfl
  have h2 : (BitVec.ofInt 16 y &&& BitVec.ofInt 16 32767).toNat ≤ 32767 := by
    rw [BitVec.toNat_and]
    exact Nat.le_trans Nat.and_le_right (by decide)
  rw [e]
  have w : ∀ m : Nat, m ≤ 32767 → IntKind.i16.wrap (m : Int) = (m : Int) := by
    intro m hm
    unfold IntKind.wrap
    simp [IntKind.bits, IntKind.signed]
    omega
  rw [w _ h2]
  omega
theorem den_bd (y : Int) : 1 ≤ denOf y ∧ denOf y ≤ 12 := by
  have := and_short y
  unfold denOf
  omega
/-- The fractions of the first entries. -/
def fracs (l : List (Int × Int)) : List (Int × Int) := l.map fun q => fracOf q.1 (denOf q.2)
theorem fracs_snoc (l : List (Int × Int)) (k : Nat) (h : k < l.length) : fracs (l.take (k + 1)) = fracs (l.take k) ++ [fracOf (l.getD k (0, 0)).1 (denOf (l.getD k (0, 0)).2)] := by
  unfold fracs
  rw [List.take_add_one, List.map_append, List.getElem?_eq_getElem h]
  simp [List.getD, List.getElem?_eq_getElem h]
theorem fracs_small (l : List (Int × Int)) (h : ∀ q ∈ l, Sh q.1 ∧ Sh q.2) (k : Nat) : Small (fracs (l.take k)) := by
  intro p hp
  obtain ⟨q, hq, rfl⟩ := List.mem_map.1 hp
  exact small_frac _ _ (h q (List.mem_of_mem_take hq)).1 (den_bd _)
/-- What the loop keeps. -/
def Rel1 (w : World) (l : List (Int × Int)) (n : Nat) (va vb vi : Value) (wr : World) : Prop := ∃ k ga ca gb cb : Nat, k ≤ n ∧ k ≤ 20 ∧ va = .slice (some ⟨ga, 0, none⟩) k ca ∧ vb = .slice (some ⟨gb, 0, none⟩) k cb ∧ vi = .int .i64 (k : Int) ∧ Hid (TwoRows w.heap.size (fracs (l.take k)) k ga ca gb cb wr) ∧ Hid (Below w.heap.size w wr)
theorem total_c {w W : World} (L : List (Int × Int)) (N D : Int) (hS : Small L) (hl : L.length ≤ 900) (b off cap n : Nat) (hn : L.length = n) (hc : n ≤ cap) (h : FracsAt w L b off) (hN : sumN L = N) (hD : sumD L = D) (hb : Below w.heap.size w W) :
    Calls Tryd.prog 7 #[.slice (some ⟨b, off, none⟩) n cap] W fun e w' => e = .returned (.agg #[.int .i64 N, .int .i64 D, .int .i64 0]) ∧ Below W.heap.size W w' := by
  subst hn hN hD
  have := total_lies L b off cap W hc (by omega) (h.below hb) hS.fr
  rw [(sum_small L hS hl).2.2.1] at this
  exact this
/-- What the law asks of the list. -/
theorem sums_five {A : List (Int × Int)} (h : Small A) (hl : A.length ≤ 20) (q : Nat) : ∃ WN WD N1 D1 N2 D2 : Int, sumN A = WN ∧ sumD A = WD ∧ sumN A.reverse = WN ∧ sumD A.reverse = WD ∧ sumN (A.take q) = N1 ∧ sumD (A.take q) = D1 ∧ sumN (A.drop q) = N2 ∧ sumD (A.drop q) = D2 ∧ Fr N1 D1 ∧ Fr N2 D2 ∧ Trip (Rat.divInt N1 D1 + Rat.divInt N2 D2) WN WD 0 := by
  have hr := sum_same (small_rev h) h (by rw [List.length_reverse]; omega) (by omega) (sumQ_reverse A)
  exact ⟨_, _, _, _, _, _, rfl, rfl, hr.1, hr.2, rfl, rfl, rfl, rfl, (sum_fr _ (small_take h q) (by rw [List.length_take]; omega)).1, (sum_fr _ (small_drop h q) (by rw [List.length_drop]; omega)).1, sum_parts h (by omega) q⟩
/-- An element of a list of small fractions. -/
theorem small_at {A : List (Int × Int)} (h : Small A) {q : Nat} (hq : q < A.length) : Fr (A.getD q (0, 0)).1 (A.getD q (0, 0)).2 ∧ Sm (Rat.divInt (A.getD q (0, 0)).1 (A.getD q (0, 0)).2) 1 :=
  h _ (by rw [List.getD_eq_getElem?_getD, List.getElem?_eq_getElem hq]; exact List.getElem_mem hq)
/-- What the second loop keeps. -/
def Rel2 (w : World) (F : Int × Int) (q : Nat) (va vi : Value) (wr : World) : Prop := ∃ j g c : Nat, j ≤ q ∧ va = .slice (some ⟨g, 0, none⟩) j c ∧ vi = .int .i64 (j : Int) ∧ j ≤ c ∧ Hid (wr.ownsRow w.heap.size 26 2 (.slice (some ⟨g, 0, none⟩) j c) j (fcells (List.replicate j F))) ∧ Hid (Below w.heap.size w wr)
theorem sums_rep {F : Int × Int} (h : Fr F.1 F.2 ∧ Sm (Rat.divInt F.1 F.2) 1) (k : Nat) (hk : k ≤ 15) : ∃ RN RD : Int, sumN (List.replicate k F) = RN ∧ sumD (List.replicate k F) = RD ∧ Trip (Rat.divInt F.1 F.2 * Rat.divInt (k : Int) 1) RN RD 0 := ⟨_, _, rfl, rfl, sum_rep h k (by omega)⟩
theorem fcells_rep (F : Int × Int) (j : Nat) : fcells (List.replicate (j + 1) F) = fcells (List.replicate j F) ++ [.int .i64 F.1, .int .i64 F.2] := by
  rw [List.replicate_succ', fcells_append]; rfl
end Go.Proofs.YtofigldjaoemfaaDoor

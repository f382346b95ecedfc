import Derived.Test.YtofigldjaoemfaaDoorRst
import Derived.Test.YtofigldjaoemfaaDoorRpost
import Derived.Laws.AppendOwn
import Derived.Laws.AppendOwnNone
import Derived.Laws.OwnMore
import Derived.Deep.Slices
import Derived.OpenShut
namespace Go.Proofs.YtofigldjaoemfaaDoor
open Go.RowKit Go.Instr Go.ChangeShapes Go.WideShapes Go.ChangeAt Go.Deep
set_option linter.unusedVariables false

/-! Rows of fractions. -/
/-- The cells of a list of fractions. -/
def fcells (l : List (Int × Int)) : List Value := l.flatMap fun p => [.int .i64 p.1, .int .i64 p.2]
theorem fcells_len (l : List (Int × Int)) : (fcells l).length = l.length * 2 := by
  induction l with
  | nil => rfl
  | cons p r ih =>
    have : fcells (p :: r) = .int .i64 p.1 :: .int .i64 p.2 :: fcells r := rfl
    rw [this]; simp only [List.length_cons, ih]; omega
theorem fcells_append (a b : List (Int × Int)) : fcells (a ++ b) = fcells a ++ fcells b := by simp [fcells, List.flatMap_append]
theorem fcells_at : ∀ (l : List (Int × Int)) (i : Nat), i < l.length → (fcells l)[i * 2]? = some (.int .i64 (l.getD i (0, 0)).1) ∧ (fcells l)[i * 2 + 1]? = some (.int .i64 (l.getD i (0, 0)).2) := by
  intro l
  induction l with
  | nil => intro i h; exact absurd h (by simp)
  | cons p r ih =>
    intro i h
    have e : fcells (p :: r) = .int .i64 p.1 :: .int .i64 p.2 :: fcells r := rfl
    rw [e]
    cases i with
    | zero => exact ⟨rfl, rfl⟩
    | succ k =>
      have := ih k (by simp at h; omega)
      rw [show (k + 1) * 2 = k * 2 + 1 + 1 by omega]
      exact this
theorem fcells_one (l : List (Int × Int)) : ∀ u ∈ fcells l, u.oneCell' = true := by
  intro u hu
  obtain ⟨p, -, hp⟩ := List.mem_flatMap.1 hu
  simp at hp
  rcases hp with rfl | rfl <;> rfl
/-- The cells of a row that was built. -/
theorem fracs_own {w : World} {base g cap n : Nat} {e : TypeId} {l : List (Int × Int)} (hn : l.length = n) (h : w.ownsRow base e 2 (.slice (some ⟨g, 0, none⟩) n cap) n (fcells l)) : FracsAt w l g 0 := by
  intro i hi
  have h0 := h.cellAt (i * 2) (by omega)
  have h1 := h.cellAt (i * 2 + 1) (by omega)
  have f := fcells_at l i hi
  rw [f.1] at h0
  rw [f.2] at h1
  rw [Nat.zero_add]
  exact ⟨h0, h1⟩
theorem fracs_take {w : World} {l : List (Int × Int)} {b off : Nat} (h : FracsAt w l b off) (k : Nat) : FracsAt w (l.take k) b off := by
  intro i hi
  have hi2 : i < l.length ∧ i < k := by rw [List.length_take] at hi; omega
  have e : (l.take k).getD i (0, 0) = l.getD i (0, 0) := by simp [List.getD, List.getElem?_take, hi2.2]
  rw [e]
  exact h i hi2.1
theorem fracs_drop {w : World} {l : List (Int × Int)} {b off : Nat} (h : FracsAt w l b off) (k : Nat) : FracsAt w (l.drop k) b (off + k * 2) := by
  intro i hi
  have hi2 : k + i < l.length := by rw [List.length_drop] at hi; omega
  have e : (l.drop k).getD i (0, 0) = l.getD (k + i) (0, 0) := by simp [List.getD, List.getElem?_drop]
  rw [e]
  have := h (k + i) hi2
  rw [show off + (k + i) * 2 = off + k * 2 + i * 2 by omega] at this
  exact this
/-- Cells of fractions as the law of append asks for them. -/
theorem fracs_cells {w : World} {l : List (Int × Int)} {b off : Nat} (h : FracsAt w l b off) : ∀ (j : Nat) (u : Value), (fcells l)[j]? = some u → w.cell? ((⟨b, off, none⟩ : Addr).add j) = some u := by
  intro j u hj
  have hlt := (List.getElem?_eq_some_iff.1 hj).1
  rw [fcells_len] at hlt
  have e1 : (⟨b, off, none⟩ : Addr).add j = ⟨b, off + j, none⟩ := by first | (simp [Addr.add]; done) | (simp [Addr.add]; omega)
  rw [e1]
  have hi : j / 2 < l.length := by omega
  have q := h (j / 2) hi
  have f := fcells_at l (j / 2) hi
  rcases Nat.mod_two_eq_zero_or_one j with h0 | h0
  · have ej : j = j / 2 * 2 := by omega
    rw [ej] at hj
    rw [f.1] at hj
    rw [← Option.some.inj hj]
    have := q.1
    rw [show off + j / 2 * 2 = off + j by omega] at this
    exact this
  · have ej : j = j / 2 * 2 + 1 := by omega
    rw [ej] at hj
    rw [f.2] at hj
    rw [← Option.some.inj hj]
    have := q.2
    rw [show off + j / 2 * 2 + 1 = off + j by omega] at this
    exact this
theorem infoFrac : (Tryd.prog.info? 26).map (fun i => (i.zero, i.size, i.bytes)) = some (some (.agg #[.int .i64 0, .int .i64 0]), 2, 16) := by kernel_rfl
theorem info_frac : ∃ i, Tryd.prog.info? 26 = some i ∧ i.zero = some (.agg #[.int .i64 0, .int .i64 0]) ∧ i.size = 2 ∧ i.bytes = 16 := by
  have h := infoFrac
  rcases hi : Tryd.prog.info? 26 with - | i
  · rw [hi] at h; cases h
  · rw [hi] at h
    simp only [Option.map_some, Option.some.injEq, Prod.mk.injEq] at h
    exact ⟨i, rfl, h.1, h.2.1, h.2.2⟩
/-- A list of pairs of short numbers in memory. -/
def PairsBig (w : World) (v : Value) (l : List (Int × Int)) : Prop := ∃ p c, v = .slice p l.length c ∧ l.length ≤ c ∧ c ≤ 9223372036854775807 ∧ (l.length ≠ 0 → ∃ b o, p = some ⟨b, o, none⟩ ∧ ∀ i, i < l.length → w.cell? ⟨b, o + i * 2, none⟩ = some (.int .i16 (l.getD i (0, 0)).1) ∧ w.cell? ⟨b, o + i * 2 + 1, none⟩ = some (.int .i16 (l.getD i (0, 0)).2))
theorem PairsBig.below {w w' : World} {v : Value} {l : List (Int × Int)} (h : PairsBig w v l) (hb : Below w.heap.size w w') : PairsBig w' v l := by
  obtain ⟨p, c, rfl, h1, h2, h3⟩ := h
  refine ⟨p, c, rfl, h1, h2, fun h0 => ?_⟩
  obtain ⟨b, o, rfl, h4⟩ := h3 h0
  exact ⟨b, o, rfl, fun i hi => ⟨cell_below hb (h4 i hi).1, cell_below hb (h4 i hi).2⟩⟩
def Sh (x : Int) : Prop := -32768 ≤ x ∧ x ≤ 32767
def numAt : Option Value → Int
  | some (.int _ z) => z
  | _ => 0
theorem bd_i16 {a : Int} (h : (Lit.int .i16 a).wf = true) : Sh a := by
  have h1 : IntKind.i16.min ≤ a ∧ a ≤ IntKind.i16.max := by simpa [Lit.wf] using h
  exact h1
theorem addr_plain_r {w : World} {a : Addr} {v : Value} (h : w.cell? a = some v) : ∃ b off, a = ⟨b, off, none⟩ := by
  obtain ⟨b, off, spot⟩ := a
  have := World.cell?_spot h
  simp only at this
  subst this
  exact ⟨b, off, rfl⟩
set_option maxRecDepth 100000 in
theorem open_short {H : Type} {enc : TypeId × Value → H} {w : World} {m : Nat} {cs : List Value} {x : DataW H × List MemPlace} (h : DataW.trod enc Tryd.prog w 0 (fun _ => true) true m 32 cs = some x) (hl : cs.length = 2) :
    ∃ a b : Int, cs = [.int .i16 a, .int .i16 b] ∧ Sh a ∧ Sh b := by
  obtain ⟨xs, m', -, -, hl', hn, hel⟩ := DataW.trod_array Tryd.underlying32 h
  have c3 : Tryd.prog.cellsOf 31 = 1 := by kernel_rfl
  have e0 : DataW.trod enc Tryd.prog w 0 (fun _ => true) true m' 31 ((cs.drop (0 * 1)).take 1) = xs[0]? := by have h := hel 0 (by decide); rw [c3] at h; exact h
  have e1 : DataW.trod enc Tryd.prog w 0 (fun _ => true) true m' 31 ((cs.drop (1 * 1)).take 1) = xs[1]? := by have h := hel 1 (by decide); rw [c3] at h; exact h
  match cs, hl with
  | [x0, x1], _ =>
    rw [List.getElem?_eq_getElem (show 0 < xs.length by omega)] at e0
    rw [List.getElem?_eq_getElem (show 1 < xs.length by omega)] at e1
    obtain ⟨a, h1, -, w1⟩ := DataW.trod_int Tryd.underlying31 (show DataW.trod enc Tryd.prog w 0 (fun _ => true) true m' 31 [x0] = some _ from e0)
    obtain ⟨b, h2, -, w2⟩ := DataW.trod_int Tryd.underlying31 (show DataW.trod enc Tryd.prog w 0 (fun _ => true) true m' 31 [x1] = some _ from e1)
    cases h1; cases h2
    exact ⟨a, b, rfl, bd_i16 w1, bd_i16 w2⟩
set_option maxRecDepth 100000 in
theorem open_shorts {H : Type} {enc : TypeId × Value → H} {w : World} {r : Reach} {b : Nat} {v : Value} {d : DataW H} {p : List MemPlace} (hv : Value.okWide Tryd.prog w r b 22 v) (h : DataW.Trod enc Tryd.prog w 0 (fun _ => true) true 22 v d p) :
    ∃ l : List (Int × Int), PairsBig w v l ∧ ∀ q ∈ l, Sh q.1 ∧ Sh q.2 := by
  obtain ⟨a, len, cap, rfl⟩ := okWide_slice Tryd.underlying22 hv
  obtain ⟨n, hn⟩ := h
  have c2 : Tryd.prog.cellsOf 32 = 2 := by kernel_rfl
  rcases open_slice Tryd.underlying22 hn with ⟨hcs, hx⟩ | ⟨ad, len', cap', m, n', D, Pl, hcs, hb, hl, hm, hmm, hx, hcell⟩
  · simp [Value.cells] at hcs
    obtain ⟨rfl, rfl, rfl⟩ := hcs
    exact ⟨[], ⟨none, 0, rfl, Nat.le_refl _, by omega, fun h0 => absurd rfl h0⟩, fun q hq => by cases hq⟩
  · simp [Value.cells] at hcs
    obtain ⟨rfl, rfl, rfl⟩ := hcs
    have hm' : cap ≤ 9223372036854775807 := by unfold maxLen at hm; omega
    simp only [if_true] at hmm
    subst hmm
    have each : ∀ i, i < len → ∃ x y : Int, w.cell? (ad.add (i * 2)) = some (.int .i16 x) ∧ w.cell? (ad.add (i * 2 + 1)) = some (.int .i16 y) ∧ Sh x ∧ Sh y := by
      intro i hi
      obtain ⟨cs', h1, h2⟩ := hcell i (by omega)
      rw [c2] at h1
      obtain ⟨_, hlen, hc⟩ := World.cells?_some h1
      obtain ⟨x, y, rfl, hx, hy⟩ := open_short h2 hlen
      have k0 := hc 0 (by omega)
      have k1 := hc 1 (by omega)
      have a0 : (ad.add (i * 2)).add 0 = ad.add (i * 2) := by simp [Addr.add]
      have a1 : (ad.add (i * 2)).add 1 = ad.add (i * 2 + 1) := by
        by_cases h0 : i * 2 = 0
        · simp [Addr.add, h0]
        · simp [Addr.add, h0, Nat.add_assoc]
      rw [a0] at k0
      rw [a1] at k1
      exact ⟨x, y, k0, k1, hx, hy⟩
    refine ⟨(List.range len).map fun i => (numAt (w.cell? (ad.add (i * 2))), numAt (w.cell? (ad.add (i * 2 + 1)))), ⟨some ad, m, by simp, by simpa using hl, hm', fun h0 => ?_⟩, ?_⟩
    · have h0' : 0 < len := by simp at h0; omega
      obtain ⟨x, y, k0, -, -, -⟩ := each 0 h0'
      obtain ⟨b, o, e⟩ := addr_plain_r k0
      have e2 : ad = ⟨b, o, none⟩ := by
        obtain ⟨b', o', s'⟩ := ad
        simp [Addr.add] at e
        obtain ⟨rfl, rfl, rfl⟩ := e
        rfl
      subst e2
      refine ⟨b, o, rfl, fun i hi => ?_⟩
      have hi' : i < len := by simpa using hi
      obtain ⟨x, y, k0, k1, -, -⟩ := each i hi'
      have e1 : (⟨b, o, none⟩ : Addr).add (i * 2) = ⟨b, o + i * 2, none⟩ := by first | (simp [Addr.add]; done) | (simp [Addr.add]; omega)
      have e3 : (⟨b, o, none⟩ : Addr).add (i * 2 + 1) = ⟨b, o + i * 2 + 1, none⟩ := by first | (simp [Addr.add]; done) | (simp [Addr.add]; omega)
      have eg : ((List.range len).map fun i => (numAt (w.cell? ((⟨b, o, none⟩ : Addr).add (i * 2))), numAt (w.cell? ((⟨b, o, none⟩ : Addr).add (i * 2 + 1))))).getD i (0, 0) = (x, y) := by
        simp [List.getD, hi', k0, k1, numAt]
      rw [eg]
      rw [← e1, ← e3]
      exact ⟨k0, k1⟩
    · intro q hq
      obtain ⟨i, hi, rfl⟩ := List.mem_map.1 hq
      obtain ⟨x, y, k0, k1, hx, hy⟩ := each i (List.mem_range.1 hi)
      simp only [k0, k1, numAt]
      exact ⟨hx, hy⟩
end Go.Proofs.YtofigldjaoemfaaDoor

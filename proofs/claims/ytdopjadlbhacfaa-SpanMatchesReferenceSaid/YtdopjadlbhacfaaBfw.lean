import Derived.Test.YtdopjadlbhacfaaAa
import Derived.Deep.AppendLies
import Derived.Deep.OwnRows
import Derived.Deep.Cut
import Derived.Deep.DeepCutAuto
import Derived.Laws.OwnMore
import Derived.Laws.Rows
import Derived.Laws.AppendOwn
import Derived.Laws.AppendOwnNone
import Derived.Deep.LoopGhost
import Derived.Deep.RegionHeld3
namespace Go.Proofs.Ytdopjadlbhacfaa
section
open Go.RowKit Go.Instr Go.Deep Sp
set_option maxRecDepth 100000
set_option linter.unusedVariables false
set_option linter.unusedSimpArgs false

/-! Numbers that are appended. -/
theorem nblk {w : World} {g : Nat} {x : Obj} (h : w.heap[g]? = some x) : g < w.heap.size := (Array.getElem?_eq_some_iff.1 h).1
structure NumQ (wo wi : World) (s : Value) (L : List Int) : Prop where
  nn : s ≠ .slice none 0 0
  own : wi.ownsRow wo.heap.size 3 1 s L.length (L.map fun x => .int .i64 x)
  bel : Below wo.heap.size wo wi
theorem NumQ.start (w w0 : World) (h : Below w.heap.size w w0) : NumQ w (w0.alloc (.cells #[] 3)) (.slice (some ⟨w0.heap.size, 0, none⟩) 0 0) [] :=
  ⟨by simp, World.ownsRow_lit w0 #[] 0 h.size (by unfold maxLen; omega) rfl, h.alloc h.size _⟩
theorem NumQ.keep {wo wi w' : World} {s : Value} {L : List Int} (h : NumQ wo wi s L) (hb : Below wi.heap.size wi w') : NumQ wo w' s L := by
  refine ⟨h.nn, ⟨h.own.1, ?_⟩, h.bel.trans (hb.mono h.bel.size)⟩
  rcases h.own.2 with h | ⟨g', cap', cur, q1, q2, q3, q4⟩
  · exact .inl h
  · exact .inr ⟨g', cap', cur, q1, q2, (hb.block g' (nblk q3)).trans q3, q4⟩
theorem NumQ.step {wo wi w' : World} {s v' : Value} {L : List Int} (h : NumQ wo wi s L) (o : Obj) {x : Int} (ho : w'.ownsRow wo.heap.size 3 1 v' (L.length + 1) (L.map (fun x => .int .i64 x) ++ [.int .i64 x])) (hg : (wi.alloc o).grownBy w' s.ownBlock) (hv : v' ≠ .slice none 0 0) : NumQ wo w' v' (L ++ [x]) :=
  ⟨hv, by rw [List.map_append, List.length_append]; exact ho, (h.bel.alloc h.bel.size _).grown hg (by have := h.bel.size; simp; omega) (fun k hk => (h.own.lt k hk).1)⟩
theorem NumQ.at {wo wi : World} {s : Value} {L : List Int} (h : NumQ wo wi s L) : ∃ g cap, s = .slice (some ⟨g, 0, none⟩) L.length cap ∧ ∀ i, i < L.length → wi.cell? ⟨g, i, none⟩ = some (.int .i64 (L.getD i 0)) := by
  rcases h.own.2 with ⟨h1, -⟩ | ⟨g, cap, cur, h1, h2, h3, h4, h5, h6, h7⟩
  · exact absurd h1 h.nn
  · refine ⟨g, cap, h1, fun i hi => ?_⟩
    rw [cell_of_row wi g i _ _ _ h3]
    have e1 : cur[i]? = (L.map fun x => Value.int .i64 x)[i]? := by
      rw [← h7, List.getElem?_take, if_pos (by omega)]
      simp
    rw [e1, List.getElem?_map, List.getElem?_eq_getElem hi, List.getD_eq_getElem?_getD, List.getElem?_eq_getElem hi]
    rfl
/-- append of one value. -/
theorem wpList_append_one {P : Program} {w : World} {ops : Array Oper} {rest : List Oper} {o : Oper} {a : Act} {Q : Exit → Act → World → Prop} (hgd : o.guard = none) (s x : Operand) (t : TypeId)
    (ho : o.op = .call { callee := .builtin .append, args := #[s, x], argTypes := #[t, t] })
    (base : Nat) (e : TypeId) (i : TypeInfo) (z : Value) (bytes : Nat) (ht : P.underlying t = some (.slice e)) (hi : P.info? e = some i) (hz : i.zero = some z)
    (hsize : i.size = 1) (hby : i.bytes = bytes) (hzs : z.cells.size = 1) (hb24 : bytes ≤ 24)
    (v : Value) (n : Nat) (xs : List Value) (hs : a.eval s = v) (hown : w.ownsRow base e 1 v n xs) (hv : v ≠ .slice none 0 0)
    (q : Nat) (u : Value) (hx : a.eval x = .slice (some ⟨q, 0, none⟩) 1 1) (hc : w.cell? ⟨q, 0, none⟩ = some u) (h1 : u.oneCell' = true)
    (hsmall : n ≤ 1000000) (hbase : base ≤ w.heap.size)
    (h : ∀ v' w', w'.ownsRow base e 1 v' (n + 1) (xs ++ [u]) → w.grownBy w' v.ownBlock → v' ≠ .slice none 0 0 → wpList P ops Q rest (a.put o.dst v') w') : wpList P ops Q (o :: rest) a w := by
  refine wpList_append_own w hgd s x t ho base e i z 1 bytes ht hi hz hsize hby hzs (by omega) v n xs hs hown ⟨q, 0, none⟩ 1 1 [u] hx rfl ?_ (by intro y hy; rw [List.mem_singleton] at hy; rw [hy]; exact h1) (by unfold maxLen; omega) (Nat.le_trans (Nat.mul_le_mul (show n + 1 ≤ 1000001 by omega) hb24) (by omega)) hbase ?_
  · intro j y hy
    have hj : j = 0 := by have := (List.getElem?_eq_some_iff.1 hy).1; simpa using this
    subst hj
    obtain rfl := Option.some.inj hy
    simpa [Addr.add] using hc
  · intro v' w' h2 h3 h4
    exact h v' w' h2 h3 (fun e => hv (h4.1 e).1)
theorem m_leF {a : Ab} (A : Val a) : 1 ≤ a.m ∧ a.m ≤ 4294967295 := by
  refine ⟨m_pos A, ?_⟩
  rcases A.s with ⟨_, e, _⟩ | ⟨l, m1, d, _⟩
  · omega
  · have := Int.le_of_dvd (by omega) d
    have := A.l; have := A.h
    omega
/-- The values of a among its first i places that are in b. -/
def fewL (a b : Ab) (i : Nat) : List Int := ((List.range i).map fun (k : Nat) => a.lo + (k : Int) * a.m).filter fun v => withinB b v
theorem fewL_succ (a b : Ab) (i : Nat) : fewL a b (i + 1) = if withinB b (a.lo + (i : Int) * a.m) = true then fewL a b i ++ [a.lo + (i : Int) * a.m] else fewL a b i := by
  unfold fewL
  rw [List.range_succ, List.map_append, List.filter_append]
  simp only [List.map_cons, List.map_nil, List.filter_cons, List.filter_nil]
  split <;> simp
theorem fewL_le (a b : Ab) (i : Nat) : (fewL a b i).length ≤ i := by
  unfold fewL
  exact Nat.le_trans (List.length_filter_le ..) (by simp)
theorem fewL_asc {a : Ab} (A : Val a) (b : Ab) (hm : 1 ≤ a.m) (i : Nat) : (fewL a b i).Pairwise (· < ·) := by
  unfold fewL
  refine List.Pairwise.filter _ ?_
  rw [List.pairwise_map]
  refine List.Pairwise.imp ?_ List.pairwise_lt_range
  intro x y h
  have : (x : Int) < (y : Int) := by omega
  have := Int.mul_lt_mul_of_pos_right this (show 0 < a.m by omega)
  omega
theorem fewL_mem {a b : Ab} (A : Val a) (B : Val b) (i : Nat) (hin : ∀ k : Nat, k < i → a.lo + (k : Int) * a.m ≤ a.hi) (hi : a.hi < a.lo + (i : Int) * a.m) (v : Int) : v ∈ fewL a b i ↔ Mem a v ∧ Mem b v := by
  have hm := m_pos A
  unfold fewL
  rw [List.mem_filter, List.mem_map]
  constructor
  · rintro ⟨⟨k, hk, rfl⟩, h2⟩
    have hb := (within_iff B _).1 h2
    refine ⟨(mem_m A _).2 ⟨?_, hin k (List.mem_range.1 hk), ⟨(k : Int), ?_⟩⟩, hb⟩
    · have := Int.mul_nonneg (show (0 : Int) ≤ (k : Int) by omega) (show 0 ≤ a.m by omega)
      omega
    · rw [Int.mul_comm]; omega
  · rintro ⟨h1, h2⟩
    refine ⟨?_, (within_iff B _).2 h2⟩
    obtain ⟨l1, l2, q, hq⟩ := (mem_m A v).1 h1
    have h0 : 0 ≤ q := by
      rcases Int.lt_or_le q 0 with h | h
      · have := Int.mul_le_mul_of_nonneg_left (show q ≤ -1 by omega) (show 0 ≤ a.m by omega)
        omega
      · exact h
    have h3 : q < i := by
      rcases Int.lt_or_le q (i : Int) with h | h
      · exact h
      · have := Int.mul_le_mul_of_nonneg_left h (show 0 ≤ a.m by omega)
        have e := Int.mul_comm (i : Int) a.m
        omega
    refine ⟨q.toNat, List.mem_range.2 (by omega), ?_⟩
    have e : ((q.toNat : Nat) : Int) = q := by omega
    rw [e, Int.mul_comm]
    omega
theorem last_getD (x : Int) (l : List Int) : (x :: l).getD l.length 0 = (x :: l).getLastD 0 := by
  rw [List.getLastD_eq_getLast?, List.getLast?_eq_getElem?, List.getD_eq_getElem?_getD]
  simp
/-- First, last and step of a row that ascends. -/
theorem few_parts {l : List Int} (hp : l.Pairwise (· < ·)) (hl : ∀ v ∈ l, -2147483648 ≤ v ∧ v ≤ 2147483647) {x : Int} {r : List Int} (e : l = x :: r) : ByOk (l.headD 0) (l.getLastD 0) (fewStep l) ∧ Near (l.headD 0) (l.getLastD 0) (fewStep l) := by
  subst e
  have h1 := hl x (List.mem_cons_self ..)
  have h2 := hl _ (last_mem x r)
  have h3 := asc_last x r hp x (List.mem_cons_self ..)
  have e1 : (x :: r).headD 0 = x := rfl
  rw [e1]
  cases r with
  | nil =>
    have e2 : fewStep [x] = 0 := rfl
    rw [e2]
    exact ⟨⟨h3, Int.le_refl _, fun _ => rfl⟩, ⟨by omega, by omega, by omega⟩⟩
  | cons y r =>
    have e2 : fewStep (x :: y :: r) = y - x := rfl
    rw [e2]
    have h4 := hl y (List.mem_cons_of_mem _ (List.mem_cons_self ..))
    rw [List.pairwise_cons] at hp
    have h5 := hp.1 y (List.mem_cons_self ..)
    exact ⟨⟨h3, by omega, fun h => by omega⟩, ⟨by omega, by omega, by omega⟩⟩
end

section
open Go.RowKit Go.Instr Go.Deep Sp
set_option maxRecDepth 100000
set_option linter.unusedVariables false
set_option linter.unusedSimpArgs false

/-! The reference's list of common values. -/
theorem infoI : (Try.prog.info? 3).map (fun i => (i.zero, i.size, i.bytes)) = some (some (.int .i64 0), 1, 8) := by kernel_rfl
set_option maxHeartbeats 4000000 in
theorem few_walk (a b : Ab) (A : Val a) (B : Val b) (K : Nat) (N : Nat) (hN64 : N ≤ 64) (hN1 : Hid (∀ k : Nat, k < N → a.lo + (k : Int) * a.m ≤ a.hi)) (hN2 : Hid (a.hi < a.lo + (N : Int) * a.m)) (am : Hid (1 ≤ a.m ∧ a.m ≤ 4294967296)) (L : List Int) (X : Ab) (is : Bool) (hL : Hid (fewL a b N = L)) (hX : fewA L K = X) (his : fewIs L = is) (hP : L.Pairwise (· < ·)) (hR : ∀ v ∈ L, -2147483648 ≤ v ∧ v ≤ 2147483647) (al : -2147483648 ≤ a.lo) (ah : a.hi ≤ 2147483647) (w : World) :
    Calls Try.prog 53 #[.agg #[.int .i64 a.lo, .int .i64 a.hi, .int .i64 a.m, .int .i64 a.r, .int .i64 a.k], .agg #[.int .i64 b.lo, .int .i64 b.hi, .int .i64 b.m, .int .i64 b.r, .int .i64 b.k], .int .i64 (K : Int)] w fun e w' => e = .returned (.agg #[.int .i64 X.lo, .int .i64 X.hi, .int .i64 X.m, .int .i64 X.r, .int .i64 X.k, .bool is]) ∧ Below w.heap.size w w' := by
  obtain ⟨iI, hiI, hiIz, hiIs, hiIb⟩ := info_parts infoI
  obtain ⟨w0, hw0⟩ : ∃ w0, (((w.alloc (.cells #[.int .i64 a.lo, .int .i64 a.hi, .int .i64 a.m, .int .i64 a.r, .int .i64 a.k] 27)).alloc (.cells #[.int .i64 b.lo, .int .i64 b.hi, .int .i64 b.m, .int .i64 b.r, .int .i64 b.k] 27)).alloc (.cells #[.int .i64 0, .int .i64 0, .int .i64 0, .int .i64 0, .int .i64 0, .bool false] 37)) = w0 := ⟨_, rfl⟩
  have B0 : Hid (Below w.heap.size w w0) := hidA (by rw [← hw0]; exact ((((Below.refl _ _).alloc (by first | exact Nat.le_refl _ | (simp; done) | (simp; omega) | omega) _).alloc (by first | exact Nat.le_refl _ | (simp; done) | (simp; omega) | omega) _).alloc (by first | exact Nat.le_refl _ | (simp; done) | (simp; omega) | omega) _))
  have hsz : w.heap.size + 1 + 1 < w0.heap.size := by rw [← hw0]; simp
  have PK : Hid (∀ W, Below w0.heap.size w0 W → W.cell? ⟨w.heap.size, 0, none⟩ = some (.int .i64 a.lo) ∧ W.cell? ⟨w.heap.size, 1, none⟩ = some (.int .i64 a.hi) ∧ W.cell? ⟨w.heap.size, 2, none⟩ = some (.int .i64 a.m) ∧ W.cell? ⟨w.heap.size, 3, none⟩ = some (.int .i64 a.r) ∧ W.cell? ⟨w.heap.size, 4, none⟩ = some (.int .i64 a.k) ∧ W.cell? ⟨w.heap.size + 1, 0, none⟩ = some (.int .i64 b.lo) ∧ W.cell? ⟨w.heap.size + 1, 1, none⟩ = some (.int .i64 b.hi) ∧ W.cell? ⟨w.heap.size + 1, 2, none⟩ = some (.int .i64 b.m) ∧ W.cell? ⟨w.heap.size + 1, 3, none⟩ = some (.int .i64 b.r) ∧ W.cell? ⟨w.heap.size + 1, 4, none⟩ = some (.int .i64 b.k) ∧ W.cell? ⟨w.heap.size + 1 + 1, 0, none⟩ = some (.int .i64 0) ∧ W.cell? ⟨w.heap.size + 1 + 1, 1, none⟩ = some (.int .i64 0) ∧ W.cell? ⟨w.heap.size + 1 + 1, 2, none⟩ = some (.int .i64 0) ∧ W.cell? ⟨w.heap.size + 1 + 1, 3, none⟩ = some (.int .i64 0) ∧ W.cell? ⟨w.heap.size + 1 + 1, 4, none⟩ = some (.int .i64 0) ∧ W.cell? ⟨w.heap.size + 1 + 1, 5, none⟩ = some (.bool false) ∧ w.heap.size < W.heap.size ∧ w.heap.size + 1 < W.heap.size ∧ w.heap.size + 1 + 1 < W.heap.size ∧ (∀ i, W.frozen? ⟨w.heap.size + 1 + 1, i, none⟩ = false)) := hidA (fun W hW => ⟨cellA hW (by rw [← hw0]; simp [go_sem]), cellA hW (by rw [← hw0]; simp [go_sem]), cellA hW (by rw [← hw0]; simp [go_sem]), cellA hW (by rw [← hw0]; simp [go_sem]), cellA hW (by rw [← hw0]; simp [go_sem]), cellA hW (by rw [← hw0]; simp [go_sem]), cellA hW (by rw [← hw0]; simp [go_sem]), cellA hW (by rw [← hw0]; simp [go_sem]), cellA hW (by rw [← hw0]; simp [go_sem]), cellA hW (by rw [← hw0]; simp [go_sem]), cellA hW (by rw [← hw0]; simp [go_sem]), cellA hW (by rw [← hw0]; simp [go_sem]), cellA hW (by rw [← hw0]; simp [go_sem]), cellA hW (by rw [← hw0]; simp [go_sem]), cellA hW (by rw [← hw0]; simp [go_sem]), cellA hW (by rw [← hw0]; simp [go_sem]), (by have h0 := hW.size; have h1 := hsz; omega), (by have h0 := hW.size; have h1 := hsz; omega), (by have h0 := hW.size; have h1 := hsz; omega), (fun i => (hW.frozen (p := ⟨w.heap.size + 1 + 1, i, none⟩) (show w.heap.size + 1 + 1 < w0.heap.size by have h1 := hsz; omega)).trans (by rw [← hw0]; simp [go_sem]))⟩)
  have Hw := hidA hw0; clear hw0
  go_enter Try.func53, Try.ntmps53
  go_upto_region 1 with (fail)
  rw [Hw.out]
  clear Hw
  have HS : Hid (Below w0.heap.size w0 w0) := hidA (Below.refl _ _)
  obtain ⟨c0, c1, c2, c3, c4, c5, c6, c7, c8, c9, c10, c11, c12, c13, c14, c15, z0, z1, z2, fr2⟩ := PK.out _ HS.out
  go_upto_region 2 with (fail)
  obtain ⟨sA, hsA⟩ : ∃ s, Value.slice (some ⟨w0.heap.size, 0, none⟩) 0 0 = s := ⟨_, rfl⟩
  obtain ⟨wA, hwA⟩ : ∃ q, w0.alloc (.cells #[] 3) = q := ⟨_, rfl⟩
  have HQ : Hid (NumQ w0 wA sA []) := hidA (by rw [← hwA, ← hsA]; exact NumQ.start w0 w0 (Below.refl _ _))
  rw [hsA, hwA]
  clear hsA hwA HS c0 c1 c2 c3 c4 c5 c6 c7 c8 c9 c10 c11 c12 c13 c14 c15 z0 z1 z2 fr2
  obtain ⟨c0, c1, c2, c3, c4, c5, c6, c7, c8, c9, c10, c11, c12, c13, c14, c15, z0, z1, z2, fr2⟩ := PK.out _ HQ.out.bel
  go_wp2_with fail
  clear c0 c1 c2 c3 c4 c5 c6 c7 c8 c9 c10 c11 c12 c13 c14 c15 z0 z1 z2 fr2
  go_loopg [7, 8] N (fun g s7 s8 wr => ∃ i : Nat, i ≤ N ∧ g = N - i ∧ s8 = .int .i64 (a.lo + (i : Int) * a.m) ∧ NumQ w0 wr s7 (fewL a b i))
  case atStart => exact ⟨0, Nat.zero_le _, rfl, by simp, HQ.out⟩
  case round =>
    clear HQ
    obtain ⟨i, hi, rfl, rfl, hQ⟩ := hrel
    have HQ := hidA hQ
    clear hQ
    obtain ⟨c0, c1, c2, c3, c4, c5, c6, c7, c8, c9, c10, c11, c12, c13, c14, c15, z0, z1, z2, fr2⟩ := PK.out _ HQ.out.bel
    obtain ⟨v, hv⟩ : ∃ v, a.lo + (i : Int) * a.m = v := ⟨_, rfl⟩
    have HV := hidA hv
    rw [hv]
    clear hv
    by_cases hc : v ≤ a.hi
    · have hiN : i < N := by
        rcases Nat.lt_or_ge i N with h | h
        · exact h
        · have : i = N := by omega
          subst this
          have := hN2.out
          have := HV.out
          omega
      have hll : (fewL a b i).length ≤ 64 := Nat.le_trans (fewL_le a b i) (by omega)
      have hv0 : a.lo ≤ v := by have h := Int.mul_nonneg (show (0 : Int) ≤ (i : Int) by omega) (show 0 ≤ a.m by have := am.out; omega); have := HV.out; omega
      obtain ⟨v2, ev2⟩ : ∃ v2, a.lo + ((i + 1 : Nat) : Int) * a.m = v2 := ⟨_, rfl⟩
      have e2 : v + a.m = v2 := by
        rw [← ev2, ← HV.out, Int.natCast_add, Int.add_mul]
        simp [Int.add_assoc]
      have ew : IntKind.i64.wrap (v + a.m) = v2 := by rw [e2]; exact IntWalk.i64_in _ (by have := am.out; omega)
      have hsucc := hidA (fewL_succ a b i)
      rw [HV.out] at hsucc
      clear e2
      cases hw : withinB b v
      · have CW : Hid (∀ w, Calls Try.prog 45 #[.agg #[.int .i64 b.lo, .int .i64 b.hi, .int .i64 b.m, .int .i64 b.r, .int .i64 b.k], .int .i64 v] w fun e w' => e = .returned (.bool false) ∧ Below w.heap.size w w') := hidA (fun w => by have h := within_any b (val_wb B) v w; rw [hw] at h; exact h)
        have HL : Hid (fewL a b (i + 1) = fewL a b i) := hidA (by rw [hsucc.out, hw]; rfl)
        clear hw hsucc
        go_wp2_with (go_at_call 45; (with_reducible refine (CW.out _).mono ?_); rintro e w1 ⟨rfl, hb⟩; have HQ' := hidA (HQ.out.keep hb); clear HQ; have HQ := HQ'; clear HQ' hb; clear c0 c1 c2 c3 c4 c5 c6 c7 c8 c9 c10 c11 c12 c13 c14 c15 z0 z1 z2 fr2; obtain ⟨c0, c1, c2, c3, c4, c5, c6, c7, c8, c9, c10, c11, c12, c13, c14, c15, z0, z1, z2, fr2⟩ := PK.out _ HQ.out.bel)
        go_roundg (N - (i + 1))
        case rel => exact ⟨i + 1, by omega, rfl, by rw [← ev2], by rw [HL.out]; exact HQ.out⟩
        case measure => omega
      · have CW : Hid (∀ w, Calls Try.prog 45 #[.agg #[.int .i64 b.lo, .int .i64 b.hi, .int .i64 b.m, .int .i64 b.r, .int .i64 b.k], .int .i64 v] w fun e w' => e = .returned (.bool true) ∧ Below w.heap.size w w') := hidA (fun w => by have h := within_any b (val_wb B) v w; rw [hw] at h; exact h)
        have HL : Hid (fewL a b (i + 1) = fewL a b i ++ [v]) := hidA (by rw [hsucc.out, hw]; rfl)
        clear hw hsucc
        obtain ⟨g7, k7, rfl, -⟩ := HQ.out.at
        go_upto_region 6 with (go_at_call 45; (with_reducible refine (CW.out _).mono ?_); rintro e w1 ⟨rfl, hb⟩; have HQ' := hidA (HQ.out.keep hb); clear HQ; have HQ := HQ'; clear HQ' hb; clear c0 c1 c2 c3 c4 c5 c6 c7 c8 c9 c10 c11 c12 c13 c14 c15 z0 z1 z2 fr2; obtain ⟨c0, c1, c2, c3, c4, c5, c6, c7, c8, c9, c10, c11, c12, c13, c14, c15, z0, z1, z2, fr2⟩ := PK.out _ HQ.out.bel)
        go_wp2_with (at_builtin; refine wpList_append_one rfl (.tmp 24) (.tmp 26) 92 rfl _ 3 iI _ 8 Try.underlying92 hiI hiIz hiIs hiIb rfl (by omega) _ _ _ rfl (World.ownsRow.alloc HQ.out.own _) HQ.out.nn _ (.int .i64 v) rfl (by simp [go_sem]) rfl (by omega) (by have := HQ.out.bel.size; simp; omega) ?_; intro v' w2 ho hg hv; have HI := hidA (NumQ.step HQ.out _ ho hg hv); clear ho hg hv; clear c0 c1 c2 c3 c4 c5 c6 c7 c8 c9 c10 c11 c12 c13 c14 c15 z0 z1 z2 fr2; obtain ⟨c0, c1, c2, c3, c4, c5, c6, c7, c8, c9, c10, c11, c12, c13, c14, c15, z0, z1, z2, fr2⟩ := PK.out _ HI.out.bel)
        go_roundg (N - (i + 1))
        case rel => exact ⟨i + 1, by omega, rfl, by rw [← ev2], by rw [HL.out]; exact HI.out⟩
        case measure => omega
    · have hiN : i = N := by
        rcases Nat.lt_or_ge i N with h | h
        · have := hN1.out i h
          have := HV.out
          omega
        · omega
      subst hiN
      have hll : L.length ≤ 64 := by rw [← hL.out]; exact Nat.le_trans (fewL_le a b i) (by omega)
      have HQ' := HQ.out
      rw [hL.out] at HQ'
      have HQ' := hidA HQ'
      clear HQ hL
      have HQ := HQ'
      clear HQ'
      cases L with
      | nil =>
        obtain ⟨g7, k7, rfl, -⟩ := HQ.out.at
        have HS := hidA HQ.out.bel
        obtain rfl : X = ⟨0, 0, 0, 0, 0⟩ := hX.symm.trans rfl
        obtain rfl : is = false := his.symm.trans rfl
        clear hP hR hX his
        go_wp2_with fail
        exact bodyPost_ret (v := .agg #[.int .i64 0, .int .i64 0, .int .i64 0, .int .i64 0, .int .i64 0, .bool false]) (by simp [results, Try.results53, go_sem, c10, c11, c12, c13, c14, c15, z2, fr2]) rfl ⟨by rfl, (by repeat (first | with_reducible exact Below.refl _ _ | with_reducible exact HS.out | with_reducible exact B0.out | with_reducible refine Below.setCell ?_ (by first | omega | (dsimp only; omega) | (simp; done) | (simp; omega)) _ | with_reducible refine Below.alloc ?_ (by first | omega | (dsimp only; omega) | (simp; done) | (simp; omega)) _ | with_reducible refine Below.drew ?_ | with_reducible refine drewnA ?_ _ | with_reducible refine Below.trans ?_ (HS.out.mono (by first | omega | (dsimp only; omega) | (simp; done) | (simp; omega))) | with_reducible refine Below.trans ?_ (B0.out.mono (by first | omega | (dsimp only; omega) | (simp; done) | (simp; omega)))))⟩
      | cons x r =>
        obtain ⟨g7, k7, rfl, hc7⟩ := HQ.out.at
        have x0 : wr.cell? ⟨g7, 0, none⟩ = some (.int .i64 x) := hc7 0 (by simp)
        obtain ⟨z, hz⟩ : ∃ z, (x :: r).getLastD 0 = z := ⟨_, rfl⟩
        have xl : wr.cell? ⟨g7, r.length, none⟩ = some (.int .i64 z) := by
          have h := hc7 r.length (by simp)
          rw [h, ← hz, ← last_getD]
        obtain ⟨BO, NR⟩ := few_parts hP hR rfl
        have e1 : (x :: r).headD 0 = x := rfl
        rw [e1, hz] at BO NR
        obtain ⟨st, hst⟩ : ∃ s, fewStep (x :: r) = s := ⟨_, rfl⟩
        rw [hst] at BO NR
        have CB : Hid (∀ w, Calls Try.prog 46 #[.int .i64 x, .int .i64 z, .int .i64 st, .int .i64 (K : Int)] w fun e w' => e = .returned (.agg #[.int .i64 X.lo, .int .i64 X.hi, .int .i64 X.m, .int .i64 X.r, .int .i64 X.k]) ∧ Below w.heap.size w w') := hidA (fun w => by have h := by_any x z st K BO NR w; rw [show byA x z st K = X by rw [← hX, ← hz, ← hst]; rfl] at h; exact h)
        obtain rfl : is = true := his.symm.trans rfl
        have hxr := hR x (List.mem_cons_self ..)
        clear e1 BO NR hX his
        obtain ⟨k, hk⟩ : ∃ k, r.length = k := ⟨_, rfl⟩
        have hl : (x :: r).length = k + 1 := by simp [hk]
        rw [hk] at xl
        rw [hl] at hll ⊢
        have ek : IntKind.i64.wrap (((k + 1 : Nat) : Int) - 1) = (k : Int) := by rw [show ((k + 1 : Nat) : Int) - 1 = (k : Int) by omega]; exact IntWalk.i64_in _ (by omega)
        have ek2 : IntKind.i64.wrap ((k : Int) + 1 - 1) = (k : Int) := by rw [show (k : Int) + 1 - 1 = (k : Int) by omega]; exact IntWalk.i64_in _ (by omega)
        have ek3 : IntKind.i64.wrap (k : Int) = (k : Int) := IntWalk.i64_in _ (by omega)
        have kb : (k : Int) < ((k + 1 : Nat) : Int) := by omega
        have kb2 : (k : Int) < (k : Int) + 1 := by omega
        have kz : (((k + 1 : Nat) : Int) == 0) = false := by simp; omega
        have kz2 : ((k : Int) + 1 == 0) = false := by simp; omega
        cases r with
        | nil =>
          obtain rfl : k = 0 := by rw [← hk]; rfl
          obtain rfl : st = 0 := by rw [← hst]; rfl
          obtain rfl : x = z := hz
          clear hst hk hc7 hP hR xl
          have w00 : IntKind.i64.wrap 0 = 0 := IntWalk.i64_in _ (by omega)
          go_upto_region 12 with (fail)
          go_still_tail 11, (by kernel_rfl)
          change wpList _ _ _ _ _ wr.drew
          have HS := hidA (stepA HQ.out.bel (Below.refl _ _).drew)
          clear c0 c1 c2 c3 c4 c5 c6 c7 c8 c9 c10 c11 c12 c13 c14 c15 z0 z1 z2 fr2 x0 HQ
          generalize wr.drew = w2 at HS ⊢
          obtain ⟨c0, c1, c2, c3, c4, c5, c6, c7, c8, c9, c10, c11, c12, c13, c14, c15, z0, z1, z2, fr2⟩ := PK.out _ HS.out
          go_wp2_with (go_at_call 46; (with_reducible refine (CB.out _).mono ?_); rintro e w1 ⟨rfl, hb⟩; have hsE := HS.out; have leE := HS.out.size; have hs1 : Below w0.heap.size w0 w1 := stepA (by repeat (first | with_reducible assumption | with_reducible exact Below.refl _ _ | with_reducible refine Below.setCell ?_ (by first | omega | (dsimp only; omega) | (simp; done) | (simp; omega)) _ | with_reducible refine Below.alloc ?_ (by first | omega | (dsimp only; omega) | (simp; done) | (simp; omega)) _ | with_reducible refine Below.drew ?_)) hb; clear hb hsE leE; have HS' := hidA hs1; clear HS hs1; clear c0 c1 c2 c3 c4 c5 c6 c7 c8 c9 c10 c11 c12 c13 c14 c15 z0 z1 z2 fr2; have HS := HS'; clear HS'; obtain ⟨c0, c1, c2, c3, c4, c5, c6, c7, c8, c9, c10, c11, c12, c13, c14, c15, z0, z1, z2, fr2⟩ := PK.out _ HS.out)
          exact bodyPost_ret (v := .agg #[.int .i64 X.lo, .int .i64 X.hi, .int .i64 X.m, .int .i64 X.r, .int .i64 X.k, .bool true]) (by simp [results, Try.results53, go_sem, c10, c11, c12, c13, c14, c15, z2, fr2]) rfl ⟨by rfl, (by repeat (first | with_reducible exact Below.refl _ _ | with_reducible exact HS.out | with_reducible exact B0.out | with_reducible refine Below.setCell ?_ (by first | omega | (dsimp only; omega) | (simp; done) | (simp; omega)) _ | with_reducible refine Below.alloc ?_ (by first | omega | (dsimp only; omega) | (simp; done) | (simp; omega)) _ | with_reducible refine Below.drew ?_ | with_reducible refine drewnA ?_ _ | with_reducible refine Below.trans ?_ (HS.out.mono (by first | omega | (dsimp only; omega) | (simp; done) | (simp; omega))) | with_reducible refine Below.trans ?_ (B0.out.mono (by first | omega | (dsimp only; omega) | (simp; done) | (simp; omega)))))⟩
        | cons y r =>
          have x1 : wr.cell? ⟨g7, 1, none⟩ = some (.int .i64 y) := hc7 1 (by simp)
          have hyr := hR y (List.mem_cons_of_mem _ (List.mem_cons_self ..))
          obtain rfl : st = y - x := by rw [← hst]; rfl
          have es : IntKind.i64.wrap (y - x) = y - x := IntWalk.i64_in _ (by omega)
          have k1 : (1 : Int) < ((k + 1 : Nat) : Int) := by rw [← hk]; simp; omega
          have k2 : (1 : Int) < (k : Int) + 1 := by omega
          clear hst hk hc7 hP hR hz
          go_upto_region 11 with (fail)
          go_still_tail 7, (by kernel_rfl)
          change wpList _ _ _ _ _ wr.drew
          have HQ2 := hidA (HQ.out.keep (Below.refl _ _).drew)
          have y0 := cellD x0
          have y1 := cellD x1
          have yl := cellD xl
          clear c0 c1 c2 c3 c4 c5 c6 c7 c8 c9 c10 c11 c12 c13 c14 c15 z0 z1 z2 fr2 x0 x1 xl HQ
          generalize wr.drew = wr at HQ2 y0 y1 yl ⊢
          have HQ := HQ2
          have x0 := y0
          have xl := yl
          clear HQ2 y0 y1 yl
          obtain ⟨c0, c1, c2, c3, c4, c5, c6, c7, c8, c9, c10, c11, c12, c13, c14, c15, z0, z1, z2, fr2⟩ := PK.out _ HQ.out.bel
          go_upto_region 12 with (fail)
          go_still_tail 11, (by kernel_rfl)
          change wpList _ _ _ _ _ wr.drew
          have HS := hidA (stepA HQ.out.bel (Below.refl _ _).drew)
          clear c0 c1 c2 c3 c4 c5 c6 c7 c8 c9 c10 c11 c12 c13 c14 c15 z0 z1 z2 fr2 x0 xl HQ
          generalize wr.drew = w2 at HS ⊢
          obtain ⟨c0, c1, c2, c3, c4, c5, c6, c7, c8, c9, c10, c11, c12, c13, c14, c15, z0, z1, z2, fr2⟩ := PK.out _ HS.out
          go_wp2_with (go_at_call 46; (with_reducible refine (CB.out _).mono ?_); rintro e w1 ⟨rfl, hb⟩; have hsE := HS.out; have leE := HS.out.size; have hs1 : Below w0.heap.size w0 w1 := stepA (by repeat (first | with_reducible assumption | with_reducible exact Below.refl _ _ | with_reducible refine Below.setCell ?_ (by first | omega | (dsimp only; omega) | (simp; done) | (simp; omega)) _ | with_reducible refine Below.alloc ?_ (by first | omega | (dsimp only; omega) | (simp; done) | (simp; omega)) _ | with_reducible refine Below.drew ?_)) hb; clear hb hsE leE; have HS' := hidA hs1; clear HS hs1; clear c0 c1 c2 c3 c4 c5 c6 c7 c8 c9 c10 c11 c12 c13 c14 c15 z0 z1 z2 fr2; have HS := HS'; clear HS'; obtain ⟨c0, c1, c2, c3, c4, c5, c6, c7, c8, c9, c10, c11, c12, c13, c14, c15, z0, z1, z2, fr2⟩ := PK.out _ HS.out)
          exact bodyPost_ret (v := .agg #[.int .i64 X.lo, .int .i64 X.hi, .int .i64 X.m, .int .i64 X.r, .int .i64 X.k, .bool true]) (by simp [results, Try.results53, go_sem, c10, c11, c12, c13, c14, c15, z2, fr2]) rfl ⟨by rfl, (by repeat (first | with_reducible exact Below.refl _ _ | with_reducible exact HS.out | with_reducible exact B0.out | with_reducible refine Below.setCell ?_ (by first | omega | (dsimp only; omega) | (simp; done) | (simp; omega)) _ | with_reducible refine Below.alloc ?_ (by first | omega | (dsimp only; omega) | (simp; done) | (simp; omega)) _ | with_reducible refine Below.drew ?_ | with_reducible refine drewnA ?_ _ | with_reducible refine Below.trans ?_ (HS.out.mono (by first | omega | (dsimp only; omega) | (simp; done) | (simp; omega))) | with_reducible refine Below.trans ?_ (B0.out.mono (by first | omega | (dsimp only; omega) | (simp; done) | (simp; omega)))))⟩
theorem few_any (a b : Ab) (A : Val a) (B : Val b) (hq : (a.hi - a.lo) / a.m < 64) : ∃ l : List Int, l.Pairwise (· < ·) ∧ (∀ v, v ∈ l ↔ Mem a v ∧ Mem b v) ∧ ∀ (K : Nat) (w : World), Calls Try.prog 53 #[.agg #[.int .i64 a.lo, .int .i64 a.hi, .int .i64 a.m, .int .i64 a.r, .int .i64 a.k], .agg #[.int .i64 b.lo, .int .i64 b.hi, .int .i64 b.m, .int .i64 b.r, .int .i64 b.k], .int .i64 (K : Int)] w fun e w' => e = .returned (.agg #[.int .i64 (fewA l K).lo, .int .i64 (fewA l K).hi, .int .i64 (fewA l K).m, .int .i64 (fewA l K).r, .int .i64 (fewA l K).k, .bool (fewIs l)]) ∧ Below w.heap.size w w' := by
  have am := m_leF A
  have ao := A.o
  have d0 := Int.ediv_nonneg (show 0 ≤ a.hi - a.lo by omega) (show 0 ≤ a.m by omega)
  have d1 := Int.ediv_mul_le (a.hi - a.lo) (show a.m ≠ 0 by omega)
  have d2 := Int.lt_ediv_add_one_mul_self (a.hi - a.lo) (show 0 < a.m by omega)
  obtain ⟨q, hq'⟩ : ∃ q, (a.hi - a.lo) / a.m = q := ⟨_, rfl⟩
  rw [hq'] at d0 d1 d2 hq
  obtain ⟨n, rfl⟩ : ∃ n : Nat, q = n := ⟨q.toNat, by omega⟩
  have h1 : ∀ k : Nat, k < n + 1 → a.lo + (k : Int) * a.m ≤ a.hi := by
    intro k hk
    have := Int.mul_le_mul_of_nonneg_right (show (k : Int) ≤ (n : Int) by omega) (show 0 ≤ a.m by omega)
    omega
  have h2 : a.hi < a.lo + ((n + 1 : Nat) : Int) * a.m := by rw [Int.natCast_add]; simpa using (by omega : a.hi < a.lo + ((n : Int) + 1) * a.m)
  have hmem := fewL_mem A B (n + 1) h1 h2
  have hasc := fewL_asc A b am.1 (n + 1)
  refine ⟨fewL a b (n + 1), hasc, hmem, fun K w => few_walk a b A B K (n + 1) (by omega) (hidA h1) (hidA h2) (hidA ⟨am.1, by omega⟩) _ _ _ (hidA rfl) rfl rfl hasc (fun v hv => ?_) A.l A.h w⟩
  have := ((hmem v).1 hv).1
  have := A.l; have := A.h
  exact ⟨by have := this; have h := ((hmem v).1 hv).1.1; omega, by have h := ((hmem v).1 hv).1.2.1; omega⟩
end
end Go.Proofs.Ytdopjadlbhacfaa

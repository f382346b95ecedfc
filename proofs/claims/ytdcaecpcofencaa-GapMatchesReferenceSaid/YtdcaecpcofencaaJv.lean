import Derived.Test.YtdcaecpcofencaaJow
import Derived.Deep.RegionHeld3
import Derived.Deep.CutRange
namespace Go.Proofs.Ytdcaecpcofencaa
open Go.RowKit Go.Instr
set_option linter.unusedVariables false
set_option linter.unusedSimpArgs false



theorem below_step {w w1 w2 : World} (h : Below w.heap.size w w1) (k : Below w1.heap.size w1 w2) : Below w.heap.size w w2 := h.trans (k.mono h.size)
theorem ne_b {a b : Int} (h : a ≠ b) : (a == b) = false := by simpa using h
theorem below_a {w w' : World} (h : Below w.heap.size w w') (o : Obj) : Below w.heap.size w (w'.alloc o) := h.alloc h.size o
theorem exsIn_all {w : World} {l : List Ex} {oa : Option Addr} (hx : exsIn w l oa 0) (hne : l ≠ []) :
    ∃ (b off : Nat), oa = some ⟨b, off, none⟩ ∧ ∀ (k : Nat) (t : Ex), l[k]? = some t → ∃ (o n v : Int) (a : Option Addr) (ln cp : Nat), w.cell? ⟨b, off + k * 4, none⟩ = some (.int .i64 o) ∧ w.cell? ⟨b, off + k * 4 + 1, none⟩ = some (.int .i64 n) ∧
      w.cell? ⟨b, off + k * 4 + 2, none⟩ = some (.int .i64 v) ∧ w.cell? ⟨b, off + k * 4 + 3, none⟩ = some (.slice a ln cp) ∧ exIn w t (.agg #[.int .i64 o, .int .i64 n, .int .i64 v, .slice a ln cp]) := by
  cases l with
  | nil => exact absurd rfl hne
  | cons u r =>
    obtain ⟨b, off, -, -, -, -, rfl, -⟩ := exsIn_at hx 0 u rfl
    refine ⟨b, off, rfl, fun k t hk => ?_⟩
    obtain ⟨b', off', x0, x1, x2, x3, hoa, c0, c1, c2, c3, hin⟩ := exsIn_at hx k t hk
    simp only [Option.some.injEq, Addr.mk.injEq, and_true] at hoa
    obtain ⟨rfl, rfl⟩ := hoa
    rw [Nat.zero_add] at c0 c1 c2 c3
    obtain ⟨o, n, v, l⟩ := t
    have hin' := hin
    rw [exIn] at hin
    obtain ⟨oa', cap', h1, -⟩ := hin
    simp only [Value.agg.injEq, Array.mk.injEq, List.cons.injEq, and_true] at h1
    obtain ⟨rfl, rfl, rfl, rfl⟩ := h1
    exact ⟨_, _, _, _, _, _, c0, c1, c2, c3, hin'⟩

/-- The quotient without its fraction; 0 for a divisor 0. -/
def quo (a b : Int) : Int := wrap64 (a.tdiv b)
/-- What 'num.Op' returns for an operator and two numbers. -/
def opF (op a b : Int) : Int :=
  if op = 4 then wrap32 (wrap32 a + wrap32 b) else if op = 5 then wrap32 (wrap32 a - wrap32 b) else if op = 6 then wrap32 (wrap32 a * wrap32 b)
  else if op = 7 then wrap32 (quo (wrap32 a) (wrap32 b)) else if op = 8 then wrap32 (wrap32 a - wrap32 b * quo (wrap32 a) (wrap32 b))
  else if op = 9 then wrap32 (min (wrap32 a) (wrap32 b)) else if op = 10 then wrap32 (max (wrap32 a) (wrap32 b)) else 0

theorem wrap32_bd (a : Int) : -2147483648 ≤ wrap32 a ∧ wrap32 a ≤ 2147483647 := by unfold wrap32; omega
theorem w32_64 (a : Int) : wrap32 (wrap64 a) = wrap32 a := by unfold wrap32 wrap64; omega
theorem w32_64s (a b : Int) : wrap32 (a - wrap64 b) = wrap32 (a - b) := by unfold wrap32 wrap64; omega
theorem ret_i {a b : Int} (h : a = b) : Ending.returned (.int .i64 a) = .returned (.int .i64 b) := by rw [h]

theorem opF_no (n a b : Int) (h : n < 4 ∨ 10 < n) : opF n a b = 0 := by
  unfold opF
  rw [if_neg (by omega), if_neg (by omega), if_neg (by omega), if_neg (by omega), if_neg (by omega), if_neg (by omega), if_neg (by omega)]




/-! 'num.Eval' and what it calls. -/
def elemF (l : List Int) (n : Int) : Int := if 0 ≤ n ∧ n < l.length then wrap32 (l.getD n.toNat 0) else 0

mutual
def evalE (V L : List Int) : Ex → Int
  | .mk op n v l => if op = 1 then wrap32 v else if op = 2 then elemF V n else if op = 3 then elemF L n else opF op ((evalsE V L l).getD 0 0) ((evalsE V L l).getD 1 0)
def evalsE (V L : List Int) : List Ex → List Int
  | [] => []
  | t :: r => evalE V L t :: evalsE V L r
end



/-! The reference's 'Wrap', 'Op', 'element', 'Binary', 'Operand', 'Eval'. -/
theorem wrap32_tmod (v : Int) : ∃ m, v.tmod 4294967296 = m ∧ -4294967296 < m ∧ m < 4294967296 ∧ wrap32 v = if m < -2147483648 then m + 4294967296 else if 2147483647 < m then m - 4294967296 else m := by
  have h1 := Int.tmod_add_mul_tdiv v 4294967296
  have h2 := Int.tmod_lt_of_pos v (b := 4294967296) (by decide)
  have h3 := Int.lt_tmod_of_pos v (b := 4294967296) (by decide)
  refine ⟨_, rfl, h3, h2, ?_⟩
  generalize v.tmod 4294967296 = m at *
  generalize v.tdiv 4294967296 = q at *
  unfold wrap32
  split
  · omega
  · split <;> omega
set_option maxHeartbeats 400000 in
theorem rwrap_any (v : Int) (w : World) :
    Calls Try.prog 57 #[.int .i64 v] w fun e w' => e = .returned (.int .i64 (wrap32 v)) ∧ w = w' := by
  obtain ⟨m, hm, h1, h2, hw⟩ := wrap32_tmod v
  have HW := hid hw
  clear hw
  have hmw : IntKind.i64.wrap (v.tmod 4294967296) = m := by rw [hm, IntKind.wrap_i64]; omega
  by_cases c1 : m < -2147483648
  · go_enter Try.func57, Try.ntmps57
    go_wp2
    go_ret
    exact ⟨ret_i (by rw [HW.out]; (try split) <;> (try split) <;> (first | rfl | omega)), rfl⟩
  · by_cases c2 : 2147483647 < m
    · go_enter Try.func57, Try.ntmps57
      go_wp2
      go_ret
      exact ⟨ret_i (by rw [HW.out]; (try split) <;> (try split) <;> (first | rfl | omega)), rfl⟩
    · go_enter Try.func57, Try.ntmps57
      go_wp2
      go_ret
      exact ⟨ret_i (by rw [HW.out]; (try split) <;> (try split) <;> (first | rfl | omega)), rfl⟩
theorem tmod_small (a b : Int) (hb : b ≠ 0) (ha : -2147483648 ≤ a ∧ a ≤ 2147483647) (hb2 : -2147483648 ≤ b ∧ b ≤ 2147483647) : a.tmod b = wrap32 (a - b * quo a b) ∧ -2147483648 ≤ a.tmod b ∧ a.tmod b ≤ 2147483647 := by
  have h1 := Int.tmod_def a b
  have h2 := Int.natAbs_tmod a b
  have h3 : a.natAbs % b.natAbs ≤ a.natAbs := Nat.mod_le _ _
  have h4 : a.natAbs % b.natAbs < b.natAbs := Nat.mod_lt _ (by omega)
  have hq : quo a b = wrap64 (a.tdiv b) := rfl
  have hbd : -2147483648 ≤ a.tmod b ∧ a.tmod b ≤ 2147483647 := by omega
  have hd : (a.tdiv b).natAbs ≤ 2147483648 := by
    rw [Int.natAbs_tdiv]
    exact Nat.le_trans (Nat.div_le_self _ _) (by omega)
  have hw : wrap64 (a.tdiv b) = a.tdiv b := by unfold wrap64; omega
  refine ⟨?_, hbd⟩
  rw [hq, hw, ← h1]
  unfold wrap32
  omega
set_option maxHeartbeats 1000000 in
theorem rop_any (n a b : Int) (w : World) :
    Calls Try.prog 60 #[.int .i64 n, .int .i64 a, .int .i64 b] w fun e w' => e = .returned (.int .i64 (opF n a b)) ∧ w = w' := by
  have ha := wrap32_bd a
  have hb := wrap32_bd b
  by_cases h : n < 4 ∨ 10 < n
  · rw [opF_no n a b h]
    have b4 := ne_b (show n ≠ 4 by omega)
    have b5 := ne_b (show n ≠ 5 by omega)
    have b6 := ne_b (show n ≠ 6 by omega)
    have b7 := ne_b (show n ≠ 7 by omega)
    have b8 := ne_b (show n ≠ 8 by omega)
    have b9 := ne_b (show n ≠ 9 by omega)
    have b10 := ne_b (show n ≠ 10 by omega)
    clear h
    go_enter Try.func60, Try.ntmps60
    go_wp2_with (go_at_call 57; refine (rwrap_any _ _).mono ?_; rintro e w2 ⟨rfl, rfl⟩)
    go_ret
    exact ⟨rfl, rfl⟩
  · have hn : n = 4 ∨ n = 5 ∨ n = 6 ∨ n = 7 ∨ n = 8 ∨ n = 9 ∨ n = 10 := by omega
    clear h
    obtain ⟨x, hx⟩ : ∃ x, wrap32 a = x := ⟨_, rfl⟩
    obtain ⟨y, hy⟩ : ∃ y, wrap32 b = y := ⟨_, rfl⟩
    have HX := hid hx
    have HY := hid hy
    rw [hx] at ha
    rw [hy] at hb
    have F : ∀ k, opF k a b = opF k a b := fun _ => rfl
    have C1 := hid (fun (w : World) => by have := rwrap_any a w; rw [hx] at this; exact this)
    have C2 := hid (fun (w : World) => by have := rwrap_any b w; rw [hy] at this; exact this)
    clear hx hy F
    by_cases hy0 : y = 0
    · subst hy0
      have mmn := fun ts t (w : World) => run_min2 (P := Try.prog) ts t x 0 w
      have mmx := fun ts t (w : World) => run_max2 (P := Try.prog) ts t x 0 w
      rcases hn with rfl | rfl | rfl | rfl | rfl | rfl | rfl
      all_goals
        go_enter Try.func60, Try.ntmps60
        go_wp2_with (first | (go_at_call_of 57 (Value.int .i64 a); refine (C1.out _).mono ?_; rintro e w2 ⟨rfl, rfl⟩) | (go_at_call_of 57 (Value.int .i64 b); refine (C2.out _).mono ?_; rintro e w2 ⟨rfl, rfl⟩) | (go_at_call 57; refine (rwrap_any _ _).mono ?_; rintro e w2 ⟨rfl, rfl⟩))
        go_ret
        exact ⟨ret_i (by rw [opF, HX.out, HY.out]; simp [quo, wrap64, wrap32]; try omega), rfl⟩
    · have hyb := ne_b hy0
      have hq : IntKind.i64.wrap (x.tdiv y) = quo x y := by unfold quo wrap64; rw [IntKind.wrap_i64]
      obtain ⟨m1, m2, m3⟩ := tmod_small x y hy0 ha hb
      have hrw : IntKind.i64.wrap (x.tmod y) = x.tmod y := by rw [IntKind.wrap_i64]; omega
      have MR := hid m1
      have MN := hid (show min x y = wrap32 (min x y) by unfold wrap32; omega)
      have MX := hid (show max x y = wrap32 (max x y) by unfold wrap32; omega)
      have MM := hid (fun z => (w32_64 z))
      clear m1
      have mmn := fun ts t (w : World) => run_min2 (P := Try.prog) ts t x y w
      have mmx := fun ts t (w : World) => run_max2 (P := Try.prog) ts t x y w
      rcases hn with rfl | rfl | rfl | rfl | rfl | rfl | rfl
      all_goals
        go_enter Try.func60, Try.ntmps60
        go_wp2_with (first | (go_at_call_of 57 (Value.int .i64 a); refine (C1.out _).mono ?_; rintro e w2 ⟨rfl, rfl⟩) | (go_at_call_of 57 (Value.int .i64 b); refine (C2.out _).mono ?_; rintro e w2 ⟨rfl, rfl⟩) | (go_at_call 57; refine (rwrap_any _ _).mono ?_; rintro e w2 ⟨rfl, rfl⟩))
        all_goals
          go_ret
          exact ⟨ret_i (by rw [opF, HX.out, HY.out]; first | rfl | (refine (MM.out _).trans ?_; rfl) | (refine MR.out.trans ?_; rfl) | (refine MN.out.trans ?_; rfl) | (refine MX.out.trans ?_; rfl)), rfl⟩


def ex0 : Ex := .mk 1 0 0 []
theorem evals_getD (V L : List Int) : ∀ (l : List Ex) (k : Nat), (evalsE V L l).getD k 0 = evalE V L (l.getD k ex0)
  | [], k => by rw [evalsE]; simp only [List.getD_nil]; rw [ex0, evalE, if_pos rfl]; decide +kernel
  | t :: r, 0 => by rw [evalsE]; rfl
  | t :: r, k + 1 => by rw [evalsE]; exact evals_getD V L r k
theorem ex0_in (w : World) : exIn w ex0 (.agg #[.int .i64 1, .int .i64 0, .int .i64 0, .slice none 0 0]) := by
  rw [ex0, exIn]
  exact ⟨none, 0, rfl, Nat.le_refl _, by omega, by rw [exsIn]; trivial⟩
set_option maxHeartbeats 1000000 in
theorem roperand_any (l : List Ex) (k : Nat) (oa : Option Addr) (cap : Nat) (w : World) (hl : l.length ≤ cap) (hm : cap ≤ 9223372036854775807) (hx : exsIn w l oa 0) :
    Calls Try.prog 61 #[.slice oa l.length cap, .int .i64 (k : Int)] w fun e w' => ∃ (o n v : Int) (a : Option Addr) (ln cp : Nat), e = .returned (.agg #[.int .i64 o, .int .i64 n, .int .i64 v, .slice a ln cp]) ∧ exIn w' (l.getD k ex0) (.agg #[.int .i64 o, .int .i64 n, .int .i64 v, .slice a ln cp]) ∧ Below w.heap.size w w' := by
  obtain ⟨len, hlen⟩ : ∃ len, l.length = len := ⟨_, rfl⟩
  by_cases h : k < len
  · obtain ⟨b, off, rfl, hall⟩ := exsIn_all hx (by intro h0; subst h0; simp at hlen; omega)
    obtain ⟨t, ht⟩ : ∃ t, l[k]? = some t := ⟨_, List.getElem?_eq_getElem (by omega)⟩
    obtain ⟨o, n, v, a, ln, cp, c0, c1, c2, c3, hin⟩ := hall k t ht
    have hg : l.getD k ex0 = t := by rw [List.getD_eq_getElem?_getD, ht]; rfl
    rw [hg, hlen]
    rw [hlen] at hl
    have HI := hid hin
    have e0 := fun o => cell_below (below_a (Below.refl _ w) o) c0
    have e1 := fun o => cell_below (below_a (Below.refl _ w) o) c1
    have e2 := fun o => cell_below (below_a (Below.refl _ w) o) c2
    have e3 := fun o => cell_below (below_a (Below.refl _ w) o) c3
    have hk : (k : Int) < (len : Int) := by omega
    clear hx hall ht hin hg c0 c1 c2 c3 hlen
    go_enter Try.func61, Try.ntmps61
    go_wp2
    have hB : Below w.heap.size w (w.alloc (.cells #[.int .i64 o, .int .i64 n, .int .i64 v, .slice a ln cp] 34)) := below_a (Below.refl _ _) _
    exact bodyPost_ret (v := .agg #[.int .i64 o, .int .i64 n, .int .i64 v, .slice a ln cp]) (by simp [results, Try.results61, go_sem]) rfl ⟨o, n, v, a, ln, cp, rfl, exIn_below hB _ _ HI.out, hB⟩
  · have hg : l.getD k ex0 = ex0 := by rw [List.getD_eq_getElem?_getD, List.getElem?_eq_none (by omega)]; rfl
    rw [hg, hlen]
    rw [hlen] at hl
    have hk : decide ((k : Int) < (len : Int)) = false := by simp; omega
    clear hx hg hlen
    go_enter Try.func61, Try.ntmps61
    go_wp2
    exact bodyPost_ret (v := .agg #[.int .i64 1, .int .i64 0, .int .i64 0, .slice none 0 0]) (by simp [results, Try.results61, go_sem]) rfl ⟨1, 0, 0, none, 0, 0, rfl, ex0_in _, below_a (Below.refl _ _) _⟩
set_option maxHeartbeats 400000 in
theorem rbinary_any (n : Int) (w : World) :
    Calls Try.prog 59 #[.int .i64 n] w fun e w' => e = .returned (.bool (decide (4 ≤ n) && decide (n ≤ 10))) ∧ w = w' := by
  by_cases h : 4 ≤ n
  · by_cases h2 : n ≤ 10
    all_goals
      go_enter Try.func59, Try.ntmps59
      go_wp2
      go_ret
      exact ⟨by simp [h, h2], rfl⟩
  · go_enter Try.func59, Try.ntmps59
    go_wp2
    go_ret
    exact ⟨by have h' : decide (4 ≤ n) = false := by simpa using h
              rw [h']; rfl, rfl⟩
set_option maxHeartbeats 400000 in
theorem relement_any (L : List Int) (s : Value) (n : Int) (w : World) (hs : intsIn w L s) :
    Calls Try.prog 58 #[s, .int .i64 n] w fun e w' => e = .returned (.int .i64 (elemF L n)) ∧ w = w' := by
  obtain ⟨oa, cap, rfl, hl, hm, hc⟩ := hs
  by_cases h0 : n < 0
  · have hr : elemF L n = 0 := by unfold elemF; rw [if_neg (by omega)]
    rw [hr]
    clear hr hc
    go_enter Try.func58, Try.ntmps58
    go_wp2
    go_ret
    exact ⟨rfl, rfl⟩
  · obtain ⟨k, rfl⟩ := Int.eq_ofNat_of_zero_le (Int.not_lt.1 h0)
    by_cases h1 : L.length ≤ k
    · have hr : elemF L k = 0 := by unfold elemF; rw [if_neg (by omega)]
      rw [hr]
      clear hr hc
      go_enter Try.func58, Try.ntmps58
      go_wp2
      go_ret
      exact ⟨rfl, rfl⟩
    · have hr : elemF L k = wrap32 (L.getD k 0) := by unfold elemF; rw [if_pos (by omega)]; rfl
      rw [hr]
      obtain ⟨b, off, rfl, hcell⟩ := hc k (by omega)
      clear hr hc
      have hlt : (k : Int) < (L.length : Int) := by omega
      generalize L.getD k 0 = z at *
      generalize L.length = len at *
      go_enter Try.func58, Try.ntmps58
      go_wp2_with (first | (go_at_call 57; refine (rwrap_any _ _).mono ?_; rintro e w2 ⟨rfl, rfl⟩))
      go_ret
      exact ⟨rfl, rfl⟩
theorem roperand_0 (l : List Ex) (oa : Option Addr) (len cap : Nat) (hn : l.length = len) (w : World) (hl : len ≤ cap) (hm : cap ≤ 9223372036854775807) (hx : exsIn w l oa 0) :
    Calls Try.prog 61 #[.slice oa len cap, .int .i64 0] w fun e w' => ∃ (o n v : Int) (a : Option Addr) (ln cp : Nat), e = .returned (.agg #[.int .i64 o, .int .i64 n, .int .i64 v, .slice a ln cp]) ∧ exIn w' (l.getD 0 ex0) (.agg #[.int .i64 o, .int .i64 n, .int .i64 v, .slice a ln cp]) ∧ Below w.heap.size w w' := by
  subst hn
  exact roperand_any l 0 oa cap w hl hm hx
theorem roperand_1 (l : List Ex) (oa : Option Addr) (len cap : Nat) (hn : l.length = len) (w : World) (hl : len ≤ cap) (hm : cap ≤ 9223372036854775807) (hx : exsIn w l oa 0) :
    Calls Try.prog 61 #[.slice oa len cap, .int .i64 1] w fun e w' => ∃ (o n v : Int) (a : Option Addr) (ln cp : Nat), e = .returned (.agg #[.int .i64 o, .int .i64 n, .int .i64 v, .slice a ln cp]) ∧ exIn w' (l.getD 1 ex0) (.agg #[.int .i64 o, .int .i64 n, .int .i64 v, .slice a ln cp]) ∧ Below w.heap.size w w' := by
  subst hn
  exact roperand_any l 1 oa cap w hl hm hx
theorem rop_b (n a b : Int) (w : World) : Calls Try.prog 60 #[.int .i64 n, .int .i64 a, .int .i64 b] w fun e w' => e = .returned (.int .i64 (opF n a b)) ∧ Below w.heap.size w w' :=
  (rop_any n a b w).mono fun e w' ⟨h, hw⟩ => ⟨h, hw ▸ Below.refl _ _⟩
/-- What the reference's 'Eval' leaves for this expression. -/
def REvalOk (V L : List Int) (t : Ex) : Prop := ∀ (x vs ls : Value) (w : World), exIn w t x → intsIn w V vs → intsIn w L ls →
  Calls Try.prog 36 #[x, vs, ls] w fun e w' => e = .returned (.int .i64 (evalE V L t)) ∧ Below w.heap.size w w'
set_option maxHeartbeats 400000 in
theorem reval_leaf (V L : List Int) (op n v : Int) (l : List Ex) (h123 : op = 1 ∨ op = 2 ∨ op = 3) : REvalOk V L (.mk op n v l) := by
  intro x vs ls w hx hv hL
  rw [exIn] at hx
  obtain ⟨oa, cap, rfl, hl, hm, hxs⟩ := hx
  rw [evalE]
  have Hv := hid hv; clear hv
  have HL := hid hL; clear hL
  clear hxs
  by_cases h1 : op = 1
  · subst h1
    rw [if_pos rfl]
    go_enter Try.func36, Try.ntmps36
    go_wp2_with (first | (go_at_call 57; refine (rwrap_any _ _).mono ?_; rintro e w2 ⟨rfl, rfl⟩))
    go_ret
    exact ⟨rfl, (Below.refl _ _).alloc (Nat.le_refl _) _⟩
  rw [if_neg h1]
  by_cases h2 : op = 2
  · subst h2
    rw [if_pos rfl]
    have hv2 := fun o => intsIn_below ((Below.refl w.heap.size w).alloc (Nat.le_refl _) o) Hv.out
    clear h1
    go_enter Try.func36, Try.ntmps36
    go_wp2_with fail
    refine (relement_any V vs n _ (hv2 _)).mono ?_
    rintro e w2 ⟨rfl, rfl⟩
    go_wp2
    go_ret
    exact ⟨rfl, (Below.refl _ _).alloc (Nat.le_refl _) _⟩
  rw [if_neg h2]
  have h3 : op = 3 := by omega
  subst h3
  rw [if_pos rfl]
  have hv2 := fun o => intsIn_below ((Below.refl w.heap.size w).alloc (Nat.le_refl _) o) HL.out
  clear h1 h2
  go_enter Try.func36, Try.ntmps36
  go_wp2_with fail
  refine (relement_any L ls n _ (hv2 _)).mono ?_
  rintro e w2 ⟨rfl, rfl⟩
  go_wp2
  go_ret
  exact ⟨rfl, (Below.refl _ _).alloc (Nat.le_refl _) _⟩
theorem reval_getD (V L : List Int) (l : List Ex) (IH : ∀ t, t ∈ l → REvalOk V L t) (k : Nat) : REvalOk V L (l.getD k ex0) := by
  rw [List.getD_eq_getElem?_getD]
  by_cases h : k < l.length
  · rw [List.getElem?_eq_getElem h]; exact IH _ (List.getElem_mem _)
  · rw [List.getElem?_eq_none (by omega)]; exact reval_leaf V L 1 0 0 [] (Or.inl rfl)
set_option maxRecDepth 100000 in
set_option maxHeartbeats 2000000 in
theorem reval_step (V L : List Int) (op n v : Int) (l : List Ex) (IH : ∀ t, t ∈ l → REvalOk V L t) : REvalOk V L (.mk op n v l) := by
  by_cases h123 : op = 1 ∨ op = 2 ∨ op = 3
  · exact reval_leaf V L op n v l h123
  intro x vs ls w hx hv hL
  rw [exIn] at hx
  obtain ⟨oa, cap, rfl, hl, hm, hxs⟩ := hx
  have b1 := ne_b (show op ≠ 1 by omega)
  have b2 := ne_b (show op ≠ 2 by omega)
  have b3 := ne_b (show op ≠ 3 by omega)
  have hE : evalE V L (.mk op n v l) = opF op (evalE V L (l.getD 0 ex0)) (evalE V L (l.getD 1 ex0)) := by
    rw [evalE, if_neg (by omega), if_neg (by omega), if_neg (by omega), evals_getD, evals_getD]
  have I0 := hid (fun (x vs ls : Value) (W : World) (h1 : exIn W (l.getD 0 ex0) x) (h2 : intsIn W V vs) (h3 : intsIn W L ls) => reval_getD V L l IH 0 x vs ls W h1 h2 h3)
  have I1 := hid (fun (x vs ls : Value) (W : World) (h1 : exIn W (l.getD 1 ex0) x) (h2 : intsIn W V vs) (h3 : intsIn W L ls) => reval_getD V L l IH 1 x vs ls W h1 h2 h3)
  obtain ⟨len, hlen⟩ : ∃ len, l.length = len := ⟨_, rfl⟩
  rw [hlen] at hl ⊢
  rw [hE]
  have HLN := hid hlen
  have Hv := hid hv; clear hv
  have HL := hid hL; clear hL
  have Hxs := hid hxs; clear hxs
  clear IH hE hlen
  by_cases h4 : 4 ≤ op ∧ op ≤ 10
  · obtain ⟨g4, g5⟩ := h4
    have c4 : decide (4 ≤ op) = true := by simpa using g4
    have c5 : decide (op ≤ 10) = true := by simpa using g5
    clear h123
    obtain ⟨W0, hW0⟩ : ∃ W0, w.alloc (.cells #[.int .i64 op, .int .i64 n, .int .i64 v, .slice oa len cap] 34) = W0 := ⟨_, rfl⟩
    have hw0 : Below w.heap.size w W0 := by rw [← hW0]; exact below_a (Below.refl _ _) _
    have k0 : W0.cell? ⟨w.heap.size, 0, none⟩ = some (.int .i64 op) := by rw [← hW0]; simp [go_sem]
    have k1 : W0.cell? ⟨w.heap.size, 3, none⟩ = some (.slice oa len cap) := by rw [← hW0]; simp [go_sem]
    have HW := hid hW0
    have BW := hid hw0
    go_enter Try.func36, Try.ntmps36
    go_wp2_with (first | (go_at_call 59; refine (rbinary_any _ _).mono ?_; rintro e w2 ⟨rfl, rfl⟩) | (go_at_call 60; fail))
    go_upto_region 10 with fail
    have hsd := (Below.refl W0.heap.size W0).drew
    refine wp_region_held_drew (S := fun W' => (W'.cell? ⟨w.heap.size, 0, none⟩ = some (.int .i64 op) ∧ W'.cell? ⟨w.heap.size, 3, none⟩ = some (.slice oa len cap) ∧ Below W0.heap.size W0 W')) (by kernel_rfl) ?_ (fun hHeld => ?_)
    · exact ⟨k0, k1, hsd⟩
    refine wpAnyH_take (i := 0) (oi := ({ dst := some 30, op := Op.fieldAddr 34 (Operand.tmp 3) 0, type := 0, pos := "ref.go:79", after := #[], guard := none } : Oper)) (v := ?_) rfl (by kernel_rfl) (by kernel_rfl) (by kernel_rfl) (fun _ _ _ h => h) (Or.inl ⟨by rfl, ?_⟩) (by assumption) ?_
    rotate_left
    · intro w hSw; (try dsimp only at hSw); go_simp <;> with_reducible rfl
    (try simp only [Act.put, List.setIfInBounds_toArray, List.set_cons_zero, List.set_cons_succ])
    refine wpAnyH_take (i := 1) (oi := ({ dst := some 31, op := Op.load 3 (Operand.tmp 30), type := 3, pos := "ref.go:79", after := #[{ on := 0, ground := Ground.data }], guard := none } : Oper)) (v := ?_) rfl (by kernel_rfl) (by kernel_rfl) (by kernel_rfl) (fun _ _ _ h => h) (Or.inl ⟨by rfl, ?_⟩) (by assumption) ?_
    rotate_left
    · intro w hSw; (try dsimp only at hSw); go_simp <;> with_reducible rfl
    (try simp only [Act.put, List.setIfInBounds_toArray, List.set_cons_zero, List.set_cons_succ])
    refine wpAnyH_take (i := 2) (oi := ({ dst := some 32, op := Op.fieldAddr 34 (Operand.tmp 3) 3, type := 0, pos := "ref.go:79", after := #[], guard := none } : Oper)) (v := ?_) rfl (by kernel_rfl) (by kernel_rfl) (by kernel_rfl) (fun _ _ _ h => h) (Or.inl ⟨by rfl, ?_⟩) (by assumption) ?_
    rotate_left
    · intro w hSw; (try dsimp only at hSw); go_simp <;> with_reducible rfl
    (try simp only [Act.put, List.setIfInBounds_toArray, List.set_cons_zero, List.set_cons_succ])
    refine wpAnyH_take (i := 3) (oi := ({ dst := some 33, op := Op.load 32 (Operand.tmp 32), type := 32, pos := "ref.go:79", after := #[{ on := 2, ground := Ground.data }], guard := none } : Oper)) (v := ?_) rfl (by kernel_rfl) (by kernel_rfl) (by kernel_rfl) (fun _ _ _ h => h) (Or.inl ⟨by rfl, ?_⟩) (by assumption) ?_
    rotate_left
    · intro w hSw; (try dsimp only at hSw); go_simp <;> with_reducible rfl
    (try simp only [Act.put, List.setIfInBounds_toArray, List.set_cons_zero, List.set_cons_succ])
    refine wpAnyH_take (i := 5) (oi := ({ dst := some 35, op := Op.move (Operand.tmp 1), type := 22, pos := "ref.go:79", after := #[], guard := none } : Oper)) (v := ?_) rfl (by kernel_rfl) (by kernel_rfl) (by kernel_rfl) (fun _ _ _ h => h) (Or.inl ⟨by rfl, ?_⟩) (by assumption) ?_
    rotate_left
    · intro w hSw; (try dsimp only at hSw); go_simp <;> with_reducible rfl
    (try simp only [Act.put, List.setIfInBounds_toArray, List.set_cons_zero, List.set_cons_succ])
    refine wpAnyH_take (i := 6) (oi := ({ dst := some 36, op := Op.move (Operand.tmp 2), type := 22, pos := "ref.go:79", after := #[], guard := none } : Oper)) (v := ?_) rfl (by kernel_rfl) (by kernel_rfl) (by kernel_rfl) (fun _ _ _ h => h) (Or.inl ⟨by rfl, ?_⟩) (by assumption) ?_
    rotate_left
    · intro w hSw; (try dsimp only at hSw); go_simp <;> with_reducible rfl
    (try simp only [Act.put, List.setIfInBounds_toArray, List.set_cons_zero, List.set_cons_succ])
    refine wpAnyH_take (i := 8) (oi := ({ dst := some 38, op := Op.fieldAddr 34 (Operand.tmp 3) 3, type := 0, pos := "ref.go:79", after := #[], guard := none } : Oper)) (v := ?_) rfl (by kernel_rfl) (by kernel_rfl) (by kernel_rfl) (fun _ _ _ h => h) (Or.inl ⟨by rfl, ?_⟩) (by assumption) ?_
    rotate_left
    · intro w hSw; (try dsimp only at hSw); go_simp <;> with_reducible rfl
    (try simp only [Act.put, List.setIfInBounds_toArray, List.set_cons_zero, List.set_cons_succ])
    refine wpAnyH_take (i := 9) (oi := ({ dst := some 39, op := Op.load 32 (Operand.tmp 38), type := 32, pos := "ref.go:79", after := #[{ on := 8, ground := Ground.data }], guard := none } : Oper)) (v := ?_) rfl (by kernel_rfl) (by kernel_rfl) (by kernel_rfl) (fun _ _ _ h => h) (Or.inl ⟨by rfl, ?_⟩) (by assumption) ?_
    rotate_left
    · intro w hSw; (try dsimp only at hSw); go_simp <;> with_reducible rfl
    (try simp only [Act.put, List.setIfInBounds_toArray, List.set_cons_zero, List.set_cons_succ])
    refine wpAnyH_take (i := 11) (oi := ({ dst := some 41, op := Op.move (Operand.tmp 1), type := 22, pos := "ref.go:79", after := #[], guard := none } : Oper)) (v := ?_) rfl (by kernel_rfl) (by kernel_rfl) (by kernel_rfl) (fun _ _ _ h => h) (Or.inl ⟨by rfl, ?_⟩) (by assumption) ?_
    rotate_left
    · intro w hSw; (try dsimp only at hSw); go_simp <;> with_reducible rfl
    (try simp only [Act.put, List.setIfInBounds_toArray, List.set_cons_zero, List.set_cons_succ])
    refine wpAnyH_take (i := 12) (oi := ({ dst := some 42, op := Op.move (Operand.tmp 2), type := 22, pos := "ref.go:79", after := #[], guard := none } : Oper)) (v := ?_) rfl (by kernel_rfl) (by kernel_rfl) (by kernel_rfl) (fun _ _ _ h => h) (Or.inl ⟨by rfl, ?_⟩) (by assumption) ?_
    rotate_left
    · intro w hSw; (try dsimp only at hSw); go_simp <;> with_reducible rfl
    (try simp only [Act.put, List.setIfInBounds_toArray, List.set_cons_zero, List.set_cons_succ])
    refine wpAnyH_ready (rs := [4]) (by kernel_rfl) (by simp) ?_
    refine AllReadyH.cons (o := ({ dst := some 34, op := Op.call { callee := Callee.value (Operand.func 61), args := #[Operand.tmp 33, Operand.const (Value.int IntKind.i64 0)], argTypes := #[32, 3] }, type := 34, pos := "ref.go:79", after := #[{ on := 3, ground := Ground.data }], guard := none } : Oper)) rfl (fun K hK => ?_) ?_
    rotate_left
    · exact AllReadyH.nil
    go_simp
    go_at_call 61
    with_reducible refine (roperand_0 l oa len cap HLN.out _ hl hm (exsIn_below (below_step BW.out hsd) _ _ _ Hxs.out)).mono ?_
    rintro e y0 ⟨oA, nA, vA, aA, lA, cA, rfl, hIA, hq0⟩
    have hB0 := below_step hsd hq0
    clear hHeld
    first | (with_reducible refine hK.out _ _ ?_ (fun hHeld => ?_)) | (go_wp2_with fail; with_reducible refine hK.out _ _ ?_ (fun hHeld => ?_))
    · exact ⟨cell_below hB0 k0, cell_below hB0 k1, hB0⟩
    clear hK K
    (try simp only [Act.put, List.setIfInBounds_toArray, List.set_cons_zero, List.set_cons_succ])
    refine wpAnyH_ready (rs := [7]) (by kernel_rfl) (by simp) ?_
    refine AllReadyH.cons (o := ({ dst := some 37, op := Op.call { callee := Callee.value (Operand.func 36), args := #[Operand.tmp 34, Operand.tmp 35, Operand.tmp 36], argTypes := #[34, 22, 22] }, type := 3, pos := "ref.go:79", after := #[{ on := 4, ground := Ground.data }, { on := 5, ground := Ground.data }, { on := 6, ground := Ground.data }, { on := 4, ground := Ground.chain }], guard := none } : Oper)) rfl (fun K hK => ?_) ?_
    rotate_left
    · exact AllReadyH.nil
    go_simp
    go_at_call 36
    with_reducible refine (I0.out _ _ _ _ hIA (intsIn_below (below_step BW.out hB0) Hv.out) (intsIn_below (below_step BW.out hB0) HL.out)).mono ?_
    rintro e y1 ⟨rfl, hq1⟩
    have hB1 := below_step hB0 hq1
    clear hHeld
    first | (with_reducible refine hK.out _ _ ?_ (fun hHeld => ?_)) | (go_wp2_with fail; with_reducible refine hK.out _ _ ?_ (fun hHeld => ?_))
    · exact ⟨cell_below hB1 k0, cell_below hB1 k1, hB1⟩
    clear hK K
    (try simp only [Act.put, List.setIfInBounds_toArray, List.set_cons_zero, List.set_cons_succ])
    refine wpAnyH_ready (rs := [10]) (by kernel_rfl) (by simp) ?_
    refine AllReadyH.cons (o := ({ dst := some 40, op := Op.call { callee := Callee.value (Operand.func 61), args := #[Operand.tmp 39, Operand.const (Value.int IntKind.i64 1)], argTypes := #[32, 3] }, type := 34, pos := "ref.go:79", after := #[{ on := 9, ground := Ground.data }, { on := 7, ground := Ground.chain }], guard := none } : Oper)) rfl (fun K hK => ?_) ?_
    rotate_left
    · exact AllReadyH.nil
    go_simp
    go_at_call 61
    with_reducible refine (roperand_1 l oa len cap HLN.out _ hl hm (exsIn_below (below_step BW.out hB1) _ _ _ Hxs.out)).mono ?_
    rintro e y2 ⟨oB, nB, vB, aB, lB, cB, rfl, hIB, hq2⟩
    have hB2 := below_step hB1 hq2
    clear hHeld
    first | (with_reducible refine hK.out _ _ ?_ (fun hHeld => ?_)) | (go_wp2_with fail; with_reducible refine hK.out _ _ ?_ (fun hHeld => ?_))
    · exact ⟨cell_below hB2 k0, cell_below hB2 k1, hB2⟩
    clear hK K
    (try simp only [Act.put, List.setIfInBounds_toArray, List.set_cons_zero, List.set_cons_succ])
    refine wpAnyH_ready (rs := [13]) (by kernel_rfl) (by simp) ?_
    refine AllReadyH.cons (o := ({ dst := some 43, op := Op.call { callee := Callee.value (Operand.func 36), args := #[Operand.tmp 40, Operand.tmp 41, Operand.tmp 42], argTypes := #[34, 22, 22] }, type := 3, pos := "ref.go:79", after := #[{ on := 10, ground := Ground.data }, { on := 11, ground := Ground.data }, { on := 12, ground := Ground.data }, { on := 10, ground := Ground.chain }], guard := none } : Oper)) rfl (fun K hK => ?_) ?_
    rotate_left
    · exact AllReadyH.nil
    go_simp
    go_at_call 36
    with_reducible refine (I1.out _ _ _ _ hIB (intsIn_below (below_step BW.out hB2) Hv.out) (intsIn_below (below_step BW.out hB2) HL.out)).mono ?_
    rintro e y3 ⟨rfl, hq3⟩
    have hB3 := below_step hB2 hq3
    clear hHeld
    first | (with_reducible refine hK.out _ _ ?_ (fun hHeld => ?_)) | (go_wp2_with fail; with_reducible refine hK.out _ _ ?_ (fun hHeld => ?_))
    · exact ⟨cell_below hB3 k0, cell_below hB3 k1, hB3⟩
    clear hK K
    (try simp only [Act.put, List.setIfInBounds_toArray, List.set_cons_zero, List.set_cons_succ])
    refine wpAnyH_ready (rs := [14]) (by kernel_rfl) (by simp) ?_
    refine AllReadyH.cons (o := ({ dst := some 44, op := Op.call { callee := Callee.value (Operand.func 60), args := #[Operand.tmp 31, Operand.tmp 37, Operand.tmp 43], argTypes := #[3, 3, 3] }, type := 3, pos := "ref.go:79", after := #[{ on := 1, ground := Ground.data }, { on := 7, ground := Ground.data }, { on := 13, ground := Ground.data }, { on := 13, ground := Ground.chain }], guard := none } : Oper)) rfl (fun K hK => ?_) ?_
    rotate_left
    · exact AllReadyH.nil
    go_simp
    go_at_call 60
    with_reducible refine (rop_b _ _ _ _).mono ?_
    rintro e y4 ⟨rfl, hq4⟩
    have hB4 := below_step hB3 hq4
    clear hHeld
    first | (with_reducible refine hK.out _ _ ?_ (fun hHeld => ?_)) | (go_wp2_with fail; with_reducible refine hK.out _ _ ?_ (fun hHeld => ?_))
    · exact ⟨cell_below hB4 k0, cell_below hB4 k1, hB4⟩
    clear hK K
    (try simp only [Act.put, List.setIfInBounds_toArray, List.set_cons_zero, List.set_cons_succ])
    refine wpAnyH_take (i := 15) (oi := ({ dst := some 6, op := Op.assign (Operand.tmp 44), type := 3, pos := "ref.go:79", after := #[{ on := 14, ground := Ground.data }, { on := 14, ground := Ground.chain }, { on := 0, ground := Ground.phase }, { on := 1, ground := Ground.phase }, { on := 2, ground := Ground.phase }, { on := 3, ground := Ground.phase }, { on := 4, ground := Ground.phase }, { on := 5, ground := Ground.phase }, { on := 6, ground := Ground.phase }, { on := 7, ground := Ground.phase }, { on := 8, ground := Ground.phase }, { on := 9, ground := Ground.phase }, { on := 10, ground := Ground.phase }, { on := 11, ground := Ground.phase }, { on := 12, ground := Ground.phase }, { on := 13, ground := Ground.phase }, { on := 14, ground := Ground.phase }], guard := none } : Oper)) (v := ?_) rfl (by kernel_rfl) (by kernel_rfl) (by kernel_rfl) (fun _ _ _ h => h) (Or.inl ⟨by rfl, ?_⟩) (by assumption) ?_
    rotate_left
    · intro w hSw; (try dsimp only at hSw); go_simp <;> with_reducible rfl
    (try simp only [Act.put, List.setIfInBounds_toArray, List.set_cons_zero, List.set_cons_succ])
    refine wpAnyH_done (by kernel_rfl) ?_ _
    have HB := hid (below_step BW.out hB4)
    clear hHeld
    go_wp2_with fail
    go_ret
    exact ⟨rfl, HB.out⟩
  · have hr : opF op (evalE V L (l.getD 0 ex0)) (evalE V L (l.getD 1 ex0)) = 0 := opF_no _ _ _ (by omega)
    rw [hr]
    clear hr
    have c4 : (decide (4 ≤ op) && decide (op ≤ 10)) = false := by simp; omega
    clear h123 h4
    go_enter Try.func36, Try.ntmps36
    go_wp2_with (first | (go_at_call 59; refine (rbinary_any _ _).mono ?_; rintro e w2 ⟨rfl, rfl⟩))
    go_ret
    exact ⟨rfl, (Below.refl _ _).alloc (Nat.le_refl _) _⟩


mutual
theorem reval_any (V L : List Int) : ∀ t, REvalOk V L t
  | .mk op n v l => reval_step V L op n v l (revals_any V L l)
theorem revals_any (V L : List Int) : ∀ (l : List Ex) (t : Ex), t ∈ l → REvalOk V L t
  | [], _, h => by cases h
  | u :: _, _, .head _ => reval_any V L u
  | _ :: r, t, .tail _ h => revals_any V L r t h
end
end Go.Proofs.Ytdcaecpcofencaa

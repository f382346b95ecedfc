import Derived.Test.YtcjambgbbmffiaaEva
namespace Go.Proofs.Ytcjambgbbmffiaa
open Go.RowKit Go.Instr
set_option linter.unusedVariables false

/-! 'num.Depth' and what it calls. -/
def maxL (l : List Int) : Int := l.foldl max 0

mutual
def depthE : Ex → Int
  | .mk op _ _ l => if 4 ≤ op ∧ op ≤ 10 then wrap64 (maxL ((depthsE l).take 2) + 1) else 1
def depthsE : List Ex → List Int
  | [] => []
  | t :: r => depthE t :: depthsE r
end

theorem maxL_snoc (l : List Int) (x : Int) : maxL (l ++ [x]) = max (maxL l) x := by simp [maxL, List.foldl_append]

theorem foldl_max_le (l : List Int) : ∀ a, a ≤ l.foldl max a := by
  induction l with
  | nil => intro a; exact Int.le_refl _
  | cons x r ih => intro a; exact Int.le_trans (Int.le_max_left a x) (ih _)
theorem maxL_nonneg (l : List Int) : 0 ≤ maxL l := foldl_max_le l 0

theorem depthsE_length : ∀ l, (depthsE l).length = l.length
  | [] => by simp [depthsE]
  | t :: r => by simp [depthsE, depthsE_length r]
theorem depthsE_at : ∀ (l : List Ex) (k : Nat) (t : Ex), l[k]? = some t → (depthsE l)[k]? = some (depthE t)
  | [], k, t, h => by simp at h
  | u :: r, 0, t, h => by simp at h; subst h; simp [depthsE]
  | u :: r, k + 1, t, h => by simp only [depthsE, List.getElem?_cons_succ]; exact depthsE_at r k t (by simpa using h)

set_option maxHeartbeats 400000 in
theorem atMostE_any (oa : Option Addr) (len cap : Nat) (k : Int) (hk : 0 ≤ k) (hl : len ≤ cap) (hm : cap ≤ 9223372036854775807) (w : World) :
    Calls Try.prog 50 #[.slice oa len cap, .int .i64 k] w fun e w' => e = .returned (.slice oa (min len k.toNat) cap) ∧ w = w' := by
  obtain ⟨n, rfl⟩ := Int.eq_ofNat_of_zero_le hk
  simp only [Int.toNat_natCast]
  by_cases h : len ≤ n
  · rw [Nat.min_eq_left h]
    go_enter Try.func50, Try.ntmps50
    go_wp2
    go_ret
    exact ⟨rfl, rfl⟩
  · rw [Nat.min_eq_right (by omega)]
    go_enter Try.func50, Try.ntmps50
    go_wp2
    go_ret
    exact ⟨rfl, rfl⟩

set_option maxHeartbeats 400000 in
theorem operands_any (op n v : Int) (oa : Option Addr) (len cap : Nat) (hl : len ≤ cap) (hm : cap ≤ 9223372036854775807) (w : World) :
    Calls Try.prog 43 #[.agg #[.int .i64 op, .int .i64 n, .int .i64 v, .slice oa len cap]] w fun e w' =>
      ((4 ≤ op ∧ op ≤ 10 → e = .returned (.slice oa (min len 2) cap)) ∧ (¬ (4 ≤ op ∧ op ≤ 10) → e = .returned (.slice none 0 0))) ∧ Below w.heap.size w w' := by
  by_cases h : 4 ≤ op ∧ op ≤ 10
  · obtain ⟨g4, g5⟩ := h
    have c4 : decide (4 ≤ op) = true := by simpa using g4
    have c5 : decide (op ≤ 10) = true := by simpa using g5
    go_enter Try.func43, Try.ntmps43
    go_wp2_with (first | (go_at_call 36; refine (isop_any _ _).mono ?_; rintro e w2 ⟨rfl, rfl⟩) | (go_at_call 50; refine (atMostE_any _ _ _ 2 (by omega) hl hm _).mono ?_; rintro e w2 ⟨rfl, rfl⟩))
    go_ret
    exact ⟨⟨fun _ => rfl, fun h => absurd ⟨g4, g5⟩ h⟩, (Below.refl _ _).alloc (Nat.le_refl _) _⟩
  · have c4 : (decide (4 ≤ op) && decide (op ≤ 10)) = false := by simp; omega
    have H := hid h; clear h
    go_enter Try.func43, Try.ntmps43
    go_wp2_with (first | (go_at_call 36; refine (isop_any _ _).mono ?_; rintro e w2 ⟨rfl, rfl⟩))
    go_ret
    exact ⟨⟨fun h => absurd h H.out, fun _ => rfl⟩, (Below.refl _ _).alloc (Nat.le_refl _) _⟩

/-- What 'num.Depth' leaves for this expression. -/
def DepthOk (t : Ex) : Prop := ∀ (x : Value) (w : World), exIn w t x →
  Calls Try.prog 16 #[x] w fun e w' => e = .returned (.int .i64 (depthE t)) ∧ Below w.heap.size w w'

theorem maxL_take (l : List Int) (k : Nat) (x : Int) (h : l[k]? = some x) : maxL (l.take (k + 1)) = max (maxL (l.take k)) x := by
  rw [List.take_add_one, h, Option.toList_some, maxL_snoc]

/-- The elements of a list that is not empty: all behind one address. -/
theorem exsIn_all {w : World} {l : List Ex} {oa : Option Addr} (hx : exsIn w l oa 0) (hne : l ≠ []) :
    ∃ (b off : Nat), oa = some ⟨b, off, none⟩ ∧ ∀ (k : Nat) (t : Ex), l[k]? = some t → ∃ (o n v : Int) (a : Option Addr) (ln cp : Nat), w.cell? ⟨b, off + k * 4, none⟩ = some (.int .i64 o) ∧ w.cell? ⟨b, off + k * 4 + 1, none⟩ = some (.int .i64 n) ∧
      w.cell? ⟨b, off + k * 4 + 2, none⟩ = some (.int .i64 v) ∧ w.cell? ⟨b, off + k * 4 + 3, none⟩ = some (.slice a ln cp) ∧ exIn w t (.agg #[.int .i64 o, .int .i64 n, .int .i64 v, .slice a ln cp]) := by
  cases l with
  | nil => exact absurd rfl hne
  | cons u r =>
    obtain ⟨b, off, -, -, -, -, rfl, -⟩ := exsIn_at hx 0 u rfl
    refine ⟨b, off, rfl, fun k t hk => ?_⟩
    obtain ⟨b', off', x0, x1, x2, x3, hoa, c0, c1, c2, c3, hin⟩ := exsIn_at hx k t hk
    simp only [Option.some.injEq, Addr.mk.injEq, and_true] at hoa
    obtain ⟨rfl, rfl⟩ := hoa
    rw [Nat.zero_add] at c0 c1 c2 c3
    obtain ⟨o, n, v, l⟩ := t
    have hin' := hin
    rw [exIn] at hin
    obtain ⟨oa', cap', h1, -⟩ := hin
    simp only [Value.agg.injEq, Array.mk.injEq, List.cons.injEq, and_true] at h1
    obtain ⟨rfl, rfl, rfl, rfl⟩ := h1
    exact ⟨_, _, _, _, _, _, c0, c1, c2, c3, hin'⟩

set_option maxHeartbeats 400000 in
theorem depth_step (op n v : Int) (l : List Ex) (IH : ∀ t, t ∈ l → DepthOk t) : DepthOk (.mk op n v l) := by
  intro x w hx
  rw [exIn] at hx
  obtain ⟨oa, cap, rfl, hl, hm, hxs⟩ := hx
  rw [depthE]
  have HI := hid IH; clear IH
  by_cases h : 4 ≤ op ∧ op ≤ 10
  · rw [if_pos h]
    have H := hid h; clear h
    by_cases hne : l = []
    · subst hne
      simp only [List.length_nil, depthsE] at *
      clear hxs HI
      go_enter Try.func16, Try.ntmps16
      go_wp2_with fail
      refine (operands_any op n v _ 0 cap hl hm _).mono ?_
      rintro e w1 ⟨⟨he, -⟩, hb1⟩
      have := he H.out
      subst this
      clear he
      have hbb := ((Below.refl w.heap.size w).alloc (Nat.le_refl _) _).trans (hb1.mono (by simp))
      clear hb1
      simp only [Nat.zero_min]
      go_wp2_with fail
      go_loopw [3, 9] (fun d i wr => i = .int .i64 0 ∧ d = .int .i64 0 ∧ Below w.heap.size w wr) (fun _ _ _ => 0)
      case atStart => exact ⟨rfl, rfl, hbb⟩
      case round =>
        obtain ⟨rfl, rfl, hb⟩ := hrel
        go_wp2
        go_ret
        exact ⟨ret_i (by simp [maxL, wrap64]), hb⟩
    · obtain ⟨b, off, rfl, hall⟩ := exsIn_all hxs hne
      have Hall := hid hall; clear hall
      have Hlen := hid (depthsE_length l)
      obtain ⟨len, hlen⟩ : ∃ len, l.length = len := ⟨_, rfl⟩
      rw [hlen] at hl ⊢
      have Hl := hid hlen; clear hlen
      clear hne hxs
      go_enter Try.func16, Try.ntmps16
      go_wp2_with fail
      refine (operands_any op n v _ len cap hl hm _).mono ?_
      rintro e w1 ⟨⟨he, -⟩, hb1⟩
      have := he H.out
      subst this
      clear he
      have hbb := ((Below.refl w.heap.size w).alloc (Nat.le_refl _) _).trans (hb1.mono (by simp))
      clear hb1
      obtain ⟨m, hlm, hlm2⟩ : ∃ m, min len 2 = m ∧ m ≤ len := ⟨_, rfl, by omega⟩
      rw [hlm]
      have Hlm := hid hlm; clear hlm
      go_wp2_with fail
      go_loopw [3, 9] (fun d i wr => ∃ k : Nat, k ≤ m ∧ i = .int .i64 k ∧ d = .int .i64 (maxL ((depthsE l).take k)) ∧ Below w.heap.size w wr) (fun _ i _ => m - (intOf i).toNat)
      case atStart => exact ⟨0, Nat.zero_le _, rfl, rfl, hbb⟩
      case round =>
        obtain ⟨k, hk, rfl, rfl, hb⟩ := hrel
        clear hbb
        by_cases hlt : k < m
        · obtain ⟨t, ht⟩ : ∃ t, l[k]? = some t := ⟨_, List.getElem?_eq_getElem (by have := Hl.out; omega)⟩
          obtain ⟨o', n', v', a', ln', cp', c0, c1, c2, c3, hin⟩ := Hall.out k t ht
          have htake := hid (maxL_take _ _ _ (depthsE_at l k t ht))
          have hti := fun W hB => HI.out t (List.mem_of_getElem? ht) _ W (exIn_below hB _ _ hin)
          have e0 := cell_below hb c0
          have e1 := cell_below hb c1
          have e2 := cell_below hb c2
          have e3 := cell_below hb c3
          have Hti := hid hti; clear hti
          clear c0 c1 c2 c3 hin ht
          go_wp2_with fail
          have hball := hb.alloc hb.size (Obj.cells #[.int .i64 o', .int .i64 n', .int .i64 v', .slice a' ln' cp'] 24)
          refine (Hti.out _ hball).mono ?_
          rintro e w2 ⟨rfl, hb2⟩
          have hbb2 := hid (hball.trans (hb2.mono hball.size))
          clear hball hb2 hb e0 e1 e2 e3
          have hmx := maxL_nonneg ((depthsE l).take k)
          go_wp2
          all_goals
            go_roundw
            case rel => exact ⟨k + 1, by omega, by go_num, by rw [htake.out]; congr 1; omega, hbb2.out⟩
            case measure => simp [intOf]; omega
        · have hkm : k = m := by omega
          subst hkm
          have hlen : (depthsE l).take 2 = (depthsE l).take k := by
            have h1 := Hlen.out
            have h2 := Hlm.out
            have h3 := Hl.out
            by_cases h4 : len ≤ 2
            · rw [List.take_of_length_le (by omega), List.take_of_length_le (by omega)]
            · rw [show k = 2 by omega]
          have Hlen2 := hid hlen; clear hlen
          go_wp2
          go_ret
          exact ⟨ret_i (by rw [Hlen2.out]), hb⟩
  · rw [if_neg h]
    have H := hid h; clear h
    obtain ⟨len, hlen⟩ : ∃ len, l.length = len := ⟨_, rfl⟩
    rw [hlen] at hl ⊢
    clear hlen hxs HI
    go_enter Try.func16, Try.ntmps16
    go_wp2_with fail
    refine (operands_any op n v _ len cap hl hm _).mono ?_
    rintro e w1 ⟨⟨-, he⟩, hb1⟩
    have := he H.out
    subst this
    clear he
    have hbb := ((Below.refl w.heap.size w).alloc (Nat.le_refl _) _).trans (hb1.mono (by simp))
    clear hb1
    go_wp2_with fail
    go_loopw [3, 9] (fun d i wr => i = .int .i64 0 ∧ d = .int .i64 0 ∧ Below w.heap.size w wr) (fun _ _ _ => 0)
    case atStart => exact ⟨rfl, rfl, hbb⟩
    case round =>
      obtain ⟨rfl, rfl, hb⟩ := hrel
      go_wp2
      go_ret
      exact ⟨rfl, hb⟩

mutual
theorem depth_any : ∀ t, DepthOk t
  | .mk op n v l => depth_step op n v l (depths_any l)
theorem depths_any : ∀ (l : List Ex) (t : Ex), t ∈ l → DepthOk t
  | [], _, h => by cases h
  | u :: _, _, .head _ => depth_any u
  | _ :: r, t, .tail _ h => depths_any r t h
end
end Go.Proofs.Ytcjambgbbmffiaa


import Derived.Test.YtnholabamjodhaaEva
namespace Go.Proofs.Ytnholabamjodhaa
open Go.RowKit Go.Instr
set_option linter.unusedVariables false
set_option linter.unusedSimpArgs false

/-! 'num.Depth' and what it calls. -/
def maxL (l : List Int) : Int := l.foldl max 0

mutual
def depthE : Ex → Int
  | .mk op _ _ l => if 4 ≤ op ∧ op ≤ 10 then wrap64 (maxL ((depthsE l).take 2) + 1) else 1
def depthsE : List Ex → List Int
  | [] => []
  | t :: r => depthE t :: depthsE r
end

theorem maxL_snoc (l : List Int) (x : Int) : maxL (l ++ [x]) = max (maxL l) x := by simp [maxL, List.foldl_append]

theorem foldl_max_le (l : List Int) : ∀ a, a ≤ l.foldl max a := by
  induction l with
  | nil => intro a; exact Int.le_refl _
  | cons x r ih => intro a; exact Int.le_trans (Int.le_max_left a x) (ih _)
theorem maxL_nonneg (l : List Int) : 0 ≤ maxL l := foldl_max_le l 0

theorem depthsE_length : ∀ l, (depthsE l).length = l.length
  | [] => by simp [depthsE]
  | t :: r => by simp [depthsE, depthsE_length r]
theorem depthsE_at : ∀ (l : List Ex) (k : Nat) (t : Ex), l[k]? = some t → (depthsE l)[k]? = some (depthE t)
  | [], k, t, h => by simp at h
  | u :: r, 0, t, h => by simp at h; subst h; simp [depthsE]
  | u :: r, k + 1, t, h => by simp only [depthsE, List.getElem?_cons_succ]; exact depthsE_at r k t (by simpa using h)

theorem maxL_take (l : List Int) (k : Nat) (x : Int) (h : l[k]? = some x) : maxL (l.take (k + 1)) = max (maxL (l.take k)) x := by
  rw [List.take_add_one, h, Option.toList_some, maxL_snoc]

/-- The elements of a list that is not empty: all behind one address. -/
theorem exsIn_all {w : World} {l : List Ex} {oa : Option Addr} (hx : exsIn w l oa 0) (hne : l ≠ []) :
    ∃ (b off : Nat), oa = some ⟨b, off, none⟩ ∧ ∀ (k : Nat) (t : Ex), l[k]? = some t → ∃ (o n v : Int) (a : Option Addr) (ln cp : Nat), w.cell? ⟨b, off + k * 4, none⟩ = some (.int .i64 o) ∧ w.cell? ⟨b, off + k * 4 + 1, none⟩ = some (.int .i64 n) ∧
      w.cell? ⟨b, off + k * 4 + 2, none⟩ = some (.int .i64 v) ∧ w.cell? ⟨b, off + k * 4 + 3, none⟩ = some (.slice a ln cp) ∧ exIn w t (.agg #[.int .i64 o, .int .i64 n, .int .i64 v, .slice a ln cp]) := by
  cases l with
  | nil => exact absurd rfl hne
  | cons u r =>
    obtain ⟨b, off, -, -, -, -, rfl, -⟩ := exsIn_at hx 0 u rfl
    refine ⟨b, off, rfl, fun k t hk => ?_⟩
    obtain ⟨b', off', x0, x1, x2, x3, hoa, c0, c1, c2, c3, hin⟩ := exsIn_at hx k t hk
    simp only [Option.some.injEq, Addr.mk.injEq, and_true] at hoa
    obtain ⟨rfl, rfl⟩ := hoa
    rw [Nat.zero_add] at c0 c1 c2 c3
    obtain ⟨o, n, v, l⟩ := t
    have hin' := hin
    rw [exIn] at hin
    obtain ⟨oa', cap', h1, -⟩ := hin
    simp only [Value.agg.injEq, Array.mk.injEq, List.cons.injEq, and_true] at h1
    obtain ⟨rfl, rfl, rfl, rfl⟩ := h1
    exact ⟨_, _, _, _, _, _, c0, c1, c2, c3, hin'⟩

end Go.Proofs.Ytnholabamjodhaa

import Derived.Test.YtofigldjaoemfaaDoorRsp
namespace Go.Proofs.YtofigldjaoemfaaDoor
open Go.RowKit Go.Instr
set_option linter.unusedVariables false

/-! Rows that the call itself has built. -/
theorem own_below {w w' : World} {base : Nat} {e : TypeId} {size : Nat} {v : Value} {n : Nat} {xs : List Value} (h : w.ownsRow base e size v n xs) (hb : Below w.heap.size w w') : w'.ownsRow base e size v n xs := by
  refine ⟨h.1, ?_⟩
  rcases h.2 with hn | ⟨g, cap, cur, rfl, h1, h2, rest⟩
  · exact .inl hn
  · exact .inr ⟨g, cap, cur, rfl, h1, (hb.block g (Array.getElem?_eq_some_iff.1 h2).1).trans h2, rest⟩
theorem own_base {w : World} {base base' : Nat} {e : TypeId} {size : Nat} {v : Value} {n : Nat} {xs : List Value} (h : w.ownsRow base' e size v n xs) (hb : base ≤ base') : w.ownsRow base e size v n xs := by
  refine ⟨h.1, ?_⟩
  rcases h.2 with hn | ⟨g, cap, cur, rfl, h1, rest⟩
  · exact .inl hn
  · exact .inr ⟨g, cap, cur, rfl, by omega, rest⟩
theorem own_some {w : World} {base : Nat} {e : TypeId} {size : Nat} {v : Value} {n : Nat} {xs : List Value} (h : w.ownsRow base e size v n xs) (hn : v ≠ .slice none 0 0) : ∃ g c, v = .slice (some ⟨g, 0, none⟩) n c ∧ base ≤ g ∧ g < w.heap.size ∧ n ≤ c ∧ c ≤ maxLen := by
  rcases h.2 with h0 | ⟨g, cap, cur, rfl, h1, h2, h3, h4, -⟩
  · exact absurd h0.1 hn
  · exact ⟨g, cap, rfl, h1, (Array.getElem?_eq_some_iff.1 h2).1, h3, h4⟩
theorem two_cells (W : World) (u v : Value) (t : TypeId) : ∀ (j : Nat) (x : Value), [u, v][j]? = some x → (W.alloc (.cells #[u, v] t)).cell? ((⟨W.heap.size, 0, none⟩ : Addr).add j) = some x := by
  intro j x hj
  have hlt := (List.getElem?_eq_some_iff.1 hj).1
  simp at hlt
  have : j = 0 ∨ j = 1 := by omega
  rcases this with rfl | rfl
  · obtain rfl := Option.some.inj hj
    simp [Addr.add, go_sem]
  · obtain rfl := Option.some.inj hj
    simp [Addr.add, go_sem]
theorem two_one (a b : Int) : ∀ u ∈ [Value.int .i64 a, Value.int .i64 b], u.oneCell' = true := by
  intro u hu
  simp at hu
  rcases hu with rfl | rfl <;> rfl
theorem frac_lit (W : World) (a b : Int) : (W.alloc (.cells #[.int .i64 a, .int .i64 b] 26)).ownsRow W.heap.size 26 2 (.slice (some ⟨W.heap.size, 0, none⟩) 1 1) 1 (fcells [(a, b)]) :=
  World.ownsRow_lit W _ 1 (Nat.le_refl _) (by unfold maxLen; omega) rfl
theorem frac_nil (W : World) : (W.alloc (.cells #[] 26)).ownsRow W.heap.size 26 2 (.slice (some ⟨W.heap.size, 0, none⟩) 0 0) 0 (fcells []) :=
  World.ownsRow_lit W _ 0 (Nat.le_refl _) (by unfold maxLen; omega) rfl
/-- Two rows of the call's own, in two blocks: a list and its reverse. -/
structure TwoRows (B : Nat) (A : List (Int × Int)) (k ga ca gb cb : Nat) (w : World) : Prop where
  a : w.ownsRow B 26 2 (.slice (some ⟨ga, 0, none⟩) k ca) k (fcells A)
  b : w.ownsRow B 26 2 (.slice (some ⟨gb, 0, none⟩) k cb) k (fcells A.reverse)
  ne : ga ≠ gb
  la : ga < w.heap.size
  lb : gb < w.heap.size
  len : A.length = k
  ka : k ≤ ca
  kb : k ≤ cb
  ma : ca ≤ maxLen
  mb : cb ≤ maxLen
theorem TwoRows.below {B : Nat} {A : List (Int × Int)} {k ga ca gb cb : Nat} {w w' : World} (h : TwoRows B A k ga ca gb cb w) (hb : Below w.heap.size w w') : TwoRows B A k ga ca gb cb w' :=
  ⟨own_below h.a hb, own_below h.b hb, h.ne, Nat.lt_of_lt_of_le h.la hb.size, Nat.lt_of_lt_of_le h.lb hb.size, h.len, h.ka, h.kb, h.ma, h.mb⟩
theorem own_grown {w w' : World} {base g c : Nat} {e : TypeId} {size n : Nat} {xs : List Value} {row : Option Nat} (h : w.ownsRow base e size (.slice (some ⟨g, 0, none⟩) n c) n xs) (hg : w.grownBy w' row) (hne : row ≠ some g) : w'.ownsRow base e size (.slice (some ⟨g, 0, none⟩) n c) n xs :=
  h.kept hg (Or.inr (by simpa [Value.ownBlock] using fun h => hne h.symm))
end Go.Proofs.YtofigldjaoemfaaDoor

import Derived.Test.YtpfcfaakdhamlaaJz
import Derived.Test.YtpfcfaakdhamlaaJvh
namespace Go.Proofs.Ytpfcfaakdhamlaa
open Go.RowKit Go.Instr Go.Deep
set_option maxRecDepth 100000
set_option linter.unusedVariables false
set_option linter.unusedSimpArgs false

/-! GapAssumes' mathematics. -/
theorem intsIn_far {w : World} {L : List Int} {g n cap : Nat} (h : intsIn w L (.slice (some ⟨g, 0, none⟩) n cap)) {p : Addr} (hp : p.block ≠ g) (u : Value) : intsIn (w.setCell p u) L (.slice (some ⟨g, 0, none⟩) n cap) := by
  obtain ⟨oa, cap', h1, h2, h3, h4⟩ := h
  injection h1 with h5 h6 h7
  subst h5 h6 h7
  refine ⟨_, _, rfl, h2, h3, fun i hi => ?_⟩
  obtain ⟨b, off, h8, h9⟩ := h4 i hi
  injection h8 with h8
  injection h8 with h81 h82 _
  subst h81 h82
  refine ⟨_, _, rfl, ?_⟩
  rw [World.cell?_setCell_other w p _ _ (fun e => hp (by rw [e]))]
  exact h9
theorem has_r {w : World} {lo b n m : Nat} {R C : Nat → Nat} {Z : Nat → Nat → Int} (c : Nat) (h : Gr w lo b n m R C Z) (l : List Int) (oa : Option Addr) (cap : Nat) (hl : intsIn w l (.slice oa n cap)) (hln : l.length = n) (hmn : m ≤ n) (hn : n ≤ 5) (h32 : ∀ i, -2147483648 ≤ l.getD i 0 ∧ l.getD i 0 ≤ 2147483647) {r : Bool} (hr : hasB n m Z (fun i => l.getD i 0) = r) :
    Calls Try.prog 34 #[.slice (some ⟨b, 0, none⟩) n c, .slice oa n cap] w fun e w' => e = .returned (.bool r) ∧ w = w' := by
  rw [← hr]; exact has_any w c h l oa cap hl hln hmn (by omega) (fun i => ⟨(h32 i).1, by have := (h32 i).2; omega⟩)
theorem leqB_iff {n m : Nat} {Z Y : Nat → Nat → Int} : leqB n m Z Y = true ↔ ∀ i, i < n → ∀ j, j < m → Z i j ≤ Y i j := by unfold leqB; exact decide_eq_true_iff
theorem hasB_iff {n m : Nat} {Z : Nat → Nat → Int} {V : Nat → Int} : hasB n m Z V = true ↔ ∀ i, i < n → ∀ j, j < m → V i - V j ≤ Z i j := by unfold hasB; exact decide_eq_true_iff
theorem tight_has {V ml : List Int} {n m : Nat} (hv : ∀ i, -2147483648 ≤ V.getD i 0 ∧ V.getD i 0 ≤ 2147483647) (h8 : ∀ i, 0 ≤ ml.getD i 0 ∧ ml.getD i 0 ≤ 255) : hasB n m (tightZ V ml m) (fun i => V.getD i 0) = true := by
  rw [hasB_iff]
  intro i _ j _
  have h1 := hv i
  have h2 := hv j
  have h3 := tk_bd h8 (i * m + j)
  show V.getD i 0 - V.getD j 0 ≤ tightZ V ml m i j
  unfold tightZ
  split <;> omega
theorem tight_ok {V ml : List Int} (n m : Nat) (hv : ∀ i, -2147483648 ≤ V.getD i 0 ∧ V.getD i 0 ≤ 2147483647) (h8 : ∀ i, 0 ≤ ml.getD i 0 ∧ ml.getD i 0 ≤ 255) : Zok n m (tightZ V ml m) := fun i j _ _ => by
  have h1 := hv i
  have h2 := hv j
  have h3 := tk_bd h8 (i * m + j)
  unfold tightZ
  split
  · decide
  · rw [fineB_iff]; omega
theorem evalE_bd (V L : List Int) (t : Ex) : -2147483648 ≤ evalE V L t ∧ evalE V L t ≤ 2147483647 := by
  obtain ⟨op, n, v, l⟩ := t
  have h0 : -2147483648 ≤ (0 : Int) ∧ (0 : Int) ≤ 2147483647 := by decide
  have he : ∀ (l : List Int) (n : Int), -2147483648 ≤ elemF l n ∧ elemF l n ≤ 2147483647 := fun l n => by
    unfold elemF
    split
    · exact wrap32_bd _
    · exact h0
  rw [evalE]
  split
  · exact wrap32_bd _
  · split
    · exact he _ _
    · split
      · exact he _ _
      · unfold opF
        repeat (first | exact wrap32_bd _ | exact h0 | split)
theorem sumF_ge {a k x : Int} (h : x ≤ a + k) (hx : x ≤ 1099511627776) : x ≤ sumF a k := by
  unfold sumF
  split <;> assumption
theorem below_has {V : Nat → Int} {n m : Nat} {Z Y : Nat → Nat → Int} (hb : ∀ i, -2147483648 ≤ V i ∧ V i ≤ 2147483647) (hZ : hasB n m Z V = true) (hY : hasB n m Y V = true) {x y : Nat} (hy : y < n) {k : Int} (h : V x - V y ≤ k) : hasB n m (belowF m Z Y x y k) V = true := by
  rw [hasB_iff] at hZ hY ⊢
  intro i hi j hj
  have h1 := hZ i hi j hj
  have b1 := hb i
  have b2 := hb j
  unfold belowF
  split
  · rename_i e
    have e1 := e.1
    subst e1
    have h2 := hY y hy j hj
    have h3 : V i - V j ≤ sumF (Y y j) k := sumF_ge (by omega) (by omega)
    omega
  · exact h1
theorem below_leq {n m : Nat} {Z Y : Nat → Nat → Int} (x y : Nat) (k : Int) : leqB n m (belowF m Z Y x y k) Z = true := by
  rw [leqB_iff]
  intro i _ j _
  unfold belowF
  split
  · exact Int.min_le_left _ _
  · exact Int.le_refl _
theorem leq_trans {n m : Nat} {X Y Z : Nat → Nat → Int} (h1 : leqB n m X Y = true) (h2 : leqB n m Y Z = true) : leqB n m X Z = true := by
  rw [leqB_iff] at *
  intro i hi j hj
  exact Int.le_trans (h1 i hi j hj) (h2 i hi j hj)
theorem leq_self {n m : Nat} (Z : Nat → Nat → Int) : leqB n m Z Z = true := leqB_iff.2 fun i _ j _ => Int.le_refl _
theorem wholeB_eq {V : List Int} {n : Nat} {op nn v : Int} {l : List Ex} (h : wholeB V n op nn v l = true) : evalE V [] (.mk op nn v l) = V.getD (shiftT n op nn l).1 0 + (shiftT n op nn l).2.1 := by
  unfold wholeB at h
  simp only [Bool.and_eq_true, decide_eq_true_eq, beq_iff_eq] at h
  exact h.2.2.2
theorem assumes_ok {V : List Int} {n m : Nat} {K : Nat → Nat → Int} (hv : ∀ i, -2147483648 ≤ V.getD i 0 ∧ V.getD i 0 ≤ 2147483647) (hK : hasB n m K (fun i => V.getD i 0) = true) (op ao an av bo bn bv : Int) (la lb : List Ex) :
    hasB n m (assumeN m K op (holdsC V [] (.mk op [.mk ao an av la, .mk bo bn bv lb] [])) (wholeB V n ao an av la && wholeB V n bo bn bv lb && ((shiftT n ao an la).2.2 && (shiftT n bo bn lb).2.2)) (shiftT n ao an la).1 (shiftT n bo bn lb).1 (shiftT n ao an la).2.1 (shiftT n bo bn lb).2.1) (fun i => V.getD i 0) = true ∧
    leqB n m (assumeN m K op (holdsC V [] (.mk op [.mk ao an av la, .mk bo bn bv lb] [])) (wholeB V n ao an av la && wholeB V n bo bn bv lb && ((shiftT n ao an la).2.2 && (shiftT n bo bn lb).2.2)) (shiftT n ao an la).1 (shiftT n bo bn lb).1 (shiftT n ao an la).2.1 (shiftT n bo bn lb).2.1) K = true := by
  obtain ⟨ok, hok⟩ : ∃ b, (wholeB V n ao an av la && wholeB V n bo bn bv lb && ((shiftT n ao an la).2.2 && (shiftT n bo bn lb).2.2)) = b := ⟨_, rfl⟩
  rw [hok]
  cases ok
  · unfold assumeN
    rw [if_pos rfl]
    exact ⟨hK, leq_self K⟩
  · simp only [Bool.and_eq_true] at hok
    obtain ⟨⟨w1, w2⟩, s1, s2⟩ := hok
    have l1 := shiftT_lt s1
    have l2 := shiftT_lt s2
    have E1 := wholeB_eq w1
    have E2 := wholeB_eq w2
    have HC : holdsC V [] (.mk op [.mk ao an av la, .mk bo bn bv lb] []) = if op = 1 then true else if op = 2 then decide (evalE V [] (.mk ao an av la) < evalE V [] (.mk bo bn bv lb)) else if op = 3 then decide (evalE V [] (.mk ao an av la) ≤ evalE V [] (.mk bo bn bv lb)) else if op = 4 then evalE V [] (.mk ao an av la) == evalE V [] (.mk bo bn bv lb) else if op = 5 then true else if op = 6 then false else if op = 7 then false else false := by
      rw [holdsC]
      simp only [evalsE, holdsCs]
      rfl
    rw [E1, E2] at HC
    clear E1 E2 s1 s2 w1 w2
    obtain ⟨⟨x, xc, xo⟩, hsa⟩ : ∃ s, shiftT n ao an la = s := ⟨_, rfl⟩
    obtain ⟨⟨y, yc, yo⟩, hsb⟩ : ∃ s, shiftT n bo bn lb = s := ⟨_, rfl⟩
    rw [hsa, hsb] at HC
    rw [hsa] at l1
    rw [hsb] at l2
    rw [hsa, hsb]
    clear hsa hsb
    dsimp only at HC l1 l2 ⊢
    have vx := hv x
    have vy := hv y
    unfold assumeN
    rw [if_neg (by decide)]
    by_cases o2 : op = 2
    · subst o2
      rw [if_neg (by decide), if_pos rfl] at HC
      by_cases h : V.getD x 0 + xc < V.getD y 0 + yc
      · rw [HC, if_pos ⟨rfl, decide_eq_true h⟩]
        exact ⟨below_has hv hK hK l2 (by show V.getD x 0 - V.getD y 0 ≤ _; omega), below_leq _ _ _⟩
      · rw [HC, if_neg (fun hh => h (of_decide_eq_true hh.2)), if_pos rfl]
        exact ⟨below_has hv hK hK l1 (by show V.getD y 0 - V.getD x 0 ≤ _; omega), below_leq _ _ _⟩
    · rw [if_neg (fun h => o2 h.1), if_neg o2]
      by_cases o3 : op = 3
      · subst o3
        rw [if_neg (by decide), if_neg (by decide), if_pos rfl] at HC
        by_cases h : V.getD x 0 + xc ≤ V.getD y 0 + yc
        · rw [HC, if_pos ⟨rfl, decide_eq_true h⟩]
          exact ⟨below_has hv hK hK l2 (by show V.getD x 0 - V.getD y 0 ≤ _; omega), below_leq _ _ _⟩
        · rw [HC, if_neg (fun hh => h (of_decide_eq_true hh.2)), if_pos rfl]
          exact ⟨below_has hv hK hK l1 (by show V.getD y 0 - V.getD x 0 ≤ _; omega), below_leq _ _ _⟩
      · rw [if_neg (fun h => o3 h.1), if_neg o3]
        by_cases o4 : op = 4
        · subst o4
          rw [if_neg (by decide), if_neg (by decide), if_neg (by decide), if_pos rfl] at HC
          by_cases h : V.getD x 0 + xc = V.getD y 0 + yc
          · rw [HC, if_pos ⟨rfl, beq_iff_eq.2 h⟩]
            exact ⟨below_has hv (below_has hv hK hK l2 (by show V.getD x 0 - V.getD y 0 ≤ _; omega)) hK l1 (by show V.getD y 0 - V.getD x 0 ≤ _; omega), leq_trans (below_leq _ _ _) (below_leq _ _ _)⟩
          · rw [HC, if_neg (fun hh => h (eq_of_beq hh.2))]
            exact ⟨hK, leq_self K⟩
        · rw [if_neg (fun h => o4 h.1)]
          exact ⟨hK, leq_self K⟩
end Go.Proofs.Ytpfcfaakdhamlaa

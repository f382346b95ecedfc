import Derived.Test.YtnholabamjodhaaAb
import Derived.Orders
import Derived.RegionTactic
namespace Go.Proofs.Ytnholabamjodhaa
open Go Go.RowKit Go.Instr
set_option linter.unusedVariables false
set_option linter.unusedSimpArgs false

/-! A region that draws its order, by an invariant: each operation is met once, whatever has come up before it. -/
def upB (b : Nat → Bool) (i : Nat) : Nat → Bool := fun j => if j = i then true else b j
def StepsI (X : Nat → Oper → Prop) : Nat → List Oper → Prop
  | _, [] => True
  | n, o :: os => X n o ∧ StepsI X (n + 1) os
theorem stepsI_get {X : Nat → Oper → Prop} : ∀ (os : List Oper) (n : Nat), StepsI X n os → ∀ (i : Nat) (o : Oper), os[i]? = some o → X (n + i) o
  | [], _, _, i, o, h => by simp at h
  | o' :: os, n, h, 0, o, he => by
    simp at he
    subst he
    exact h.1
  | o' :: os, n, h, i + 1, o, he => by
    have := stepsI_get os (n + 1) h.2 i o (by simpa using he)
    rw [show n + (i + 1) = n + 1 + i by omega]
    exact this
def backOps (ops : Array Oper) : Bool := (List.range ops.size).all fun i => match ops[i]? with | some o => o.after.all fun e => decide (e.on < i) | none => true
theorem all_listed {ops : Array Oper} {l : Array Bool} (hb : backOps ops = true) (hs : l.size = ops.size) (hr : Region.ready .any ops l = []) : ∀ i, i < ops.size → l.getD i false = true := by
  intro i
  induction i using Nat.strongRecOn with
  | ind i ih =>
    intro hi
    cases hl : l.getD i false with
    | true => rfl
    | false =>
      exfalso
      have hm : i ∈ Region.ready .any ops l := by
        refine mem_ready.2 ⟨?_, ops[i], by simp [hi], ?_⟩
        · have hil : i < l.size := by omega
          simp [hil] at hl ⊢
          exact hl
        · intro e he _
          have h1 := List.all_eq_true.1 hb i (List.mem_range.2 hi)
          simp only [Array.getElem?_eq_getElem hi] at h1
          have h2 : e.on < i := by
            have h3 := Array.all_eq_true_iff_forall_mem.1 h1 e he
            simpa using h3
          exact ih e.on h2 (by omega)
      rw [hr] at hm
      cases hm
def unl (l : Array Bool) : Nat := l.toList.count false
theorem unl_set {l : Array Bool} {i : Nat} (h : l.getD i true = false) : unl (l.setIfInBounds i true) + 1 = unl l := by
  unfold unl
  rcases l with ⟨l⟩
  have hi : i < l.length := by
    rcases Nat.lt_or_ge i l.length with h' | h'
    · exact h'
    · simp [h'] at h
  have hv : l[i] = false := by simpa [hi] using h
  simp only [List.setIfInBounds_toArray]
  rw [List.count_set hi]
  have h0 : 0 < l.count false := List.count_pos_iff.2 (hv ▸ List.getElem_mem hi)
  simp [hv]
  omega
theorem wpAny_inv {P : Program} {ops : Array Oper} {Q : Exit → Act → World → Prop} (hb : backOps ops = true) (J : (Nat → Bool) → Act → World → Prop)
    (hstep : ∀ i o, ops[i]? = some o → ∀ (b : Nat → Bool) (a : Act) (w : World), J b a w → b i = false → (∀ e ∈ o.after, Region.binds .any e = true → b e.on = true) → ∀ K : Act → World → Prop, (∀ a' w', J (upB b i) a' w' → K a' w') → if Region.wanted o (yielded ops a.tmps) = true then Oper.wp P o a w K Q else K (a.put o.dst undef) w)
    (hend : ∀ b a w, J b a w → (∀ i, i < ops.size → b i = true) → Q .normal a w) :
    ∀ (fuel : Nat) (l : Array Bool) (a : Act) (w : World), l.size = ops.size → J (fun j => l.getD j false) a w → unl l ≤ fuel → wpAny P .any ops Q fuel l a w := by
  intro fuel
  induction fuel with
  | zero =>
    intro l a w hs hJ hf
    have hr : Region.ready .any ops l = [] := by
      rw [List.eq_nil_iff_forall_not_mem]
      intro i hi
      have := unl_set (mem_ready.1 hi).1
      omega
    exact ⟨hr, hend _ _ _ hJ (all_listed hb hs hr)⟩
  | succ fuel ih =>
    intro l a w hs hJ hf
    refine ⟨fun hr => hend _ _ _ hJ (all_listed hb hs hr), fun i hi => ?_⟩
    obtain ⟨h1, o, ho, hall⟩ := mem_ready.1 hi
    have hil : i < l.size := by
      rcases Nat.lt_or_ge i l.size with h' | h'
      · exact h'
      · simp [h'] at h1
    refine wpOp_step ho (fun K' hK => ?_)
    refine hstep i o ho (fun j => l.getD j false) a w hJ (by simp [hil] at h1 ⊢; exact h1) hall K' (fun a' w' hJ' => hK a' w' (ih _ a' w' (by simpa using hs) ?_ (by have := unl_set h1; omega)))
    have he : (fun j => (l.setIfInBounds i true).getD j false) = upB (fun j => l.getD j false) i := by
      funext j
      unfold upB
      by_cases hj : j = i
      · subst hj
        simp [hil]
      · rw [if_neg hj, getD_set_ne false (Ne.symm hj)]
    rw [he]
    exact hJ'
theorem wp_region_inv {P : Program} {ops : Array Oper} {Q : Exit → Act → World → Prop} {id : Nat} {a0 : Act} {w0 : World} (hm : P.follows .mixedOrders = true) (hb : backOps ops = true) (J : (Nat → Bool) → Act → World → Prop)
    (h0 : J (fun _ => false) a0 w0.drew)
    (hstep : StepsI (fun i o => ∀ (b : Nat → Bool) (a : Act) (w : World), J b a w → b i = false → (∀ e ∈ o.after, Region.binds .any e = true → b e.on = true) → ∀ K : Act → World → Prop, (∀ a' w', J (upB b i) a' w' → K a' w') → if Region.wanted o (yielded ops a.tmps) = true then Oper.wp P o a w K Q else K (a.put o.dst undef) w) 0 ops.toList)
    (hend : ∀ b a w, J b a w → (∀ i, i < ops.size → b i = true) → Q .normal a w) : (Code.region id ops true).wp P Q a0 w0 := by
  refine wp_region_any hm (wpAny_inv hb J ?_ hend _ _ _ _ (by simp) ?_ ?_)
  · intro i o ho
    have := stepsI_get ops.toList 0 hstep i o (by simpa using ho)
    rw [Nat.zero_add] at this
    exact this
  · have he : (fun j => (Array.replicate ops.size false).getD j false) = (fun _ => false) := by
      funext j
      simp only [Array.getD_eq_getD_getElem?, Array.getElem?_replicate]
      split <;> rfl
    rw [he]
    exact h0
  · unfold unl
    simp
end Go.Proofs.Ytnholabamjodhaa

import Derived.Test.YtdcaecpcofencaaJa
import Derived.Orders
import Derived.RegionTactic
namespace Go.Proofs.Ytdcaecpcofencaa
open Go Go.RowKit Go.Instr
set_option linter.unusedVariables false
set_option linter.unusedSimpArgs false

/-! A region that draws its order, by an invariant: each operation is met once, whatever has come up before it. -/
def upB (b : Nat → Bool) (i : Nat) : Nat → Bool := fun j => if j = i then true else b j
def StepsI (X : Nat → Oper → Prop) : Nat → List Oper → Prop
  | _, [] => True
  | n, o :: os => X n o ∧ StepsI X (n + 1) os
theorem stepsI_get {X : Nat → Oper → Prop} : ∀ (os : List Oper) (n : Nat), StepsI X n os → ∀ (i : Nat) (o : Oper), os[i]? = some o → X (n + i) o
  | [], _, _, i, o, h => by simp at h
  | o' :: os, n, h, 0, o, he => by
    simp at he
    subst he
    exact h.1
  | o' :: os, n, h, i + 1, o, he => by
    have := stepsI_get os (n + 1) h.2 i o (by simpa using he)
    rw [show n + (i + 1) = n + 1 + i by omega]
    exact this
def backOps (ops : Array Oper) : Bool := (List.range ops.size).all fun i => match ops[i]? with | some o => o.after.all fun e => decide (e.on < i) | none => true
theorem all_listed {ops : Array Oper} {l : Array Bool} (hb : backOps ops = true) (hs : l.size = ops.size) (hr : Region.ready .any ops l = []) : ∀ i, i < ops.size → l.getD i false = true := by
  intro i
  induction i using Nat.strongRecOn with
  | ind i ih =>
    intro hi
    cases hl : l.getD i false with
    | true => rfl
    | false =>
      exfalso
      have hm : i ∈ Region.ready .any ops l := by
        refine mem_ready.2 ⟨?_, ops[i], by simp [hi], ?_⟩
        · have hil : i < l.size := by omega
          simp [hil] at hl ⊢
          exact hl
        · intro e he _
          have h1 := List.all_eq_true.1 hb i (List.mem_range.2 hi)
          simp only [Array.getElem?_eq_getElem hi] at h1
          have h2 : e.on < i := by
            have h3 := Array.all_eq_true_iff_forall_mem.1 h1 e he
            simpa using h3
          exact ih e.on h2 (by omega)
      rw [hr] at hm
      cases hm
def unl (l : Array Bool) : Nat := l.toList.count false
theorem unl_set {l : Array Bool} {i : Nat} (h : l.getD i true = false) : unl (l.setIfInBounds i true) + 1 = unl l := by
  unfold unl
  rcases l with ⟨l⟩
  have hi : i < l.length := by
    rcases Nat.lt_or_ge i l.length with h' | h'
    · exact h'
    · simp [h'] at h
  have hv : l[i] = false := by simpa [hi] using h
  simp only [List.setIfInBounds_toArray]
  rw [List.count_set hi]
  have h0 : 0 < l.count false := List.count_pos_iff.2 (hv ▸ List.getElem_mem hi)
  simp [hv]
  omega
theorem wpAny_inv {P : Program} {ops : Array Oper} {Q : Exit → Act → World → Prop} (hb : backOps ops = true) (J : (Nat → Bool) → Act → World → Prop)
    (hstep : ∀ i o, ops[i]? = some o → ∀ (b : Nat → Bool) (a : Act) (w : World), J b a w → b i = false → (∀ e ∈ o.after, Region.binds .any e = true → b e.on = true) → ∀ K : Act → World → Prop, (∀ a' w', J (upB b i) a' w' → K a' w') → if Region.wanted o (yielded ops a.tmps) = true then Oper.wp P o a w K Q else K (a.put o.dst undef) w)
    (hend : ∀ b a w, J b a w → (∀ i, i < ops.size → b i = true) → Q .normal a w) :
    ∀ (fuel : Nat) (l : Array Bool) (a : Act) (w : World), l.size = ops.size → J (fun j => l.getD j false) a w → unl l ≤ fuel → wpAny P .any ops Q fuel l a w := by
  intro fuel
  induction fuel with
  | zero =>
    intro l a w hs hJ hf
    have hr : Region.ready .any ops l = [] := by
      rw [List.eq_nil_iff_forall_not_mem]
      intro i hi
      have := unl_set (mem_ready.1 hi).1
      omega
    exact ⟨hr, hend _ _ _ hJ (all_listed hb hs hr)⟩
  | succ fuel ih =>
    intro l a w hs hJ hf
    refine ⟨fun hr => hend _ _ _ hJ (all_listed hb hs hr), fun i hi => ?_⟩
    obtain ⟨h1, o, ho, hall⟩ := mem_ready.1 hi
    have hil : i < l.size := by
      rcases Nat.lt_or_ge i l.size with h' | h'
      · exact h'
      · simp [h'] at h1
    refine wpOp_step ho (fun K' hK => ?_)
    refine hstep i o ho (fun j => l.getD j false) a w hJ (by simp [hil] at h1 ⊢; exact h1) hall K' (fun a' w' hJ' => hK a' w' (ih _ a' w' (by simpa using hs) ?_ (by have := unl_set h1; omega)))
    have he : (fun j => (l.setIfInBounds i true).getD j false) = upB (fun j => l.getD j false) i := by
      funext j
      unfold upB
      by_cases hj : j = i
      · subst hj
        simp [hil]
      · rw [if_neg hj, getD_set_ne false (Ne.symm hj)]
    rw [he]
    exact hJ'
theorem wp_region_inv {P : Program} {ops : Array Oper} {Q : Exit → Act → World → Prop} {id : Nat} {a0 : Act} {w0 : World} (hm : P.follows .mixedOrders = true) (hb : backOps ops = true) (J : (Nat → Bool) → Act → World → Prop)
    (h0 : J (fun _ => false) a0 w0.drew)
    (hstep : StepsI (fun i o => ∀ (b : Nat → Bool) (a : Act) (w : World), J b a w → b i = false → (∀ e ∈ o.after, Region.binds .any e = true → b e.on = true) → ∀ K : Act → World → Prop, (∀ a' w', J (upB b i) a' w' → K a' w') → if Region.wanted o (yielded ops a.tmps) = true then Oper.wp P o a w K Q else K (a.put o.dst undef) w) 0 ops.toList)
    (hend : ∀ b a w, J b a w → (∀ i, i < ops.size → b i = true) → Q .normal a w) : (Code.region id ops true).wp P Q a0 w0 := by
  refine wp_region_any hm (wpAny_inv hb J ?_ hend _ _ _ _ (by simp) ?_ ?_)
  · intro i o ho
    have := stepsI_get ops.toList 0 hstep i o (by simpa using ho)
    rw [Nat.zero_add] at this
    exact this
  · have he : (fun j => (Array.replicate ops.size false).getD j false) = (fun _ => false) := by
      funext j
      simp only [Array.getD_eq_getD_getElem?, Array.getElem?_replicate]
      split <;> rfl
    rw [he]
    exact h0
  · unfold unl
    simp
def nodupB : List Nat → Bool
  | [] => true
  | x :: xs => !xs.contains x && nodupB xs
theorem nodupB_spec : ∀ l : List Nat, nodupB l = true → l.Nodup
  | [], _ => List.nodup_nil
  | x :: xs, h => by
    unfold nodupB at h
    rw [Bool.and_eq_true] at h
    refine List.nodup_cons.2 ⟨by simpa using h.1, nodupB_spec xs h.2⟩
def dstsOf (ops : Array Oper) : List Nat := ops.toList.filterMap (·.dst)
def waitsFor (ops : Array Oper) (o : Oper) (t : Nat) : Bool := o.after.any fun e => Region.binds .any e && ((ops[e.on]?).bind (·.dst)) == some t
theorem any_edge {o : Oper} {p : Edge → Bool} {b : Nat → Bool} (h : (o.after.any fun e => Region.binds .any e && p e) = true) (haf : ∀ e ∈ o.after, Region.binds .any e = true → b e.on = true) : ∃ e : Edge, p e = true ∧ b e.on = true := by
  rw [Array.any_eq_true] at h
  obtain ⟨x, hx, hh⟩ := h
  rw [Bool.and_eq_true] at hh
  exact ⟨_, hh.2, haf o.after[x] (Array.getElem_mem hx) hh.1⟩
def upV (V : Nat → Value) (i : Nat) (v : Value) : Nat → Value := fun j => if j = i then v else V j
theorem upV_ne (V : Nat → Value) {i j : Nat} (v : Value) (h : j ≠ i) : upV V i v j = V j := if_neg h
theorem upV_eq (V : Nat → Value) (i : Nat) (v : Value) : upV V i v i = v := if_pos rfl
def putV (a0 : Act) : List Nat → (Nat → Value) → Act
  | [], _ => a0
  | t :: ts, V => (putV a0 ts V).put (some t) (V t)
theorem act_put_put (a : Act) (t : Nat) (u v : Value) : (a.put (some t) u).put (some t) v = a.put (some t) v := by
  simp [Act.put]
theorem act_put_swap (a : Act) {s t : Nat} (u v : Value) (h : s ≠ t) : (a.put (some s) u).put (some t) v = (a.put (some t) v).put (some s) u := by
  simp only [Act.put]
  rw [Array.setIfInBounds_comm _ _ h]
theorem putV_far (a0 : Act) (V : Nat → Value) (t : Nat) (v : Value) : ∀ ts : List Nat, t ∉ ts → putV a0 ts (upV V t v) = putV a0 ts V
  | [], _ => rfl
  | s :: ts, h => by
    have h1 : s ≠ t := fun e => h (e ▸ List.mem_cons_self ..)
    have h2 : t ∉ ts := fun e => h (List.mem_cons_of_mem _ e)
    unfold putV
    rw [putV_far a0 V t v ts h2, upV_ne V v h1]
theorem putV_put (a0 : Act) (V : Nat → Value) (t : Nat) (v : Value) : ∀ ts : List Nat, ts.Nodup → t ∈ ts → (putV a0 ts V).put (some t) v = putV a0 ts (upV V t v)
  | [], _, h => by cases h
  | s :: ts, hn, h => by
    rw [List.nodup_cons] at hn
    unfold putV
    by_cases e : s = t
    · subst e
      rw [act_put_put, putV_far a0 V s v ts hn.1, upV_eq]
    · rw [act_put_swap _ _ _ e, putV_put a0 V t v ts hn.2 ((List.mem_cons.1 h).resolve_left (fun x => e x.symm)), upV_ne V v e]
theorem putV_none (a0 : Act) (V : Nat → Value) (ts : List Nat) (v : Value) : (putV a0 ts V).put none v = putV a0 ts V := rfl
theorem putV_size (a0 : Act) (V : Nat → Value) : ∀ ts : List Nat, (putV a0 ts V).tmps.size = a0.tmps.size
  | [] => rfl
  | s :: ts => by unfold putV; simp [Act.put, putV_size a0 V ts]
theorem putV_self (a0 : Act) : ∀ ts : List Nat, putV a0 ts (fun t => a0.tmps.getD t undef) = a0
  | [] => rfl
  | s :: ts => by
    unfold putV
    rw [putV_self a0 ts]
    rcases a0 with ⟨tm, df⟩
    simp only [Act.put, Act.mk.injEq, and_true]
    apply Array.ext
    · simp
    · intro i h1 h2
      rw [Array.getElem_setIfInBounds]
      split
      · rename_i e
        subst e
        simp at h1
        simp [h1]
      · rfl
theorem putV_in (a0 : Act) (V : Nat → Value) (t : Nat) (hs : t < a0.tmps.size) : ∀ ts : List Nat, t ∈ ts → (putV a0 ts V).eval (.tmp t) = V t
  | [], h => by cases h
  | s :: ts, h => by
    unfold putV
    by_cases e : s = t
    · subst e
      have := putV_size a0 V ts
      simp [Act.put, Act.eval, Array.getD_eq_getD_getElem?, this, hs]
    · have ih := putV_in a0 V t hs ts ((List.mem_cons.1 h).resolve_left (fun x => e x.symm))
      simp only [Act.put, Act.eval, Array.getD_eq_getD_getElem?] at ih ⊢
      rw [Array.getElem?_setIfInBounds_ne e]
      exact ih
theorem putV_out (a0 : Act) (V : Nat → Value) (t : Nat) : ∀ ts : List Nat, t ∉ ts → (putV a0 ts V).eval (.tmp t) = a0.eval (.tmp t)
  | [], h => rfl
  | s :: ts, h => by
    unfold putV
    have e : s ≠ t := fun e => h (e ▸ List.mem_cons_self ..)
    have ih := putV_out a0 V t ts (fun e => h (List.mem_cons_of_mem _ e))
    simp only [Act.put, Act.eval, Array.getD_eq_getD_getElem?] at ih ⊢
    rw [Array.getElem?_setIfInBounds_ne e]
    exact ih


/-! A region that draws its order, whose operations yield values that are in given relations to the world. -/
theorem putV_get_in (a0 : Act) (V : Nat → Value) (t : Nat) (hs : t < a0.tmps.size) : ∀ ts : List Nat, t ∈ ts → (putV a0 ts V).tmps[t]? = some (V t)
  | [], h => by cases h
  | s :: ts, h => by
    unfold putV
    by_cases e : s = t
    · subst e
      have := putV_size a0 V ts
      simp [Act.put, this, hs]
    · have ih := putV_get_in a0 V t hs ts ((List.mem_cons.1 h).resolve_left (fun x => e x.symm))
      simp only [Act.put]
      rw [Array.getElem?_setIfInBounds_ne e]
      exact ih
theorem putV_get_out (a0 : Act) (V : Nat → Value) (t : Nat) : ∀ ts : List Nat, t ∉ ts → (putV a0 ts V).tmps[t]? = a0.tmps[t]?
  | [], h => rfl
  | s :: ts, h => by
    unfold putV
    have e : s ≠ t := fun e => h (e ▸ List.mem_cons_self ..)
    have ih := putV_get_out a0 V t ts (fun e => h (List.mem_cons_of_mem _ e))
    simp only [Act.put]
    rw [Array.getElem?_setIfInBounds_ne e]
    exact ih
def YieldR (P : Program) (S : World → Prop) (R : Value → World → Prop) (w : World) : Result Next → Prop
  | .ok (.value u) w' => S w' ∧ Below w.heap.size w w' ∧ R u w'
  | .ok (.enter f args) w' => Calls P f args w' fun e w'' => ∃ u, e = .returned u ∧ S w'' ∧ Below w.heap.size w w'' ∧ R u w''
  | _ => False
theorem yieldR_value {P : Program} {S : World → Prop} {R : Value → World → Prop} {w : World} {u : Value} (hs : S w) (h : R u w) : YieldR P S R w (.ok (.value u) w) := ⟨hs, Below.refl _ _, h⟩
theorem yieldR_enter {P : Program} {S : World → Prop} {R : Value → World → Prop} {w : World} {f : FuncId} {args : Array Value} (h : Calls P f args w fun e w'' => ∃ u, e = .returned u ∧ S w'' ∧ Below w.heap.size w w'' ∧ R u w'') : YieldR P S R w (.ok (.enter f args) w) := h
def RelStep (P : Program) (ops : Array Oper) (a0 : Act) (ts : List Nat) (S : World → Prop) (R : Nat → Value → World → Prop) (o : Oper) : Prop :=
  ∀ V w, S w → (∀ t, waitsFor ops o t = true → R t (V t) w) → Region.wanted o (yielded ops (putV a0 ts V).tmps) = true ∧ ∃ t, o.dst = some t ∧ t ∈ ts ∧ YieldR P S (R t) w ((execOp (putV a0 ts V).eval o).run P w)
def RelSteps (P : Program) (ops : Array Oper) (a0 : Act) (ts : List Nat) (S : World → Prop) (R : Nat → Value → World → Prop) : List Oper → Prop
  | [] => True
  | o :: os => RelStep P ops a0 ts S R o ∧ RelSteps P ops a0 ts S R os
theorem relSteps_get {P : Program} {ops : Array Oper} {a0 : Act} {ts : List Nat} {S : World → Prop} {R : Nat → Value → World → Prop} : ∀ (os : List Oper), RelSteps P ops a0 ts S R os → ∀ o ∈ os, RelStep P ops a0 ts S R o
  | [], _, o, h => by cases h
  | o' :: os, hs, o, h => by
    rcases List.mem_cons.1 h with e | e
    · subst e; exact hs.1
    · exact relSteps_get os hs.2 o e
theorem upon_rel {P : Program} {o : Oper} {a : Act} {S : World → Prop} {R : Value → World → Prop} {w : World} {K : Act → World → Prop} {Q : Exit → Act → World → Prop} (hK : ∀ u w', S w' → Below w.heap.size w w' → R u w' → K (a.put o.dst u) w') :
    ∀ r : Result Next, YieldR P S R w r → o.upon P a K Q r := by
  intro r h
  cases r with
  | ok x w' =>
    cases x with
    | value u => exact hK u w' h.1 h.2.1 h.2.2
    | enter f args =>
      refine Calls.mono (R := _) h ?_
      rintro e w'' ⟨u, rfl, h1, h2, h3⟩
      exact hK u w'' h1 h2 h3
    | _ => exact (h : False).elim
  | halt x w' => exact (h : False).elim
theorem wp_region_rel {P : Program} {ops : Array Oper} {Q : Exit → Act → World → Prop} {id : Nat} {a0 : Act} {w1 : World} (hm : P.follows .mixedOrders = true) (ts : List Nat) (hts : dstsOf ops = ts) (hok : (nodupB ts && backOps ops) = true) (S : World → Prop) (R : Nat → Value → World → Prop)
    (mono : ∀ t v w w', R t v w → Below w.heap.size w w' → R t v w') (h0 : S w1.drew) (hstep : RelSteps P ops a0 ts S R ops.toList)
    (hend : ∀ V w, S w → (∀ t, t ∈ ts → R t (V t) w) → Q .normal (putV a0 ts V) w) : (Code.region id ops true).wp P Q a0 w1 := by
  rw [Bool.and_eq_true] at hok
  have hnd : ts.Nodup := nodupB_spec _ hok.1
  refine wp_region_any hm (wpAny_inv hok.2 (fun b a w => ∃ V, a = putV a0 ts V ∧ S w ∧ ∀ (i : Nat) (o : Oper) (t : Nat), ops[i]? = some o → o.dst = some t → b i = true → R t (V t) w) ?_ ?_ _ _ _ _ (by simp) ?_ ?_)
  · rintro i o ho b a w ⟨V, rfl, hS, hJ⟩ hbi haf K hK
    have hmem : o ∈ ops.toList := by rw [List.mem_iff_getElem?]; exact ⟨i, by simpa using ho⟩
    obtain ⟨hw, t, hd, htm, hy⟩ := relSteps_get _ hstep o hmem V w hS (fun t ht => by
      obtain ⟨e, he, hb⟩ := any_edge (p := fun e => ((ops[e.on]?).bind (·.dst)) == some t) ht haf
      have he' := beq_iff_eq.1 he
      cases hoe : ops[e.on]? with
      | none => rw [hoe] at he'; cases he'
      | some oe =>
        rw [hoe] at he'
        exact hJ e.on oe t hoe he' hb)
    rw [if_pos hw]
    unfold Oper.wp
    refine upon_rel (fun u w' hs hb hr => hK _ _ ⟨upV V t u, ?_, hs, fun i' o' t' hi' hd' hb' => ?_⟩) _ hy
    · rw [hd]; exact putV_put a0 V t u ts hnd htm
    · by_cases e : t' = t
      · subst e; rw [upV_eq]; exact hr
      · rw [upV_ne _ _ e]
        by_cases e2 : i' = i
        · subst e2
          have : o' = o := Option.some.inj (hi'.symm.trans ho)
          subst this
          exact absurd (Option.some.inj (hd'.symm.trans hd)) e
        · rw [show upB b i i' = b i' from if_neg e2] at hb'
          exact mono _ _ _ _ (hJ i' o' t' hi' hd' hb') hb
  · rintro b a w ⟨V, rfl, hS, hJ⟩ hall
    refine hend V w hS (fun t ht => ?_)
    rw [← hts] at ht
    obtain ⟨o, ho, hd⟩ := List.mem_filterMap.1 ht
    obtain ⟨i, hi⟩ := List.mem_iff_getElem?.1 ho
    have hi' : ops[i]? = some o := by simpa using hi
    exact hJ i o t hi' hd (hall i (Array.getElem?_eq_some_iff.1 hi').1)
  · exact ⟨_, (putV_self a0 ts).symm, h0, fun i o t _ _ h => by
      simp only [Array.getD_eq_getD_getElem?, Array.getElem?_replicate] at h
      split at h <;> simp at h⟩
  · unfold unl
    simp
/-- One operation, on a frame of which only the slots that it reads are known. -/
def guardIn (ops : Array Oper) (ts : List Nat) (o : Oper) (t : Nat) (pol : Bool) : Bool := match o.guard with
  | none => true
  | some (j, p) => (p == pol) && (((ops[j]?).bind (·.dst)) == some t) && ts.contains t && waitsFor ops o t
theorem rel_run {P : Program} {ops : Array Oper} {a0 : Act} {ts : List Nat} {S : World → Prop} {R : Nat → Value → World → Prop} {o : Oper} (t : Nat) (ins outs : List Nat) (gt : Nat) (pol : Bool) (n : Nat) (hn : a0.tmps.size = n)
    (hok : (o.dst == some t && ts.contains t && ins.all (fun r => ts.contains r && waitsFor ops o r && decide (r < n)) && outs.all (fun r => !ts.contains r) && guardIn ops ts o gt pol && decide (gt < n)) = true)
    (hg : o.guard = none ∨ ∀ v w, R gt v w → v = .bool pol)
    (h : ∀ (a : Act) (w : World), S w → (∀ r, ins.contains r = true → ∃ v, a.tmps[r]? = some v ∧ R r v w) → (∀ r, outs.contains r = true → a.tmps[r]? = a0.tmps[r]?) → YieldR P S (R t) w ((execOp a.eval o).run P w)) : RelStep P ops a0 ts S R o := by
  intro V w hS hd
  simp only [Bool.and_eq_true] at hok
  obtain ⟨⟨⟨⟨⟨k1, k2⟩, k3⟩, k4⟩, k5⟩, k6⟩ := hok
  refine ⟨?_, t, beq_iff_eq.1 k1, by simpa using k2, h _ w hS (fun r hr => ?_) (fun r hr => ?_)⟩
  · unfold Region.wanted
    unfold guardIn at k5
    cases hgd : o.guard with
    | none => rfl
    | some g =>
      obtain ⟨j, p⟩ := g
      rw [hgd] at k5
      simp only [Bool.and_eq_true] at k5
      obtain ⟨⟨⟨q1, q2⟩, q3⟩, q4⟩ := k5
      have e := (hg.resolve_left (by rw [hgd]; simp)) _ w (hd gt q4)
      have hget := putV_get_in a0 V gt (by rw [hn]; simpa using k6) ts (by simpa using q3)
      have : yielded ops (putV a0 ts V).tmps j = some pol := by
        unfold yielded
        rw [beq_iff_eq.1 q2]
        simp [hget, e]
      simp only [this]
      have := beq_iff_eq.1 q1
      subst this
      simp
  · have := List.all_eq_true.1 k3 r (by simpa using hr)
    simp only [Bool.and_eq_true] at this
    exact ⟨V r, putV_get_in a0 V r (by rw [hn]; simpa using this.2) ts (by simpa using this.1.1), hd r this.1.2⟩
  · have := List.all_eq_true.1 k4 r (by simpa using hr)
    exact putV_get_out a0 V r ts (by simpa using this)
/-- What is known of a slot: its value, or that it holds gaps. -/
inductive Spc where
  | val (c : Value)
  | gr (n m : Nat) (Z : Nat → Nat → Int)
def SpR : Spc → Value → World → Prop
  | .val c, v, _ => v = c
  | .gr n m Z, v, w => ∃ (b c : Nat) (R C : Nat → Nat) (lo : Nat), v = .slice (some ⟨b, 0, none⟩) n c ∧ Gr w lo b n m R C Z
def RT (l : List (Nat × Spc)) (t : Nat) (v : Value) (w : World) : Prop := match l.lookup t with
  | some s => SpR s v w
  | none => True
theorem rt_mono (l : List (Nat × Spc)) {t : Nat} {v : Value} {w w' : World} (h : RT l t v w) (hb : Below w.heap.size w w') : RT l t v w' := by
  unfold RT at h ⊢
  cases hl : l.lookup t with
  | none => trivial
  | some s =>
    rw [hl] at h
    cases s with
    | val c => exact h
    | gr n m Z =>
      obtain ⟨b, c, R, C, lo, h1, h2⟩ := h
      exact ⟨b, c, R, C, lo, h1, h2.belowA hb⟩
end Go.Proofs.Ytdcaecpcofencaa

import Derived.Test.YtdopjadlbhacfaaAa
import Derived.Orders
import Derived.RegionTactic
namespace Go.Proofs.Ytdopjadlbhacfaa
section
open Go Go.RowKit Go.Instr
set_option linter.unusedVariables false
set_option linter.unusedSimpArgs false

/-! A region that draws its order, by an invariant: each operation is met once, whatever has come up before it. -/
def upB (b : Nat → Bool) (i : Nat) : Nat → Bool := fun j => if j = i then true else b j
def StepsI (X : Nat → Oper → Prop) : Nat → List Oper → Prop
  | _, [] => True
  | n, o :: os => X n o ∧ StepsI X (n + 1) os
theorem stepsI_get {X : Nat → Oper → Prop} : ∀ (os : List Oper) (n : Nat), StepsI X n os → ∀ (i : Nat) (o : Oper), os[i]? = some o → X (n + i) o
  | [], _, _, i, o, h => by simp at h
  | o' :: os, n, h, 0, o, he => by
    simp at he
    subst he
    exact h.1
  | o' :: os, n, h, i + 1, o, he => by
    have := stepsI_get os (n + 1) h.2 i o (by simpa using he)
    rw [show n + (i + 1) = n + 1 + i by omega]
    exact this
def backOps (ops : Array Oper) : Bool := (List.range ops.size).all fun i => match ops[i]? with | some o => o.after.all fun e => decide (e.on < i) | none => true
theorem all_listed {ops : Array Oper} {l : Array Bool} (hb : backOps ops = true) (hs : l.size = ops.size) (hr : Region.ready .any ops l = []) : ∀ i, i < ops.size → l.getD i false = true := by
  intro i
  induction i using Nat.strongRecOn with
  | ind i ih =>
    intro hi
    cases hl : l.getD i false with
    | true => rfl
    | false =>
      exfalso
      have hm : i ∈ Region.ready .any ops l := by
        refine mem_ready.2 ⟨?_, ops[i], by simp [hi], ?_⟩
        · have hil : i < l.size := by omega
          simp [hil] at hl ⊢
          exact hl
        · intro e he _
          have h1 := List.all_eq_true.1 hb i (List.mem_range.2 hi)
          simp only [Array.getElem?_eq_getElem hi] at h1
          have h2 : e.on < i := by
            have h3 := Array.all_eq_true_iff_forall_mem.1 h1 e he
            simpa using h3
          exact ih e.on h2 (by omega)
      rw [hr] at hm
      cases hm
def unl (l : Array Bool) : Nat := l.toList.count false
theorem unl_set {l : Array Bool} {i : Nat} (h : l.getD i true = false) : unl (l.setIfInBounds i true) + 1 = unl l := by
  unfold unl
  rcases l with ⟨l⟩
  have hi : i < l.length := by
    rcases Nat.lt_or_ge i l.length with h' | h'
    · exact h'
    · simp [h'] at h
  have hv : l[i] = false := by simpa [hi] using h
  simp only [List.setIfInBounds_toArray]
  rw [List.count_set hi]
  have h0 : 0 < l.count false := List.count_pos_iff.2 (hv ▸ List.getElem_mem hi)
  simp [hv]
  omega
theorem wpAny_inv {P : Program} {ops : Array Oper} {Q : Exit → Act → World → Prop} (hb : backOps ops = true) (J : (Nat → Bool) → Act → World → Prop)
    (hstep : ∀ i o, ops[i]? = some o → ∀ (b : Nat → Bool) (a : Act) (w : World), J b a w → b i = false → (∀ e ∈ o.after, Region.binds .any e = true → b e.on = true) → ∀ K : Act → World → Prop, (∀ a' w', J (upB b i) a' w' → K a' w') → if Region.wanted o (yielded ops a.tmps) = true then Oper.wp P o a w K Q else K (a.put o.dst undef) w)
    (hend : ∀ b a w, J b a w → (∀ i, i < ops.size → b i = true) → Q .normal a w) :
    ∀ (fuel : Nat) (l : Array Bool) (a : Act) (w : World), l.size = ops.size → J (fun j => l.getD j false) a w → unl l ≤ fuel → wpAny P .any ops Q fuel l a w := by
  intro fuel
  induction fuel with
  | zero =>
    intro l a w hs hJ hf
    have hr : Region.ready .any ops l = [] := by
      rw [List.eq_nil_iff_forall_not_mem]
      intro i hi
      have := unl_set (mem_ready.1 hi).1
      omega
    exact ⟨hr, hend _ _ _ hJ (all_listed hb hs hr)⟩
  | succ fuel ih =>
    intro l a w hs hJ hf
    refine ⟨fun hr => hend _ _ _ hJ (all_listed hb hs hr), fun i hi => ?_⟩
    obtain ⟨h1, o, ho, hall⟩ := mem_ready.1 hi
    have hil : i < l.size := by
      rcases Nat.lt_or_ge i l.size with h' | h'
      · exact h'
      · simp [h'] at h1
    refine wpOp_step ho (fun K' hK => ?_)
    refine hstep i o ho (fun j => l.getD j false) a w hJ (by simp [hil] at h1 ⊢; exact h1) hall K' (fun a' w' hJ' => hK a' w' (ih _ a' w' (by simpa using hs) ?_ (by have := unl_set h1; omega)))
    have he : (fun j => (l.setIfInBounds i true).getD j false) = upB (fun j => l.getD j false) i := by
      funext j
      unfold upB
      by_cases hj : j = i
      · subst hj
        simp [hil]
      · rw [if_neg hj, getD_set_ne false (Ne.symm hj)]
    rw [he]
    exact hJ'
theorem wp_region_inv {P : Program} {ops : Array Oper} {Q : Exit → Act → World → Prop} {id : Nat} {a0 : Act} {w0 : World} (hm : P.follows .mixedOrders = true) (hb : backOps ops = true) (J : (Nat → Bool) → Act → World → Prop)
    (h0 : J (fun _ => false) a0 w0.drew)
    (hstep : StepsI (fun i o => ∀ (b : Nat → Bool) (a : Act) (w : World), J b a w → b i = false → (∀ e ∈ o.after, Region.binds .any e = true → b e.on = true) → ∀ K : Act → World → Prop, (∀ a' w', J (upB b i) a' w' → K a' w') → if Region.wanted o (yielded ops a.tmps) = true then Oper.wp P o a w K Q else K (a.put o.dst undef) w) 0 ops.toList)
    (hend : ∀ b a w, J b a w → (∀ i, i < ops.size → b i = true) → Q .normal a w) : (Code.region id ops true).wp P Q a0 w0 := by
  refine wp_region_any hm (wpAny_inv hb J ?_ hend _ _ _ _ (by simp) ?_ ?_)
  · intro i o ho
    have := stepsI_get ops.toList 0 hstep i o (by simpa using ho)
    rw [Nat.zero_add] at this
    exact this
  · have he : (fun j => (Array.replicate ops.size false).getD j false) = (fun _ => false) := by
      funext j
      simp only [Array.getD_eq_getD_getElem?, Array.getElem?_replicate]
      split <;> rfl
    rw [he]
    exact h0
  · unfold unl
    simp
end

section
open Go Go.RowKit Go.Instr
set_option linter.unusedVariables false
set_option linter.unusedSimpArgs false

/-! A region that draws its order and whose operations yield the same values in any order: it is walked once, in the order of the text, on the frame as it is at the end. -/
def putAll (a : Act) : List Oper → List Value → Act
  | o :: os, v :: vs => putAll (a.put o.dst v) os vs
  | _, _ => a
theorem put_size (a : Act) (d : Option Tmp) (v : Value) : (a.put d v).tmps.size = a.tmps.size := by
  cases d <;> simp [Act.put]
theorem put_defers (a : Act) (d : Option Tmp) (v : Value) : (a.put d v).defers = a.defers := by
  cases d <;> rfl
theorem put_other (a : Act) (d : Option Tmp) (v : Value) (t : Nat) (h : d ≠ some t) : (a.put d v).tmps[t]? = a.tmps[t]? := by
  cases d with
  | none => rfl
  | some s =>
    simp only [Act.put]
    exact Array.getElem?_setIfInBounds_ne (fun e => h (by rw [e]))
theorem put_same (a : Act) (t : Nat) (v : Value) : (a.put (some t) v).tmps[t]? = if t < a.tmps.size then some v else none := by
  simp only [Act.put, Array.getElem?_setIfInBounds, if_true]
theorem putAll_size : ∀ (os : List Oper) (vs : List Value) (a : Act), (putAll a os vs).tmps.size = a.tmps.size
  | [], _, a => by unfold putAll; rfl
  | o :: os, [], a => by unfold putAll; rfl
  | o :: os, v :: vs, a => by unfold putAll; rw [putAll_size os vs, put_size]
theorem putAll_defers : ∀ (os : List Oper) (vs : List Value) (a : Act), (putAll a os vs).defers = a.defers
  | [], _, a => by unfold putAll; rfl
  | o :: os, [], a => by unfold putAll; rfl
  | o :: os, v :: vs, a => by unfold putAll; rw [putAll_defers os vs, put_defers]
theorem putAll_off : ∀ (os : List Oper) (vs : List Value) (a : Act) (t : Nat), (∀ o ∈ os, o.dst ≠ some t) → (putAll a os vs).tmps[t]? = a.tmps[t]?
  | [], _, a, t, _ => by unfold putAll; rfl
  | o :: os, [], a, t, _ => by unfold putAll; rfl
  | o :: os, v :: vs, a, t, h => by
    unfold putAll
    rw [putAll_off os vs _ t (fun o' ho => h o' (List.mem_cons_of_mem _ ho)), put_other _ _ _ _ (h o (List.mem_cons_self ..))]
theorem putAll_on : ∀ (os : List Oper) (vs : List Value) (a : Act) (i : Nat) (o : Oper) (t : Nat) (v : Value), os[i]? = some o → o.dst = some t → vs[i]? = some v → (os.filterMap (·.dst)).Nodup →
    (putAll a os vs).tmps[t]? = if t < a.tmps.size then some v else none
  | [], _, a, i, o, t, v, h, _, _, _ => by simp at h
  | o' :: os, [], a, i, o, t, v, _, _, h, _ => by simp at h
  | o' :: os, v' :: vs, a, 0, o, t, v, h, hd, hv, hn => by
    simp at h hv
    subst h hv
    unfold putAll
    rw [putAll_off os vs _ t ?_, hd, put_same]
    intro o2 ho2 e
    rw [List.filterMap_cons_some hd, List.nodup_cons] at hn
    exact hn.1 (List.mem_filterMap.2 ⟨o2, ho2, e⟩)
  | o' :: os, v' :: vs, a, i + 1, o, t, v, h, hd, hv, hn => by
    unfold putAll
    have hn' : (os.filterMap (·.dst)).Nodup := by
      cases h' : o'.dst with
      | none => rw [List.filterMap_cons_none h'] at hn; exact hn
      | some d => rw [List.filterMap_cons_some h', List.nodup_cons] at hn; exact hn.2
    rw [putAll_on os vs _ i o t v (by simpa using h) hd (by simpa using hv) hn', put_size]

def nodupB : List Nat → Bool
  | [] => true
  | x :: xs => !xs.contains x && nodupB xs
theorem nodupB_spec : ∀ l : List Nat, nodupB l = true → l.Nodup
  | [], _ => List.nodup_nil
  | x :: xs, h => by
    unfold nodupB at h
    rw [Bool.and_eq_true] at h
    refine List.nodup_cons.2 ⟨by simpa using h.1, nodupB_spec xs h.2⟩
def dstsOf (ops : Array Oper) : List Nat := ops.toList.filterMap (·.dst)
def waitsFor (ops : Array Oper) (o : Oper) (t : Nat) : Bool := o.after.any fun e => Region.binds .any e && ((ops[e.on]?).bind (·.dst)) == some t
def readOk (ops : Array Oper) (o : Oper) : Operand → Bool
  | .tmp t => !(dstsOf ops).contains t || waitsFor ops o t
  | _ => true
def guardOk (o : Oper) : Bool := match o.guard with | none => true | some (j, _) => o.after.any fun e => Region.binds .any e && e.on == j
def isSelect : Op → Bool
  | .select _ _ => true
  | _ => false
def detOk (ops : Array Oper) (size : Nat) : Bool := nodupB (dstsOf ops) && backOps ops && (dstsOf ops).all (fun t => decide (t < size)) && ops.toList.all fun o => o.op.operands.all (readOk ops o) && guardOk o && !isSelect o.op

/-- What one operation does on the frame as it is at the end. -/
def DetStep (P : Program) (ops : Array Oper) (AF : Act) (S : World → Prop) (o : Oper) (v : Value) : Prop :=
  (Region.wanted o (yielded ops AF.tmps) = false ∧ v = undef) ∨
  (Region.wanted o (yielded ops AF.tmps) = true ∧ ∀ w, S w → Oper.wp P o AF w (fun a' w' => a' = AF.put o.dst v ∧ S w') (fun _ _ _ => False))
def DetSteps (P : Program) (ops : Array Oper) (AF : Act) (S : World → Prop) : List Oper → List Value → Prop
  | o :: os, v :: vs => DetStep P ops AF S o v ∧ DetSteps P ops AF S os vs
  | [], [] => True
  | _, _ => False
theorem detSteps_get {P : Program} {ops : Array Oper} {AF : Act} {S : World → Prop} : ∀ (os : List Oper) (vs : List Value), DetSteps P ops AF S os vs → ∀ (i : Nat) (o : Oper), os[i]? = some o → ∃ v, vs[i]? = some v ∧ DetStep P ops AF S o v
  | [], [], _, i, o, h => by simp at h
  | [], v :: vs, h, _, _, _ => by cases h
  | o :: os, [], h, _, _, _ => by cases h
  | o' :: os, v :: vs, h, 0, o, ho => by
    simp at ho
    subst ho
    exact ⟨v, rfl, h.1⟩
  | o' :: os, v :: vs, h, i + 1, o, ho => by
    obtain ⟨v', h1, h2⟩ := detSteps_get os vs h.2 i o (by simpa using ho)
    exact ⟨v', by simpa using h1, h2⟩
theorem any_edge {o : Oper} {p : Edge → Bool} {b : Nat → Bool} (h : (o.after.any fun e => Region.binds .any e && p e) = true) (haf : ∀ e ∈ o.after, Region.binds .any e = true → b e.on = true) : ∃ e : Edge, p e = true ∧ b e.on = true := by
  rw [Array.any_eq_true] at h
  obtain ⟨x, hx, hh⟩ := h
  rw [Bool.and_eq_true] at hh
  exact ⟨_, hh.2, haf o.after[x] (Array.getElem_mem hx) hh.1⟩
theorem upon_det {P : Program} {o : Oper} {AF a : Act} {v : Value} {S : World → Prop} {K : Act → World → Prop} {Q : Exit → Act → World → Prop} (hz : ∀ t, o.dst = some t → t < AF.tmps.size) (hK : ∀ w', S w' → K (a.put o.dst v) w') :
    ∀ r : Result Next, o.upon P AF (fun a' w' => a' = AF.put o.dst v ∧ S w') (fun _ _ _ => False) r → o.upon P a K Q r := by
  have key : ∀ u w', AF.put o.dst u = AF.put o.dst v → S w' → K (a.put o.dst u) w' := by
    intro u w' he hs
    cases hd : o.dst with
    | none =>
      have := hK w' hs
      rw [hd] at this
      exact this
    | some t =>
      rw [hd] at he
      have h1 := put_same AF t u
      rw [he, put_same AF t v, if_pos (hz t hd), if_pos (hz t hd)] at h1
      have h2 : u = v := (Option.some.inj h1).symm
      rw [h2, ← hd]
      exact hK w' hs
  intro r h
  cases r with
  | ok x w' =>
    cases x with
    | value u => exact key u w' h.1 h.2
    | skip => exact key undef w' h.1 h.2
    | defer d =>
      exfalso
      have h1 : (Act.put { AF with defers := d :: AF.defers } o.dst undef).defers = (AF.put o.dst v).defers := congrArg Act.defers h.1
      rw [put_defers, put_defers] at h1
      have h2 := congrArg List.length h1
      simp at h2
    | enter f args =>
      refine Calls.mono (R := _) h ?_
      intro e w'' he
      cases e with
      | returned u => exact key u w'' he.1 he.2
      | panicked c => exact he.elim
      | outgrown =>
        obtain ⟨_, _, h⟩ := (he : LetsOut _)
        exact h.elim
    | row r args => exact Rows.mono (R := _) h (fun u w'' he => key u w'' he.1 he.2)
    | _ => exact (h : False).elim
  | halt x w' =>
    cases x <;> first | exact (h : False).elim
theorem wp_region_det {P : Program} {ops : Array Oper} {Q : Exit → Act → World → Prop} {id : Nat} {a0 : Act} {w1 : World} (hm : P.follows .mixedOrders = true) (vs : List Value) (S : World → Prop) (hok : detOk ops a0.tmps.size = true) (hS : S w1.drew)
    (hstep : DetSteps P ops (putAll a0 ops.toList vs) S ops.toList vs)
    (hend : ∀ w, S w → Q .normal (putAll a0 ops.toList vs) w) :
    (Code.region id ops true).wp P Q a0 w1 := by
  unfold detOk at hok
  simp only [Bool.and_eq_true] at hok
  obtain ⟨⟨⟨h1, h2⟩, h3⟩, h4⟩ := hok
  have hnd : (ops.toList.filterMap (·.dst)).Nodup := nodupB_spec _ h1
  generalize hAF : putAll a0 ops.toList vs = AF at *
  have hAs : AF.tmps.size = a0.tmps.size := by rw [← hAF, putAll_size]
  have hAd : AF.defers = a0.defers := by rw [← hAF, putAll_defers]
  have hoff : ∀ t, (∀ (i : Nat) (o : Oper), ops[i]? = some o → o.dst ≠ some t) → AF.tmps[t]? = a0.tmps[t]? := by
    intro t h
    rw [← hAF]
    refine putAll_off _ _ _ _ (fun o ho => ?_)
    obtain ⟨i, hi⟩ := List.mem_iff_getElem?.1 ho
    exact h i o (by simpa using hi)
  have hdst : ∀ (i : Nat) (o : Oper) (t : Nat), ops[i]? = some o → o.dst = some t → t ∈ dstsOf ops := by
    intro i o t hi hd
    exact List.mem_filterMap.2 ⟨o, by rw [List.mem_iff_getElem?]; exact ⟨i, by simpa using hi⟩, hd⟩
  have hlt : ∀ (i : Nat) (o : Oper) (t : Nat), ops[i]? = some o → o.dst = some t → t < AF.tmps.size := by
    intro i o t hi hd
    have := List.all_eq_true.1 h3 t (hdst i o t hi hd)
    rw [hAs]
    simpa using this
  refine wp_region_any hm (wpAny_inv h2 (fun b a w => S w ∧ a.defers = a0.defers ∧ a.tmps.size = a0.tmps.size ∧ (∀ (i : Nat) (o : Oper) (t : Nat), ops[i]? = some o → o.dst = some t → b i = true → a.tmps[t]? = AF.tmps[t]?) ∧ (∀ t, (∀ (i : Nat) (o : Oper), ops[i]? = some o → o.dst ≠ some t) → a.tmps[t]? = a0.tmps[t]?)) ?_ ?_ _ _ _ _ (by simp) ?_ ?_)
  · intro i o ho b a w ⟨J1, J2, J3, J4, J5⟩ hbi haf K hK
    obtain ⟨v, hv, hd⟩ := detSteps_get _ _ hstep i o (by simpa using ho)
    have hmem : o ∈ ops.toList := by rw [List.mem_iff_getElem?]; exact ⟨i, by simpa using ho⟩
    have hall := List.all_eq_true.1 h4 o hmem
    simp only [Bool.and_eq_true] at hall
    obtain ⟨⟨hr, hg⟩, hsel⟩ := hall
    have hAFi : ∀ t, o.dst = some t → AF.tmps[t]? = some v := by
      intro t ht
      have h5 := putAll_on ops.toList vs a0 i o t v (by simpa using ho) ht hv hnd
      rw [hAF, if_pos (by rw [← hAs]; exact hlt i o t ho ht)] at h5
      exact h5
    have hrd : ∀ t, readOk ops o (.tmp t) = true → a.tmps[t]? = AF.tmps[t]? := by
      intro t ht
      by_cases hin : t ∈ dstsOf ops
      · unfold readOk at ht
        have hw : waitsFor ops o t = true := by
          rw [Bool.or_eq_true] at ht
          rcases ht with h | h
          · simp [hin] at h
          · exact h
        obtain ⟨e, he, hb⟩ := any_edge (p := fun e => ((ops[e.on]?).bind (·.dst)) == some t) hw haf
        have he' := beq_iff_eq.1 he
        cases hoe : ops[e.on]? with
        | none => rw [hoe] at he'; cases he'
        | some oe =>
          rw [hoe] at he'
          exact J4 e.on oe t hoe he' hb
      · have hno : ∀ (i : Nat) (o : Oper), ops[i]? = some o → o.dst ≠ some t := fun i' o' hi' hd' => hin (hdst i' o' t hi' hd')
        rw [J5 t hno, hoff t hno]
    have hev : execOp a.eval o = execOp AF.eval o := by
      refine execOp_congr o ?_ ?_
      · intro cs b' he
        rw [he] at hsel
        simp [isSelect] at hsel
      · intro x hx
        have h6 := Array.all_eq_true_iff_forall_mem.1 hr x hx
        cases x with
        | tmp t =>
          have := hrd t h6
          simp only [Act.eval, Array.getD_eq_getD_getElem?, this]
        | _ => rfl
    have hwd : Region.wanted o (yielded ops a.tmps) = Region.wanted o (yielded ops AF.tmps) := by
      unfold Region.wanted
      cases hgd : o.guard with
      | none => rfl
      | some g =>
        obtain ⟨j, want⟩ := g
        have hbj : b j = true := by
          unfold guardOk at hg
          rw [hgd] at hg
          obtain ⟨e, he, hb⟩ := any_edge (p := fun e => e.on == j) hg haf
          rw [beq_iff_eq.1 he] at hb
          exact hb
        have : yielded ops a.tmps j = yielded ops AF.tmps j := by
          unfold yielded
          cases hoj : ops[j]? with
          | none => rfl
          | some oj =>
            cases hdj : oj.dst with
            | none => simp [hdj]
            | some t =>
              have := J4 j oj t hoj hdj hbj
              simp [hdj, this]
        simp only [this]
    have hJ : ∀ w', S w' → K (a.put o.dst v) w' := by
      intro w' hw'
      refine hK _ _ ⟨hw', by rw [put_defers, J2], by rw [put_size, J3], ?_, ?_⟩
      · intro i' o' t hi' hd' hb'
        by_cases e : i' = i
        · subst e
          have eo : o' = o := Option.some.inj (hi'.symm.trans ho)
          subst eo
          rw [hd', put_same, hAFi t hd', if_pos (by rw [J3, ← hAs]; exact hlt i' o' t hi' hd')]
        · rw [show upB b i i' = b i' from if_neg e] at hb'
          by_cases e2 : o.dst = some t
          · rw [e2, put_same, hAFi t e2, if_pos (by rw [J3, ← hAs]; exact hlt i o t ho e2)]
          · rw [put_other _ _ _ _ e2]
            exact J4 i' o' t hi' hd' hb'
      · intro t ht
        rw [put_other _ _ _ _ (ht i o ho)]
        exact J5 t ht
    rw [hwd]
    rcases hd with ⟨d1, d2⟩ | ⟨d1, d2⟩
    · rw [if_neg (by rw [d1]; simp), ← d2]
      exact hJ w J1
    · rw [if_pos d1]
      unfold Oper.wp
      rw [hev]
      exact upon_det (hlt i o · ho) hJ _ (d2 w J1)
  · intro b a w ⟨J1, J2, J3, J4, J5⟩ hall
    have : a = AF := by
      rcases a with ⟨ta, da⟩
      rcases AF with ⟨tA, dA⟩
      have e1 : ta = tA := by
        apply Array.ext_getElem?
        intro t
        by_cases hin : t ∈ dstsOf ops
        · obtain ⟨o, ho, hd⟩ := List.mem_filterMap.1 hin
          obtain ⟨i, hi⟩ := List.mem_iff_getElem?.1 ho
          have hi' : ops[i]? = some o := by simpa using hi
          exact J4 i o t hi' hd (hall i (Array.getElem?_eq_some_iff.1 hi').1)
        · have hno : ∀ (i : Nat) (o : Oper), ops[i]? = some o → o.dst ≠ some t := fun i' o' hi' hd' => hin (hdst i' o' t hi' hd')
          exact (J5 t hno).trans (hoff t hno).symm
      subst e1
      rw [show da = dA from J2.trans hAd.symm]
    rw [this]
    exact hend w J1
  · exact ⟨hS, rfl, rfl, fun _ _ _ _ _ h => by simp [Array.getD_eq_getD_getElem?, Array.getElem?_replicate] at h; split at h <;> simp at h, fun _ _ => rfl⟩
  · unfold unl
    simp
end

section
open Go Go.RowKit Go.Instr
set_option linter.unusedVariables false
set_option linter.unusedSimpArgs false

/-! One operation of such a region, on a frame of which only the slots that it reads are known. -/
def Yield1 (P : Program) (S : World → Prop) (v : Value) : Result Next → Prop
  | .ok (.value u) w' => u = v ∧ S w'
  | .ok .skip w' => undef = v ∧ S w'
  | .ok (.enter f args) w' => Calls P f args w' fun e w'' => e = .returned v ∧ S w''
  | _ => False
theorem yield1_value {P : Program} {S : World → Prop} {v u : Value} {w : World} (h : u = v) (hs : S w) : Yield1 P S v (.ok (.value u) w) := ⟨h, hs⟩
theorem yield1_enter {P : Program} {S : World → Prop} {v : Value} {w : World} {f : FuncId} {args : Array Value} (h : Calls P f args w fun e w'' => e = .returned v ∧ S w'') : Yield1 P S v (.ok (.enter f args) w) := h
def inTs (ts : List Nat) : Operand → Bool
  | .tmp t => ts.contains t
  | _ => true
theorem det_run {P : Program} {ops : Array Oper} {AF : Act} {S : World → Prop} {o : Oper} {v : Value} (ts : List Nat) (hok : (o.op.operands.all (inTs ts) && !isSelect o.op) = true) (hw : Region.wanted o (yielded ops AF.tmps) = true)
    (h : ∀ a : Act, (∀ t, ts.contains t = true → a.tmps[t]? = AF.tmps[t]?) → ∀ w, S w → Yield1 P S v ((execOp a.eval o).run P w)) : DetStep P ops AF S o v := by
  refine Or.inr ⟨hw, fun w hS => ?_⟩
  have h1 := h AF (fun _ _ => rfl) w hS
  unfold Oper.wp
  revert h1
  generalize (execOp AF.eval o).run P w = r
  intro h1
  cases r with
  | ok x w' =>
    cases x with
    | value u => exact ⟨by rw [h1.1], h1.2⟩
    | skip => exact ⟨by rw [h1.1], h1.2⟩
    | enter f args =>
      refine Calls.mono (R := _) h1 ?_
      rintro e w'' ⟨rfl, hs⟩
      exact ⟨rfl, hs⟩
    | _ => exact (h1 : False).elim
  | halt x w' => exact (h1 : False).elim
theorem detSteps_cons {P : Program} {ops : Array Oper} {AF : Act} {S : World → Prop} {o : Oper} {v : Value} {os : List Oper} {vs : List Value} (h : DetStep P ops AF S o v) (hs : DetSteps P ops AF S os vs) : DetSteps P ops AF S (o :: os) (v :: vs) := ⟨h, hs⟩
theorem detSteps_nil {P : Program} {ops : Array Oper} {AF : Act} {S : World → Prop} : DetSteps P ops AF S [] [] := trivial
end
end Go.Proofs.Ytdopjadlbhacfaa

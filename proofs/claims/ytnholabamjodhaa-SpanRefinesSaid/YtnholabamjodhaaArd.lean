import Derived.Test.YtnholabamjodhaaAri
namespace Go.Proofs.Ytnholabamjodhaa
open Go Go.RowKit Go.Instr
set_option linter.unusedVariables false
set_option linter.unusedSimpArgs false

/-! A region that draws its order and whose operations yield the same values in any order: it is walked once, in the order of the text, on the frame as it is at the end. -/
def putAll (a : Act) : List Oper → List Value → Act
  | o :: os, v :: vs => putAll (a.put o.dst v) os vs
  | _, _ => a
theorem put_size (a : Act) (d : Option Tmp) (v : Value) : (a.put d v).tmps.size = a.tmps.size := by
  cases d <;> simp [Act.put]
theorem put_defers (a : Act) (d : Option Tmp) (v : Value) : (a.put d v).defers = a.defers := by
  cases d <;> rfl
theorem put_other (a : Act) (d : Option Tmp) (v : Value) (t : Nat) (h : d ≠ some t) : (a.put d v).tmps[t]? = a.tmps[t]? := by
  cases d with
  | none => rfl
  | some s =>
    simp only [Act.put]
    exact Array.getElem?_setIfInBounds_ne (fun e => h (by rw [e]))
theorem put_same (a : Act) (t : Nat) (v : Value) : (a.put (some t) v).tmps[t]? = if t < a.tmps.size then some v else none := by
  simp only [Act.put, Array.getElem?_setIfInBounds, if_true]
theorem putAll_size : ∀ (os : List Oper) (vs : List Value) (a : Act), (putAll a os vs).tmps.size = a.tmps.size
  | [], _, a => by unfold putAll; rfl
  | o :: os, [], a => by unfold putAll; rfl
  | o :: os, v :: vs, a => by unfold putAll; rw [putAll_size os vs, put_size]
theorem putAll_defers : ∀ (os : List Oper) (vs : List Value) (a : Act), (putAll a os vs).defers = a.defers
  | [], _, a => by unfold putAll; rfl
  | o :: os, [], a => by unfold putAll; rfl
  | o :: os, v :: vs, a => by unfold putAll; rw [putAll_defers os vs, put_defers]
theorem putAll_off : ∀ (os : List Oper) (vs : List Value) (a : Act) (t : Nat), (∀ o ∈ os, o.dst ≠ some t) → (putAll a os vs).tmps[t]? = a.tmps[t]?
  | [], _, a, t, _ => by unfold putAll; rfl
  | o :: os, [], a, t, _ => by unfold putAll; rfl
  | o :: os, v :: vs, a, t, h => by
    unfold putAll
    rw [putAll_off os vs _ t (fun o' ho => h o' (List.mem_cons_of_mem _ ho)), put_other _ _ _ _ (h o (List.mem_cons_self ..))]
theorem putAll_on : ∀ (os : List Oper) (vs : List Value) (a : Act) (i : Nat) (o : Oper) (t : Nat) (v : Value), os[i]? = some o → o.dst = some t → vs[i]? = some v → (os.filterMap (·.dst)).Nodup →
    (putAll a os vs).tmps[t]? = if t < a.tmps.size then some v else none
  | [], _, a, i, o, t, v, h, _, _, _ => by simp at h
  | o' :: os, [], a, i, o, t, v, _, _, h, _ => by simp at h
  | o' :: os, v' :: vs, a, 0, o, t, v, h, hd, hv, hn => by
    simp at h hv
    subst h hv
    unfold putAll
    rw [putAll_off os vs _ t ?_, hd, put_same]
    intro o2 ho2 e
    rw [List.filterMap_cons_some hd, List.nodup_cons] at hn
    exact hn.1 (List.mem_filterMap.2 ⟨o2, ho2, e⟩)
  | o' :: os, v' :: vs, a, i + 1, o, t, v, h, hd, hv, hn => by
    unfold putAll
    have hn' : (os.filterMap (·.dst)).Nodup := by
      cases h' : o'.dst with
      | none => rw [List.filterMap_cons_none h'] at hn; exact hn
      | some d => rw [List.filterMap_cons_some h', List.nodup_cons] at hn; exact hn.2
    rw [putAll_on os vs _ i o t v (by simpa using h) hd (by simpa using hv) hn', put_size]

def nodupB : List Nat → Bool
  | [] => true
  | x :: xs => !xs.contains x && nodupB xs
theorem nodupB_spec : ∀ l : List Nat, nodupB l = true → l.Nodup
  | [], _ => List.nodup_nil
  | x :: xs, h => by
    unfold nodupB at h
    rw [Bool.and_eq_true] at h
    refine List.nodup_cons.2 ⟨by simpa using h.1, nodupB_spec xs h.2⟩
def dstsOf (ops : Array Oper) : List Nat := ops.toList.filterMap (·.dst)
def waitsFor (ops : Array Oper) (o : Oper) (t : Nat) : Bool := o.after.any fun e => Region.binds .any e && ((ops[e.on]?).bind (·.dst)) == some t
def readOk (ops : Array Oper) (o : Oper) : Operand → Bool
  | .tmp t => !(dstsOf ops).contains t || waitsFor ops o t
  | _ => true
def guardOk (o : Oper) : Bool := match o.guard with | none => true | some (j, _) => o.after.any fun e => Region.binds .any e && e.on == j
def isSelect : Op → Bool
  | .select _ _ => true
  | _ => false
def detOk (ops : Array Oper) (size : Nat) : Bool := nodupB (dstsOf ops) && backOps ops && (dstsOf ops).all (fun t => decide (t < size)) && ops.toList.all fun o => o.op.operands.all (readOk ops o) && guardOk o && !isSelect o.op

/-- What one operation does on the frame as it is at the end. -/
def DetStep (P : Program) (ops : Array Oper) (AF : Act) (S : World → Prop) (o : Oper) (v : Value) : Prop :=
  (Region.wanted o (yielded ops AF.tmps) = false ∧ v = undef) ∨
  (Region.wanted o (yielded ops AF.tmps) = true ∧ ∀ w, S w → Oper.wp P o AF w (fun a' w' => a' = AF.put o.dst v ∧ S w') (fun _ _ _ => False))
def DetSteps (P : Program) (ops : Array Oper) (AF : Act) (S : World → Prop) : List Oper → List Value → Prop
  | o :: os, v :: vs => DetStep P ops AF S o v ∧ DetSteps P ops AF S os vs
  | [], [] => True
  | _, _ => False
theorem detSteps_get {P : Program} {ops : Array Oper} {AF : Act} {S : World → Prop} : ∀ (os : List Oper) (vs : List Value), DetSteps P ops AF S os vs → ∀ (i : Nat) (o : Oper), os[i]? = some o → ∃ v, vs[i]? = some v ∧ DetStep P ops AF S o v
  | [], [], _, i, o, h => by simp at h
  | [], v :: vs, h, _, _, _ => by cases h
  | o :: os, [], h, _, _, _ => by cases h
  | o' :: os, v :: vs, h, 0, o, ho => by
    simp at ho
    subst ho
    exact ⟨v, rfl, h.1⟩
  | o' :: os, v :: vs, h, i + 1, o, ho => by
    obtain ⟨v', h1, h2⟩ := detSteps_get os vs h.2 i o (by simpa using ho)
    exact ⟨v', by simpa using h1, h2⟩
theorem any_edge {o : Oper} {p : Edge → Bool} {b : Nat → Bool} (h : (o.after.any fun e => Region.binds .any e && p e) = true) (haf : ∀ e ∈ o.after, Region.binds .any e = true → b e.on = true) : ∃ e : Edge, p e = true ∧ b e.on = true := by
  rw [Array.any_eq_true] at h
  obtain ⟨x, hx, hh⟩ := h
  rw [Bool.and_eq_true] at hh
  exact ⟨_, hh.2, haf o.after[x] (Array.getElem_mem hx) hh.1⟩
theorem upon_det {P : Program} {o : Oper} {AF a : Act} {v : Value} {S : World → Prop} {K : Act → World → Prop} {Q : Exit → Act → World → Prop} (hz : ∀ t, o.dst = some t → t < AF.tmps.size) (hK : ∀ w', S w' → K (a.put o.dst v) w') :
    ∀ r : Result Next, o.upon P AF (fun a' w' => a' = AF.put o.dst v ∧ S w') (fun _ _ _ => False) r → o.upon P a K Q r := by
  have key : ∀ u w', AF.put o.dst u = AF.put o.dst v → S w' → K (a.put o.dst u) w' := by
    intro u w' he hs
    cases hd : o.dst with
    | none =>
      have := hK w' hs
      rw [hd] at this
      exact this
    | some t =>
      rw [hd] at he
      have h1 := put_same AF t u
      rw [he, put_same AF t v, if_pos (hz t hd), if_pos (hz t hd)] at h1
      have h2 : u = v := (Option.some.inj h1).symm
      rw [h2, ← hd]
      exact hK w' hs
  intro r h
  cases r with
  | ok x w' =>
    cases x with
    | value u => exact key u w' h.1 h.2
    | skip => exact key undef w' h.1 h.2
    | defer d =>
      exfalso
      have h1 : (Act.put { AF with defers := d :: AF.defers } o.dst undef).defers = (AF.put o.dst v).defers := congrArg Act.defers h.1
      rw [put_defers, put_defers] at h1
      have h2 := congrArg List.length h1
      simp at h2
    | enter f args =>
      refine Calls.mono (R := _) h ?_
      intro e w'' he
      cases e with
      | returned u => exact key u w'' he.1 he.2
      | panicked c => exact he.elim
      | outgrown =>
        obtain ⟨_, _, h⟩ := (he : LetsOut _)
        exact h.elim
    | row r args => exact Rows.mono (R := _) h (fun u w'' he => key u w'' he.1 he.2)
    | _ => exact (h : False).elim
  | halt x w' =>
    cases x <;> first | exact (h : False).elim
theorem wp_region_det {P : Program} {ops : Array Oper} {Q : Exit → Act → World → Prop} {id : Nat} {a0 : Act} {w1 : World} (hm : P.follows .mixedOrders = true) (vs : List Value) (S : World → Prop) (hok : detOk ops a0.tmps.size = true) (hS : S w1.drew)
    (hstep : DetSteps P ops (putAll a0 ops.toList vs) S ops.toList vs)
    (hend : ∀ w, S w → Q .normal (putAll a0 ops.toList vs) w) :
    (Code.region id ops true).wp P Q a0 w1 := by
  unfold detOk at hok
  simp only [Bool.and_eq_true] at hok
  obtain ⟨⟨⟨h1, h2⟩, h3⟩, h4⟩ := hok
  have hnd : (ops.toList.filterMap (·.dst)).Nodup := nodupB_spec _ h1
  generalize hAF : putAll a0 ops.toList vs = AF at *
  have hAs : AF.tmps.size = a0.tmps.size := by rw [← hAF, putAll_size]
  have hAd : AF.defers = a0.defers := by rw [← hAF, putAll_defers]
  have hoff : ∀ t, (∀ (i : Nat) (o : Oper), ops[i]? = some o → o.dst ≠ some t) → AF.tmps[t]? = a0.tmps[t]? := by
    intro t h
    rw [← hAF]
    refine putAll_off _ _ _ _ (fun o ho => ?_)
    obtain ⟨i, hi⟩ := List.mem_iff_getElem?.1 ho
    exact h i o (by simpa using hi)
  have hdst : ∀ (i : Nat) (o : Oper) (t : Nat), ops[i]? = some o → o.dst = some t → t ∈ dstsOf ops := by
    intro i o t hi hd
    exact List.mem_filterMap.2 ⟨o, by rw [List.mem_iff_getElem?]; exact ⟨i, by simpa using hi⟩, hd⟩
  have hlt : ∀ (i : Nat) (o : Oper) (t : Nat), ops[i]? = some o → o.dst = some t → t < AF.tmps.size := by
    intro i o t hi hd
    have := List.all_eq_true.1 h3 t (hdst i o t hi hd)
    rw [hAs]
    simpa using this
  refine wp_region_any hm (wpAny_inv h2 (fun b a w => S w ∧ a.defers = a0.defers ∧ a.tmps.size = a0.tmps.size ∧ (∀ (i : Nat) (o : Oper) (t : Nat), ops[i]? = some o → o.dst = some t → b i = true → a.tmps[t]? = AF.tmps[t]?) ∧ (∀ t, (∀ (i : Nat) (o : Oper), ops[i]? = some o → o.dst ≠ some t) → a.tmps[t]? = a0.tmps[t]?)) ?_ ?_ _ _ _ _ (by simp) ?_ ?_)
  · intro i o ho b a w ⟨J1, J2, J3, J4, J5⟩ hbi haf K hK
    obtain ⟨v, hv, hd⟩ := detSteps_get _ _ hstep i o (by simpa using ho)
    have hmem : o ∈ ops.toList := by rw [List.mem_iff_getElem?]; exact ⟨i, by simpa using ho⟩
    have hall := List.all_eq_true.1 h4 o hmem
    simp only [Bool.and_eq_true] at hall
    obtain ⟨⟨hr, hg⟩, hsel⟩ := hall
    have hAFi : ∀ t, o.dst = some t → AF.tmps[t]? = some v := by
      intro t ht
      have h5 := putAll_on ops.toList vs a0 i o t v (by simpa using ho) ht hv hnd
      rw [hAF, if_pos (by rw [← hAs]; exact hlt i o t ho ht)] at h5
      exact h5
    have hrd : ∀ t, readOk ops o (.tmp t) = true → a.tmps[t]? = AF.tmps[t]? := by
      intro t ht
      by_cases hin : t ∈ dstsOf ops
      · unfold readOk at ht
        have hw : waitsFor ops o t = true := by
          rw [Bool.or_eq_true] at ht
          rcases ht with h | h
          · simp [hin] at h
          · exact h
        obtain ⟨e, he, hb⟩ := any_edge (p := fun e => ((ops[e.on]?).bind (·.dst)) == some t) hw haf
        have he' := beq_iff_eq.1 he
        cases hoe : ops[e.on]? with
        | none => rw [hoe] at he'; cases he'
        | some oe =>
          rw [hoe] at he'
          exact J4 e.on oe t hoe he' hb
      · have hno : ∀ (i : Nat) (o : Oper), ops[i]? = some o → o.dst ≠ some t := fun i' o' hi' hd' => hin (hdst i' o' t hi' hd')
        rw [J5 t hno, hoff t hno]
    have hev : execOp a.eval o = execOp AF.eval o := by
      refine execOp_congr o ?_ ?_
      · intro cs b' he
        rw [he] at hsel
        simp [isSelect] at hsel
      · intro x hx
        have h6 := Array.all_eq_true_iff_forall_mem.1 hr x hx
        cases x with
        | tmp t =>
          have := hrd t h6
          simp only [Act.eval, Array.getD_eq_getD_getElem?, this]
        | _ => rfl
    have hwd : Region.wanted o (yielded ops a.tmps) = Region.wanted o (yielded ops AF.tmps) := by
      unfold Region.wanted
      cases hgd : o.guard with
      | none => rfl
      | some g =>
        obtain ⟨j, want⟩ := g
        have hbj : b j = true := by
          unfold guardOk at hg
          rw [hgd] at hg
          obtain ⟨e, he, hb⟩ := any_edge (p := fun e => e.on == j) hg haf
          rw [beq_iff_eq.1 he] at hb
          exact hb
        have : yielded ops a.tmps j = yielded ops AF.tmps j := by
          unfold yielded
          cases hoj : ops[j]? with
          | none => rfl
          | some oj =>
            cases hdj : oj.dst with
            | none => simp [hdj]
            | some t =>
              have := J4 j oj t hoj hdj hbj
              simp [hdj, this]
        simp only [this]
    have hJ : ∀ w', S w' → K (a.put o.dst v) w' := by
      intro w' hw'
      refine hK _ _ ⟨hw', by rw [put_defers, J2], by rw [put_size, J3], ?_, ?_⟩
      · intro i' o' t hi' hd' hb'
        by_cases e : i' = i
        · subst e
          have eo : o' = o := Option.some.inj (hi'.symm.trans ho)
          subst eo
          rw [hd', put_same, hAFi t hd', if_pos (by rw [J3, ← hAs]; exact hlt i' o' t hi' hd')]
        · rw [show upB b i i' = b i' from if_neg e] at hb'
          by_cases e2 : o.dst = some t
          · rw [e2, put_same, hAFi t e2, if_pos (by rw [J3, ← hAs]; exact hlt i o t ho e2)]
          · rw [put_other _ _ _ _ e2]
            exact J4 i' o' t hi' hd' hb'
      · intro t ht
        rw [put_other _ _ _ _ (ht i o ho)]
        exact J5 t ht
    rw [hwd]
    rcases hd with ⟨d1, d2⟩ | ⟨d1, d2⟩
    · rw [if_neg (by rw [d1]; simp), ← d2]
      exact hJ w J1
    · rw [if_pos d1]
      unfold Oper.wp
      rw [hev]
      exact upon_det (hlt i o · ho) hJ _ (d2 w J1)
  · intro b a w ⟨J1, J2, J3, J4, J5⟩ hall
    have : a = AF := by
      rcases a with ⟨ta, da⟩
      rcases AF with ⟨tA, dA⟩
      have e1 : ta = tA := by
        apply Array.ext_getElem?
        intro t
        by_cases hin : t ∈ dstsOf ops
        · obtain ⟨o, ho, hd⟩ := List.mem_filterMap.1 hin
          obtain ⟨i, hi⟩ := List.mem_iff_getElem?.1 ho
          have hi' : ops[i]? = some o := by simpa using hi
          exact J4 i o t hi' hd (hall i (Array.getElem?_eq_some_iff.1 hi').1)
        · have hno : ∀ (i : Nat) (o : Oper), ops[i]? = some o → o.dst ≠ some t := fun i' o' hi' hd' => hin (hdst i' o' t hi' hd')
          exact (J5 t hno).trans (hoff t hno).symm
      subst e1
      rw [show da = dA from J2.trans hAd.symm]
    rw [this]
    exact hend w J1
  · exact ⟨hS, rfl, rfl, fun _ _ _ _ _ h => by simp [Array.getD_eq_getD_getElem?, Array.getElem?_replicate] at h; split at h <;> simp at h, fun _ _ => rfl⟩
  · unfold unl
    simp
end Go.Proofs.Ytnholabamjodhaa

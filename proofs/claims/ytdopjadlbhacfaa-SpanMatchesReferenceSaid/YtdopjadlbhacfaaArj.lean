import Derived.Test.YtdopjadlbhacfaaAri
import Derived.Test.YtdopjadlbhacfaaAo
namespace Go.Proofs.Ytdopjadlbhacfaa
open Go Go.RowKit Go.Instr
set_option linter.unusedVariables false
set_option linter.unusedSimpArgs false

/-! 'a, b, .. := f(x), f(y), ..' of functions that make memory, in whatever order: n loads, calls, new blocks and stores. -/
def upV (V : Nat → Value) (i : Nat) (v : Value) : Nat → Value := fun j => if j = i then v else V j
def upG (G : Nat → Nat) (i : Nat) (v : Nat) : Nat → Nat := fun j => if j = i then v else G j
theorem upB_ne (b : Nat → Bool) {i j : Nat} (h : j ≠ i) : upB b i j = b j := if_neg h
theorem upB_eq (b : Nat → Bool) (i : Nat) : upB b i i = true := if_pos rfl
theorem upV_ne (V : Nat → Value) {i j : Nat} (v : Value) (h : j ≠ i) : upV V i v j = V j := if_neg h
theorem upV_eq (V : Nat → Value) (i : Nat) (v : Value) : upV V i v i = v := if_pos rfl
theorem upG_ne (V : Nat → Nat) {i j : Nat} (v : Nat) (h : j ≠ i) : upG V i v j = V j := if_neg h
theorem upG_eq (V : Nat → Nat) (i : Nat) (v : Nat) : upG V i v i = v := if_pos rfl
def putV (a0 : Act) : List Nat → (Nat → Value) → Act
  | [], _ => a0
  | t :: ts, V => (putV a0 ts V).put (some t) (V t)
theorem act_put_put (a : Act) (t : Nat) (u v : Value) : (a.put (some t) u).put (some t) v = a.put (some t) v := by
  simp [Act.put]
theorem act_put_swap (a : Act) {s t : Nat} (u v : Value) (h : s ≠ t) : (a.put (some s) u).put (some t) v = (a.put (some t) v).put (some s) u := by
  simp only [Act.put]
  rw [Array.setIfInBounds_comm _ _ h]
theorem putV_far (a0 : Act) (V : Nat → Value) (t : Nat) (v : Value) : ∀ ts : List Nat, t ∉ ts → putV a0 ts (upV V t v) = putV a0 ts V
  | [], _ => rfl
  | s :: ts, h => by
    have h1 : s ≠ t := fun e => h (e ▸ List.mem_cons_self ..)
    have h2 : t ∉ ts := fun e => h (List.mem_cons_of_mem _ e)
    unfold putV
    rw [putV_far a0 V t v ts h2, upV_ne V v h1]
theorem putV_put (a0 : Act) (V : Nat → Value) (t : Nat) (v : Value) : ∀ ts : List Nat, ts.Nodup → t ∈ ts → (putV a0 ts V).put (some t) v = putV a0 ts (upV V t v)
  | [], _, h => by cases h
  | s :: ts, hn, h => by
    rw [List.nodup_cons] at hn
    unfold putV
    by_cases e : s = t
    · subst e
      rw [act_put_put, putV_far a0 V s v ts hn.1, upV_eq]
    · rw [act_put_swap _ _ _ e, putV_put a0 V t v ts hn.2 ((List.mem_cons.1 h).resolve_left (fun x => e x.symm)), upV_ne V v e]
theorem putV_none (a0 : Act) (V : Nat → Value) (ts : List Nat) (v : Value) : (putV a0 ts V).put none v = putV a0 ts V := rfl
theorem putV_size (a0 : Act) (V : Nat → Value) : ∀ ts : List Nat, (putV a0 ts V).tmps.size = a0.tmps.size
  | [] => rfl
  | s :: ts => by unfold putV; simp [Act.put, putV_size a0 V ts]
theorem putV_self (a0 : Act) : ∀ ts : List Nat, putV a0 ts (fun t => a0.tmps.getD t undef) = a0
  | [] => rfl
  | s :: ts => by
    unfold putV
    rw [putV_self a0 ts]
    rcases a0 with ⟨tm, df⟩
    simp only [Act.put, Act.mk.injEq, and_true]
    apply Array.ext
    · simp
    · intro i h1 h2
      rw [Array.getElem_setIfInBounds]
      split
      · rename_i e
        subst e
        simp at h1
        simp [h1]
      · rfl
theorem putV_in (a0 : Act) (V : Nat → Value) (t : Nat) (hs : t < a0.tmps.size) : ∀ ts : List Nat, t ∈ ts → (putV a0 ts V).eval (.tmp t) = V t
  | [], h => by cases h
  | s :: ts, h => by
    unfold putV
    by_cases e : s = t
    · subst e
      have := putV_size a0 V ts
      simp [Act.put, Act.eval, Array.getD_eq_getD_getElem?, this, hs]
    · have ih := putV_in a0 V t hs ts ((List.mem_cons.1 h).resolve_left (fun x => e x.symm))
      simp only [Act.put, Act.eval, Array.getD_eq_getD_getElem?] at ih ⊢
      rw [Array.getElem?_setIfInBounds_ne e]
      exact ih
theorem putV_out (a0 : Act) (V : Nat → Value) (t : Nat) : ∀ ts : List Nat, t ∉ ts → (putV a0 ts V).eval (.tmp t) = a0.eval (.tmp t)
  | [], h => rfl
  | s :: ts, h => by
    unfold putV
    have e : s ≠ t := fun e => h (e ▸ List.mem_cons_self ..)
    have ih := putV_out a0 V t ts (fun e => h (List.mem_cons_of_mem _ e))
    simp only [Act.put, Act.eval, Array.getD_eq_getD_getElem?] at ih ⊢
    rw [Array.getElem?_setIfInBounds_ne e]
    exact ih

structure RJ (w0 : World) (n p q : Nat) (T : TypeId) (Z : Array Value) (X : Nat → Value) (A : Nat → Array Value) (b : Nat → Bool) (V : Nat → Value) (G : Nat → Nat) (w : World) : Prop where
  bw : Below w0.heap.size w0 w
  ld : ∀ k, k < n → b (2 * k) = true → V (p + 2 * k) = X k
  ca : ∀ k, k < n → b (2 * k + 1) = true → V (p + 2 * k + 1) = .agg (A k)
  pt : ∀ k, k < n → b (2 * n + k) = true → V (q + k) = .pointer (some ⟨G k, 0, none⟩)
  ge : ∀ k, k < n → b (2 * n + k) = true → w0.heap.size ≤ G k
  kn : ∀ k, k < n → b (2 * n + k) = true → KnA w (G k) T (if b (3 * n + k) then A k else Z)
  ne : ∀ j k, j < n → k < n → j ≠ k → b (2 * n + j) = true → b (2 * n + k) = true → G j ≠ G k
  st : ∀ k, k < n → b (3 * n + k) = true → b (2 * n + k) = true

section
variable {w0 w : World} {n p q : Nat} {T : TypeId} {Z : Array Value} {X : Nat → Value} {A : Nat → Array Value} {b : Nat → Bool} {V : Nat → Value} {G : Nat → Nat}
theorem RJ.load (H : RJ w0 n p q T Z X A b V G w) (hq : q + n ≤ p) {k : Nat} (hk : k < n) (v : Value) (hv : v = X k) : RJ w0 n p q T Z X A (upB b (2 * k)) (upV V (p + 2 * k) v) G w := by
  subst hv
  refine ⟨H.bw, fun j hj h => ?_, fun j hj h => ?_, fun j hj h => ?_, fun j hj h => ?_, fun j hj h => ?_, fun i j hi hj hn h g => ?_, fun j hj h => ?_⟩
  · by_cases e : j = k
    · subst e; exact upV_eq ..
    · rw [upB_ne _ (by omega)] at h; rw [upV_ne _ _ (by omega)]; exact H.ld j hj h
  · rw [upB_ne _ (by omega)] at h; rw [upV_ne _ _ (by omega)]; exact H.ca j hj h
  · rw [upB_ne _ (by omega)] at h; rw [upV_ne _ _ (by omega)]; exact H.pt j hj h
  · rw [upB_ne _ (by omega)] at h; exact H.ge j hj h
  · rw [upB_ne _ (by omega)] at h; rw [upB_ne _ (by omega)]; exact H.kn j hj h
  · rw [upB_ne _ (by omega)] at h g; exact H.ne i j hi hj hn h g
  · rw [upB_ne _ (by omega)] at h ⊢; exact H.st j hj h
theorem RJ.call (H : RJ w0 n p q T Z X A b V G w) (hq : q + n ≤ p) {k : Nat} (hk : k < n) (v : Value) (hv : v = .agg (A k)) {w' : World} (hb : Below w.heap.size w w') : RJ w0 n p q T Z X A (upB b (2 * k + 1)) (upV V (p + 2 * k + 1) v) G w' := by
  subst hv
  refine ⟨H.bw.trans (hb.mono H.bw.size), fun j hj h => ?_, fun j hj h => ?_, fun j hj h => ?_, fun j hj h => ?_, fun j hj h => ?_, fun i j hi hj hn h g => ?_, fun j hj h => ?_⟩
  · rw [upB_ne _ (by omega)] at h; rw [upV_ne _ _ (by omega)]; exact H.ld j hj h
  · by_cases e : j = k
    · subst e; exact upV_eq ..
    · rw [upB_ne _ (by omega)] at h; rw [upV_ne _ _ (by omega)]; exact H.ca j hj h
  · rw [upB_ne _ (by omega)] at h; rw [upV_ne _ _ (by omega)]; exact H.pt j hj h
  · rw [upB_ne _ (by omega)] at h; exact H.ge j hj h
  · rw [upB_ne _ (by omega)] at h; rw [upB_ne _ (by omega)]; exact (H.kn j hj h).below hb (H.kn j hj h).lt
  · rw [upB_ne _ (by omega)] at h g; exact H.ne i j hi hj hn h g
  · rw [upB_ne _ (by omega)] at h ⊢; exact H.st j hj h
theorem RJ.make (H : RJ w0 n p q T Z X A b V G w) (hq : q + n ≤ p) {k : Nat} (hk : k < n) (hs : b (3 * n + k) = false) (v : Value) (hv : v = .pointer (some ⟨w.heap.size, 0, none⟩)) : RJ w0 n p q T Z X A (upB b (2 * n + k)) (upV V (q + k) v) (upG G k w.heap.size) (w.alloc (.cells Z T)) := by
  subst hv
  refine ⟨H.bw.alloc H.bw.size _, fun j hj h => ?_, fun j hj h => ?_, fun j hj h => ?_, fun j hj h => ?_, fun j hj h => ?_, fun i j hi hj hn h g => ?_, fun j hj h => ?_⟩
  · rw [upB_ne _ (by omega)] at h; rw [upV_ne _ _ (by omega)]; exact H.ld j hj h
  · rw [upB_ne _ (by omega)] at h; rw [upV_ne _ _ (by omega)]; exact H.ca j hj h
  · by_cases e : j = k
    · subst e; rw [upV_eq, upG_eq]
    · rw [upB_ne _ (by omega)] at h; rw [upV_ne _ _ (by omega), upG_ne _ _ e]; exact H.pt j hj h
  · by_cases e : j = k
    · subst e; rw [upG_eq]; exact H.bw.size
    · rw [upB_ne _ (by omega)] at h; rw [upG_ne _ _ e]; exact H.ge j hj h
  · by_cases e : j = k
    · subst e; rw [upG_eq, upB_ne _ (by omega), hs]; exact KnA.new ..
    · rw [upB_ne _ (by omega)] at h; rw [upG_ne _ _ e, upB_ne _ (by omega)]; exact (H.kn j hj h).alloc _
  · by_cases e : i = k
    · subst e
      rw [upB_ne _ (by omega)] at g
      rw [upG_eq, upG_ne _ _ (Ne.symm hn)]
      have := (H.kn j hj g).lt
      omega
    · rw [upB_ne _ (by omega)] at h
      rw [upG_ne _ _ e]
      by_cases e' : j = k
      · subst e'
        rw [upG_eq]
        have := (H.kn i hi h).lt
        omega
      · rw [upB_ne _ (by omega)] at g
        rw [upG_ne _ _ e']
        exact H.ne i j hi hj hn h g
  · by_cases e : j = k
    · subst e; exact upB_eq ..
    · rw [upB_ne _ (by omega)] at h; rw [upB_ne _ (by omega)]; exact H.st j hj h
theorem RJ.store (H : RJ w0 n p q T Z X A b V G w) {k : Nat} (hk : k < n) (hm : b (2 * n + k) = true) : RJ w0 n p q T Z X A (upB b (3 * n + k)) V G (w.setRow (G k) (A k)) := by
  refine ⟨below_setRow H.bw (H.ge k hk hm) _, fun j hj h => ?_, fun j hj h => ?_, fun j hj h => ?_, fun j hj h => ?_, fun j hj h => ?_, fun i j hi hj hn h g => ?_, fun j hj h => ?_⟩
  · rw [upB_ne _ (by omega)] at h; exact H.ld j hj h
  · rw [upB_ne _ (by omega)] at h; exact H.ca j hj h
  · rw [upB_ne _ (by omega)] at h; exact H.pt j hj h
  · rw [upB_ne _ (by omega)] at h; exact H.ge j hj h
  · rw [upB_ne _ (by omega)] at h
    by_cases e : j = k
    · subst e; rw [upB_eq, if_pos rfl]; exact (H.kn j hj h).setRow _
    · rw [upB_ne _ (by omega)]
      have := H.ne j k hj hk e h hm
      exact (setRow_other w (G k) (G j) (A k) this).trans (H.kn j hj h)
  · rw [upB_ne _ (by omega)] at h g; exact H.ne i j hi hj hn h g
  · rw [upB_ne _ (by omega)]
    by_cases e : j = k
    · subst e; exact hm
    · rw [upB_ne _ (by omega)] at h; exact H.st j hj h
theorem RJ.beg (hb : Below w0.heap.size w0 w) (X : Nat → Value) (A : Nat → Array Value) (V : Nat → Value) (G : Nat → Nat) : RJ w0 n p q T Z X A (fun _ => false) V G w :=
  ⟨hb, fun _ _ h => Bool.noConfusion h, fun _ _ h => Bool.noConfusion h, fun _ _ h => Bool.noConfusion h, fun _ _ h => Bool.noConfusion h, fun _ _ h => Bool.noConfusion h, fun _ _ _ _ _ h => Bool.noConfusion h, fun _ _ h => Bool.noConfusion h⟩
end
/-- One operation of the region, whatever has come up before it. -/
def StepOk (P : Program) (ops : Array Oper) (Q : Exit → Act → World → Prop) (a0 : Act) (ts : List Nat) (w0 : World) (n p q : Nat) (T : TypeId) (Z : Array Value) (X : Nat → Value) (A : Nat → Array Value) (i : Nat) (o : Oper) : Prop :=
  ∀ (b : Nat → Bool) (V : Nat → Value) (G : Nat → Nat) (w : World), RJ w0 n p q T Z X A b V G w → b i = false → (∀ e ∈ o.after, Region.binds .any e = true → b e.on = true) →
      ∀ K : Act → World → Prop, (∀ V' G' w', RJ w0 n p q T Z X A (upB b i) V' G' w' → K (putV a0 ts V') w') → if Region.wanted o (yielded ops (putV a0 ts V).tmps) = true then Oper.wp P o (putV a0 ts V) w K Q else K ((putV a0 ts V).put o.dst undef) w
def waitsOn (o : Oper) (j : Nat) : Bool := o.after.any fun e => Region.binds .any e && e.on == j
theorem waits_is {o : Oper} {j : Nat} {b : Nat → Bool} (h : waitsOn o j = true) (haf : ∀ e ∈ o.after, Region.binds .any e = true → b e.on = true) : b j = true := by
  unfold waitsOn at h
  rw [Array.any_eq_true] at h
  obtain ⟨x, hx, hh⟩ := h
  rw [Bool.and_eq_true] at hh
  have := haf o.after[x] (Array.getElem_mem hx) hh.1
  rw [beq_iff_eq.1 hh.2] at this
  exact this
theorem wp_region_made {P : Program} {ops : Array Oper} {Q : Exit → Act → World → Prop} {id : Nat} {a0 : Act} {w1 : World} (hm : P.follows .mixedOrders = true) (hb : backOps ops = true)
    (ts : List Nat) (w0 : World) (n p q : Nat) (T : TypeId) (Z : Array Value) (X : Nat → Value) (A : Nat → Array Value) (hw : Below w0.heap.size w0 w1.drew)
    (hstep : StepsI (StepOk P ops Q a0 ts w0 n p q T Z X A) 0 ops.toList)
    (hsz : 4 * n ≤ ops.size)
    (hend : ∀ (V : Nat → Value) (G : Nat → Nat) (w : World), Below w0.heap.size w0 w → (∀ k, k < n → V (q + k) = .pointer (some ⟨G k, 0, none⟩) ∧ w0.heap.size ≤ G k ∧ KnA w (G k) T (A k)) → (∀ j k, j < n → k < n → j ≠ k → G j ≠ G k) → Q .normal (putV a0 ts V) w) :
    (Code.region id ops true).wp P Q a0 w1 := by
  refine wp_region_inv hm hb (fun b a w => ∃ V G, a = putV a0 ts V ∧ RJ w0 n p q T Z X A b V G w) ⟨_, fun _ => 0, (putV_self a0 ts).symm, RJ.beg hw X A _ _⟩ ?_ ?_
  · have : ∀ (os : List Oper) (m : Nat), StepsI (StepOk P ops Q a0 ts w0 n p q T Z X A) m os →
      StepsI (fun i o => ∀ (b : Nat → Bool) (a : Act) (w : World), (∃ V G, a = putV a0 ts V ∧ RJ w0 n p q T Z X A b V G w) → b i = false → (∀ e ∈ o.after, Region.binds .any e = true → b e.on = true) → ∀ K : Act → World → Prop, (∀ a' w', (∃ V G, a' = putV a0 ts V ∧ RJ w0 n p q T Z X A (upB b i) V G w') → K a' w') → if Region.wanted o (yielded ops a.tmps) = true then Oper.wp P o a w K Q else K (a.put o.dst undef) w) m os := by
      intro os
      induction os with
      | nil => intro m _; exact trivial
      | cons o os ih =>
        intro m h
        refine ⟨?_, ih _ h.2⟩
        rintro b a w ⟨V, G, rfl, H⟩ hbi haf K hK
        exact h.1 b V G w H hbi haf K (fun V' G' w' H' => hK _ _ ⟨V', G', rfl, H'⟩)
    exact this _ _ hstep
  · rintro b a w ⟨V, G, rfl, H⟩ hall
    have e : ∀ k, k < n → b (2 * n + k) = true := fun k hk => hall _ (by omega)
    refine hend V G w H.bw (fun k hk => ⟨H.pt k hk (e k hk), H.ge k hk (e k hk), ?_⟩) (fun j k hj hk hn => H.ne j k hj hk hn (e j hj) (e k hk))
    have := H.kn k hk (e k hk)
    rw [hall (3 * n + k) (by omega), if_pos rfl] at this
    exact this

section
variable {P : Program} {ops : Array Oper} {Q : Exit → Act → World → Prop} {a0 : Act} {ts : List Nat} {w0 : World} {n p q : Nat} {T : TypeId} {Z : Array Value} {X : Nat → Value} {A : Nat → Array Value} {o : Oper}
theorem made_load (k i : Nat) (hi0 : i = 2 * k) (hk : k < n) (hgd : o.guard = none) (ty : TypeId) (s : Nat) (ho : o.op = .load ty (.tmp s)) (hdst : o.dst = some (p + 2 * k)) (hs : ts.contains s = false) (g : Nat) (hx : a0.eval (.tmp s) = .pointer (some ⟨g, 0, none⟩)) (t : TypeId) (cs : Array Value) (hX : X k = .agg cs) (hg : KnA w0 g t cs) (hu : (P.underlying ty).map aggD = some true) (hi : (P.info? ty).map (·.size) = some cs.size)
    (hts : ts.Nodup) (hin : ts.contains (p + 2 * k) = true) (hq : q + n ≤ p)
    : StepOk P ops Q a0 ts w0 n p q T Z X A i o := by
  intro b V G w H hbi haf K hK
  have hw : Region.wanted o (yielded ops (putV a0 ts V).tmps) = true := by simp [Region.wanted, hgd]
  rw [if_pos hw]
  obtain ⟨d, hud, hd⟩ : ∃ d, P.underlying ty = some d ∧ aggD d = true := by
    cases h : P.underlying ty with
    | none => rw [h] at hu; cases hu
    | some d => rw [h] at hu; exact ⟨d, rfl, Option.some.inj hu⟩
  refine wp_load_row ty (.tmp s) ho g ((putV_out a0 V s ts (by simpa using hs)).trans hx) t cs (0, 0) d (hg.below H.bw hg.lt) hud (by cases d <;> first | rfl | (simp [aggD] at hd)) hi ?_
  rw [hdst, putV_put a0 V _ _ ts hts (by simpa using hin)]
  subst hi0
  exact hK _ _ _ (H.load hq hk _ hX.symm)
theorem made_call (k i : Nat) (hi0 : i = 2 * k + 1) (hk : k < n) (hgd : o.guard = none) (hdst : o.dst = some (p + 2 * k + 1)) (f : FuncId) (hrun : ∀ (a : Act) (w : World), (execOp a.eval o).run P w = .ok (.enter f #[a.eval (.tmp (p + 2 * k))]) w)
    (hC : ∀ w, Calls P f #[X k] w fun e w' => e = .returned (.agg (A k)) ∧ Below w.heap.size w w') (hz : p + 2 * k < a0.tmps.size) (hwl : waitsOn o (2 * k) = true)
    (hts : ts.Nodup) (hin : ts.contains (p + 2 * k + 1) = true) (hil : ts.contains (p + 2 * k) = true) (hq : q + n ≤ p)
    : StepOk P ops Q a0 ts w0 n p q T Z X A i o := by
  intro b V G w H hbi haf K hK
  have hw : Region.wanted o (yielded ops (putV a0 ts V).tmps) = true := by simp [Region.wanted, hgd]
  rw [if_pos hw]
  unfold Oper.wp
  rw [hrun, Oper.upon_enter, putV_in a0 V _ hz ts (by simpa using hil), H.ld k hk (waits_is hwl haf)]
  refine (hC w).mono ?_
  rintro e w' ⟨rfl, hb⟩
  show K ((putV a0 ts V).put o.dst (.agg (A k))) w'
  rw [hdst, putV_put a0 V _ _ ts hts (by simpa using hin)]
  subst hi0
  exact hK _ _ _ (H.call hq hk _ rfl hb)
theorem made_make (k i : Nat) (hi0 : i = 2 * n + k) (hk : k < n) (hgd : o.guard = none) (hdst : o.dst = some (q + k)) (hrun : ∀ (ev : Operand → Value) (w : World), (execOp ev o).run P w = .ok (.value (.pointer (some ⟨w.heap.size, 0, none⟩))) (w.alloc (.cells Z T)))
    (hts : ts.Nodup) (hin : ts.contains (q + k) = true) (hq : q + n ≤ p)
    : StepOk P ops Q a0 ts w0 n p q T Z X A i o := by
  intro b V G w H hbi haf K hK
  have hw : Region.wanted o (yielded ops (putV a0 ts V).tmps) = true := by simp [Region.wanted, hgd]
  rw [if_pos hw]
  unfold Oper.wp
  rw [hrun, Oper.upon_value, hdst, putV_put a0 V _ _ ts hts (by simpa using hin)]
  subst hi0
  have hbs : b (3 * n + k) = false := by
    cases h : b (3 * n + k) with
    | false => rfl
    | true => rw [H.st k hk h] at hbi; cases hbi
  exact hK _ _ _ (H.make hq hk hbs _ rfl)
theorem made_store (k i : Nat) (hi0 : i = 3 * n + k) (hk : k < n) (hgd : o.guard = none) (hdst : o.dst = none) (ty : TypeId) (s u : Nat) (ho : o.op = .store ty (.tmp s) (.tmp u)) (hs : s = q + k) (hu : u = p + 2 * k + 1) (hwm : waitsOn o (2 * n + k) = true) (hwc : waitsOn o (2 * k + 1) = true)
    (hzs : s < a0.tmps.size) (hzu : u < a0.tmps.size) (his : ts.contains s = true) (hiu : ts.contains u = true) (hi : (P.info? ty).map (·.size) = some (A k).size) (hsz : Z.size = (A k).size) (h1 : (A k).all (·.oneCell') = true)
    : StepOk P ops Q a0 ts w0 n p q T Z X A i o := by
  intro b V G w H hbi haf K hK
  have hw : Region.wanted o (yielded ops (putV a0 ts V).tmps) = true := by simp [Region.wanted, hgd]
  rw [if_pos hw]
  have hbm := waits_is hwm haf
  have hbc := waits_is hwc haf
  have hbs : b (3 * n + k) = false := hi0 ▸ hbi
  have hg := H.kn k hk hbm
  rw [hbs, if_neg (by simp)] at hg
  refine wp_store_row ty (.tmp s) (.tmp u) ho (G k) (A k) ?_ ?_ T Z hg hi hsz h1 ?_
  · rw [putV_in a0 V s hzs ts (by simpa using his), hs]; exact H.pt k hk hbm
  · rw [putV_in a0 V u hzu ts (by simpa using hiu), hu]; exact H.ca k hk hbc
  · rw [hdst, putV_none]
    subst hi0
    exact hK _ _ _ (H.store hk hbm)
end
end Go.Proofs.Ytdopjadlbhacfaa

import Derived.Test.YtnholabamjodhaaArd
namespace Go.Proofs.Ytnholabamjodhaa
open Go Go.RowKit Go.Instr
set_option linter.unusedVariables false
set_option linter.unusedSimpArgs false

/-! One operation of such a region, on a frame of which only the slots that it reads are known. -/
def Yield1 (P : Program) (S : World → Prop) (v : Value) : Result Next → Prop
  | .ok (.value u) w' => u = v ∧ S w'
  | .ok .skip w' => undef = v ∧ S w'
  | .ok (.enter f args) w' => Calls P f args w' fun e w'' => e = .returned v ∧ S w''
  | _ => False
theorem yield1_value {P : Program} {S : World → Prop} {v u : Value} {w : World} (h : u = v) (hs : S w) : Yield1 P S v (.ok (.value u) w) := ⟨h, hs⟩
theorem yield1_enter {P : Program} {S : World → Prop} {v : Value} {w : World} {f : FuncId} {args : Array Value} (h : Calls P f args w fun e w'' => e = .returned v ∧ S w'') : Yield1 P S v (.ok (.enter f args) w) := h
def inTs (ts : List Nat) : Operand → Bool
  | .tmp t => ts.contains t
  | _ => true
theorem det_run {P : Program} {ops : Array Oper} {AF : Act} {S : World → Prop} {o : Oper} {v : Value} (ts : List Nat) (hok : (o.op.operands.all (inTs ts) && !isSelect o.op) = true) (hw : Region.wanted o (yielded ops AF.tmps) = true)
    (h : ∀ a : Act, (∀ t, ts.contains t = true → a.tmps[t]? = AF.tmps[t]?) → ∀ w, S w → Yield1 P S v ((execOp a.eval o).run P w)) : DetStep P ops AF S o v := by
  refine Or.inr ⟨hw, fun w hS => ?_⟩
  have h1 := h AF (fun _ _ => rfl) w hS
  unfold Oper.wp
  revert h1
  generalize (execOp AF.eval o).run P w = r
  intro h1
  cases r with
  | ok x w' =>
    cases x with
    | value u => exact ⟨by rw [h1.1], h1.2⟩
    | skip => exact ⟨by rw [h1.1], h1.2⟩
    | enter f args =>
      refine Calls.mono (R := _) h1 ?_
      rintro e w'' ⟨rfl, hs⟩
      exact ⟨rfl, hs⟩
    | _ => exact (h1 : False).elim
  | halt x w' => exact (h1 : False).elim
/-- The same, on the slots that it reads alone. -/
theorem det_run1 {P : Program} {ops : Array Oper} {AF : Act} {S : World → Prop} {o : Oper} {v : Value} (ts : List Nat) (hok : (o.op.operands.all (inTs ts) && !isSelect o.op) = true) (hw : Region.wanted o (yielded ops AF.tmps) = true) (vs : List Value)
    (hvs : ts.map (fun t => AF.tmps[t]?) = vs.map some)
    (h : ∀ a : Act, ts.map (fun t => a.tmps[t]?) = vs.map some → ∀ w, S w → Yield1 P S v ((execOp a.eval o).run P w)) : DetStep P ops AF S o v :=
  det_run ts hok hw (fun a ha w hS => by
    refine h a ?_ w hS
    rw [← hvs]
    refine List.map_congr_left (fun t ht => ha t (by simpa using ht)))
theorem detSteps_cons {P : Program} {ops : Array Oper} {AF : Act} {S : World → Prop} {o : Oper} {v : Value} {os : List Oper} {vs : List Value} (h : DetStep P ops AF S o v) (hs : DetSteps P ops AF S os vs) : DetSteps P ops AF S (o :: os) (v :: vs) := ⟨h, hs⟩
theorem detSteps_nil {P : Program} {ops : Array Oper} {AF : Act} {S : World → Prop} : DetSteps P ops AF S [] [] := trivial
end Go.Proofs.Ytnholabamjodhaa

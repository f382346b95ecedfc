import Derived.Test.YtnholabamjodhaaAop
namespace Go.Proofs.Ytnholabamjodhaa
open Go.RowKit Go.ChangeShapes Go.WideShapes Go.ChangeAt Go.Joins
set_option maxRecDepth 100000
set_option linter.unusedVariables false
set_option linter.unusedSimpArgs false

/-! Arguments of span's statements: arrays of two numbers. -/
section
variable {H : Type} {enc : TypeId × Value → H} {w : World}
theorem two_read {fuel : Nat} {c0 c1 : Value} {x : DataW H × List MemPlace} (h : DataW.trod enc Try.prog w 0 (fun _ => true) true fuel 56 [c0, c1] = some x) :
    ∃ y0 y1 n, DataW.trod enc Try.prog w 0 (fun _ => true) true n 3 [c0] = some y0 ∧ DataW.trod enc Try.prog w 0 (fun _ => true) true n 3 [c1] = some y1 := by
  have hce : Try.prog.cellsOf 3 = 1 := by kernel_rfl
  cases fuel with
  | zero => simp [DataW.trod] at h
  | succ n =>
    unfold DataW.trod at h
    rw [Try.underlying56] at h
    have r2 : List.range 2 = [0, 1] := rfl
    simp [r2, hce] at h
    obtain ⟨_, h⟩ := h
    cases e0 : DataW.trod enc Try.prog w 0 (fun _ => true) true n 3 [c0] with
    | none => simp [e0] at h
    | some y0 =>
      cases e1 : DataW.trod enc Try.prog w 0 (fun _ => true) true n 3 [c1] with
      | none => simp [e0, e1] at h
      | some y1 => exact ⟨y0, y1, n, e0, e1⟩
theorem open_arr2 {base : Nat} {v : Value} {d : DataW H} {p : List MemPlace} (hv : Value.okWide Try.prog w .any base 56 v) (h : DataW.Trod enc Try.prog w 0 (fun _ => true) true 56 v d p) :
    ∃ z0 z1 : Int, v = .agg #[.int .i64 z0, .int .i64 z1] := by
  obtain ⟨cs, rfl, hsz, _⟩ : ∃ cs, v = .agg cs ∧ cs.size = Try.prog.cellsOf 56 ∧ Row.okWide Try.prog w .any base 56 cs := by
    simpa [Value.okWide, Try.underlying56] using hv
  have hc : Try.prog.cellsOf 56 = 2 := by kernel_rfl
  rw [hc] at hsz
  obtain ⟨l⟩ := cs
  match l, hsz with
  | [c0, c1], _ =>
    obtain ⟨fuel, hf⟩ := h
    obtain ⟨y0, y1, n, h0, h1⟩ := two_read hf
    obtain ⟨z0, rfl⟩ := litA h0
    obtain ⟨z1, rfl⟩ := litA h1
    exact ⟨z0, z1, rfl⟩
end
end Go.Proofs.Ytnholabamjodhaa

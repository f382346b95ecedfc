import Derived.Test.YtffcnkkgbhhfnaaGreatDoorRc
import Derived.ProofKit
import Derived.OpenShut
import Derived.Carry
import Derived.Lib.LaidTab
import Derived.MakeChecks
import Derived.Stop.LaidErr
import Derived.WalkArith
namespace Go.Proofs.YtffcnkkgbhhfnaaGreatDoor
open Go.ChangeShapes Go.WideShapes Go.ChangeAt Go.RowKit
set_option linter.unusedVariables false

theorem own : ownKnob Tryz.prog.godebug = none := by kernel_rfl
theorem gPow : Tryz.prog.globalNamed "internal/strconv.uint64pow10" = some 2 := by kernel_rfl

theorem wf_bd {n : Int} (h : (Lit.int .i64 n).wf = true) : I64 n := by
  have := h
  simp [Lit.wf, IntKind.min, IntKind.max, IntKind.bits, IntKind.signed] at this
  unfold I64
  constructor <;> omega

set_option maxRecDepth 100000 in
theorem open_pair {H : Type} {enc : TypeId × Value → H} {W : World} {v : Value} {d : DataW H} {p : List MemPlace} (h : DataW.Trod enc Tryz.prog W 0 (fun _ => true) true 22 v d p) :
    ∃ a b : Int, v = .agg #[.int .i64 a, .int .i64 b] ∧ I64 a ∧ I64 b := by
  obtain ⟨fuel, hf⟩ := h
  obtain ⟨xs, m, -, -, hl, hn, hel⟩ := DataW.trod_array Tryz.underlying22 hf
  have c3 : Tryz.prog.cellsOf 3 = 1 := by kernel_rfl
  have c22 : Tryz.prog.cellsOf 22 = 2 := by kernel_rfl
  have hl2 : v.cells.toList.length = 2 := hl.trans c22
  have e0 : DataW.trod enc Tryz.prog W 0 (fun _ => true) true m 3 ((v.cells.toList.drop (0 * 1)).take 1) = xs[0]? := by have h := hel 0 (by decide); rw [c3] at h; exact h
  have e1 : DataW.trod enc Tryz.prog W 0 (fun _ => true) true m 3 ((v.cells.toList.drop (1 * 1)).take 1) = xs[1]? := by have h := hel 1 (by decide); rw [c3] at h; exact h
  clear hl hel hf
  have key : ∀ cs : List Value, cs.length = 2 → (DataW.trod enc Tryz.prog W 0 (fun _ => true) true m 3 ((cs.drop (0 * 1)).take 1) = xs[0]?) → (DataW.trod enc Tryz.prog W 0 (fun _ => true) true m 3 ((cs.drop (1 * 1)).take 1) = xs[1]?) →
      ∃ a b : Int, cs = [.int .i64 a, .int .i64 b] ∧ I64 a ∧ I64 b := by
    intro cs hcs k0 k1
    match cs, hcs with
    | [x0, x1], _ =>
      rw [List.getElem?_eq_getElem (show 0 < xs.length by omega)] at k0
      rw [List.getElem?_eq_getElem (show 1 < xs.length by omega)] at k1
      obtain ⟨a, h1, -, w1⟩ := DataW.trod_int Tryz.underlying3 (show DataW.trod enc Tryz.prog W 0 (fun _ => true) true m 3 [x0] = some _ from k0)
      obtain ⟨b, h2, -, w2⟩ := DataW.trod_int Tryz.underlying3 (show DataW.trod enc Tryz.prog W 0 (fun _ => true) true m 3 [x1] = some _ from k1)
      cases h1; cases h2
      exact ⟨a, b, rfl, wf_bd w1, wf_bd w2⟩
  cases v with
  | agg cs =>
    obtain ⟨a, b, hcs, ha, hb⟩ := key cs.toList hl2 e0 e1
    exact ⟨a, b, by rw [show cs = #[Value.int .i64 a, .int .i64 b] from Array.ext' hcs], ha, hb⟩
  | _ => exact absurd hl2 (by simp [Value.cells])

end Go.Proofs.YtffcnkkgbhhfnaaGreatDoor

import Derived.Test.YtdcaecpcofencaaPost
import Derived.Test.YtdcaecpcofencaaJe
import Derived.OpenShut
import Derived.Lib.SmallJoins
import Derived.Laws.IdiomArrays
namespace Go.Proofs.Ytdcaecpcofencaa
open Go.RowKit Go.ChangeShapes Go.WideShapes Go.ChangeAt Go.Joins
set_option maxRecDepth 100000
set_option linter.unusedVariables false
set_option linter.unusedSimpArgs false

/-! Arguments of gap's statements. -/
theorem own : ownKnob Try.prog.godebug = none := by kernel_rfl
/-- A list of numbers of a kind. -/
def kIn (k : IntKind) (w : World) (l : List Int) (s : Value) : Prop :=
  ∃ (oa : Option Addr) (cap : Nat), s = .slice oa l.length cap ∧ l.length ≤ cap ∧ cap ≤ 9223372036854775807 ∧
    ∀ i, i < l.length → ∃ b off, oa = some ⟨b, off, none⟩ ∧ w.cell? ⟨b, off + i, none⟩ = some (.int k (l.getD i 0))
theorem kIn_below {k : IntKind} {w w' : World} (h : Below w.heap.size w w') {l : List Int} {s : Value} (hs : kIn k w l s) : kIn k w' l s := by
  obtain ⟨oa, cap, h1, h2, h3, h4⟩ := hs
  refine ⟨oa, cap, h1, h2, h3, fun i hi => ?_⟩
  obtain ⟨b, off, h5, h6⟩ := h4 i hi
  exact ⟨b, off, h5, cell_below h h6⟩
section
variable {H : Type} {enc : TypeId × Value → H} {w : World}
theorem addr_plain {a : Addr} {v : Value} (h : w.cell? a = some v) : ∃ b off, a = ⟨b, off, none⟩ := by
  obtain ⟨b, off, spot⟩ := a
  have := World.cell?_spot h
  simp only at this
  subst this
  exact ⟨b, off, rfl⟩
theorem ints_k {n : Nat} {T e : TypeId} {k : IntKind} (ht : Try.prog.underlying T = some (.slice e)) (he : Try.prog.underlying e = some (.int k)) (hc : Try.prog.cellsOf e = 1) {v : Value} {y : DataW H × List MemPlace} (h : DataW.trod enc Try.prog w 0 (fun _ => true) true n T [v] = some y) :
    ∃ l, kIn k w l v ∧ ∀ x ∈ l, (Lit.int k x).wf = true := by
  rcases open_ints ht he hc h with ⟨hv, -⟩ | ⟨a, len, cap, zs, hv, -, hl, hm, hz, hy, hcell, hwf⟩
  · simp only [List.cons.injEq, and_true] at hv
    subst hv
    exact ⟨[], ⟨none, 0, rfl, Nat.le_refl _, by omega, fun i hi => absurd hi (by simp)⟩, by simp⟩
  · simp only [List.cons.injEq, and_true] at hv
    subst hv
    simp only [if_true] at hz
    have hlen : (zs.take len).length = len := by rw [List.length_take]; omega
    refine ⟨zs.take len, ⟨some a, cap, by rw [hlen], by omega, by unfold maxLen at hm; omega, fun i hi => ?_⟩, fun x hx => hwf x (List.mem_of_mem_take hx)⟩
    have h0 := hcell 0 (by omega)
    have hadd : a.add 0 = a := by simp [Addr.add]
    rw [hadd] at h0
    obtain ⟨b, off, rfl⟩ := addr_plain h0
    refine ⟨b, off, rfl, ?_⟩
    have h1 := hcell i (by omega)
    have e1 : (⟨b, off, none⟩ : Addr).add i = ⟨b, off + i, none⟩ := by first | (simp [Addr.add]; done) | (simp [Addr.add]; omega)
    rw [e1] at h1
    rw [h1]
    congr 2
    simp only [List.getD_eq_getElem?_getD, List.getElem?_take, if_pos (show i < len by omega)]
theorem bd64 {a : Int} (h : (Lit.int .i64 a).wf = true) : -9223372036854775808 ≤ a ∧ a ≤ 9223372036854775807 := by
  have h1 : IntKind.i64.min ≤ a ∧ a ≤ IntKind.i64.max := by simpa [Lit.wf] using h
  exact h1
theorem bd8 {a : Int} (h : (Lit.int .u8 a).wf = true) : ∃ x : Nat, a = (x : Int) ∧ x < 256 := by
  have h1 : IntKind.u8.min ≤ a ∧ a ≤ IntKind.u8.max := by simpa [Lit.wf] using h
  have h2 : 0 ≤ a ∧ a ≤ 255 := h1
  exact ⟨a.toNat, by omega, by omega⟩
theorem bd32 {a : Int} (h : (Lit.int .i32 a).wf = true) : -2147483648 ≤ a ∧ a ≤ 2147483647 := by
  have h1 : IntKind.i32.min ≤ a ∧ a ≤ IntKind.i32.max := by simpa [Lit.wf] using h
  exact h1
/-- What Raw reads as. -/
theorem raw_of {n : Nat} {cs : List Value} {x : DataW H × List MemPlace} (h : DataW.trod enc Try.prog w 0 (fun _ => true) true n 24 cs = some x) :
    ∃ (a b : Nat) (l : List Int) (oa : Option Addr) (cap : Nat), cs = [.int .u8 (a : Int), .int .u8 (b : Int), .slice oa l.length cap] ∧ a < 256 ∧ b < 256 ∧ intsIn w l (.slice oa l.length cap) := by
  obtain ⟨xs, m, rfl, rfl, hlen, hxl, hf⟩ := DataW.trod_struct Try.underlying24 h
  have hlen3 : cs.length = 3 := hlen.trans (by kernel_rfl)
  have c1 : Try.prog.cellsOf 5 = 1 := by kernel_rfl
  have c2 : Try.prog.cellsOf 22 = 1 := by kernel_rfl
  have c3 : Try.prog.cellsOf 3 = 1 := by kernel_rfl
  match cs, hlen3 with
  | [x0, x1, x2], _ =>
    have h0 : DataW.trod enc Try.prog w 0 (fun _ => true) true m 5 [x0] = xs[0]? := by have := hf 0 _ rfl; simpa [c1] using this
    have h1 : DataW.trod enc Try.prog w 0 (fun _ => true) true m 5 [x1] = xs[1]? := by have := hf 1 _ rfl; simpa [c1] using this
    have h2 : DataW.trod enc Try.prog w 0 (fun _ => true) true m 22 [x2] = xs[2]? := by have := hf 2 _ rfl; simpa [c2] using this
    have hxl3 : xs.length = 3 := hxl
    match xs, hxl3 with
    | [y0, y1, y2], _ =>
      obtain ⟨z0, e0, -, f0⟩ := DataW.trod_int Try.underlying5 h0
      obtain ⟨z1, e1, -, f1⟩ := DataW.trod_int Try.underlying5 h1
      obtain ⟨l, hl, -⟩ := ints_k Try.underlying22 Try.underlying3 c3 h2
      obtain ⟨a, rfl, ha⟩ := bd8 f0
      obtain ⟨b, rfl, hb⟩ := bd8 f1
      simp only [List.cons.injEq, and_true] at e0 e1
      subst e0 e1
      obtain ⟨oa, cap, rfl, hl2⟩ := hl
      exact ⟨a, b, l, oa, cap, rfl, ha, hb, oa, cap, rfl, hl2⟩
theorem open_raw {r : Reach} {base : Nat} {v : Value} {d : DataW H} {p : List MemPlace} (hv : Value.okWide Try.prog w r base 24 v) (h : DataW.Trod enc Try.prog w 0 (fun _ => true) true 24 v d p) :
    ∃ (a b : Nat) (l : List Int) (oa : Option Addr) (cap : Nat), v = .agg #[.int .u8 (a : Int), .int .u8 (b : Int), .slice oa l.length cap] ∧ a < 256 ∧ b < 256 ∧ intsIn w l (.slice oa l.length cap) := by
  obtain ⟨cs, rfl, -⟩ := okWide_struct Try.underlying24 hv
  obtain ⟨n, hn⟩ := h
  obtain ⟨a, b, l, oa, cap, h1, h2⟩ := raw_of hn
  have h1' : cs.toList = _ := h1
  exact ⟨a, b, l, oa, cap, by rw [show cs = #[.int .u8 (a : Int), .int .u8 (b : Int), .slice oa l.length cap] from Array.ext' h1'], h2⟩
end
end Go.Proofs.Ytdcaecpcofencaa

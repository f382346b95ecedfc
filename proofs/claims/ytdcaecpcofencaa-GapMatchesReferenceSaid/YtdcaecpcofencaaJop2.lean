import Derived.Test.YtdcaecpcofencaaJop
namespace Go.Proofs.Ytdcaecpcofencaa
open Go.RowKit Go.ChangeShapes Go.WideShapes Go.ChangeAt Go.Joins
set_option maxRecDepth 100000
set_option linter.unusedVariables false
set_option linter.unusedSimpArgs false

/-! Arguments of gap's statements: lists of small numbers, inputs, steps. -/
section
variable {H : Type} {enc : TypeId × Value → H} {w : World}
theorem getD_all {l : List Int} {P : Int → Prop} (h : ∀ x ∈ l, P x) (h0 : P 0) (i : Nat) : P (l.getD i 0) := by
  rw [List.getD_eq_getElem?_getD]
  by_cases hi : i < l.length
  · rw [List.getElem?_eq_getElem hi]
    exact h _ (List.getElem_mem hi)
  · rw [List.getElem?_eq_none (by omega)]
    exact h0
theorem open_i32l {r : Reach} {b : Nat} {v : Value} {d : DataW H} {p : List MemPlace} (hv : Value.okWide Try.prog w r b 46 v) (h : DataW.Trod enc Try.prog w 0 (fun _ => true) true 46 v d p) :
    ∃ (l : List Int) (oa : Option Addr) (cap : Nat), v = .slice oa l.length cap ∧ kIn .i32 w l (.slice oa l.length cap) ∧ ∀ i, -2147483648 ≤ l.getD i 0 ∧ l.getD i 0 ≤ 2147483647 := by
  obtain ⟨a, len, cap, rfl⟩ := okWide_slice Try.underlying46 hv
  obtain ⟨n, hn⟩ := h
  obtain ⟨l, ⟨oa, cap', h1, h2⟩, hw⟩ := ints_k Try.underlying46 Try.underlying21 (by kernel_rfl) hn
  exact ⟨l, oa, cap', h1, ⟨oa, cap', rfl, h2⟩, getD_all (P := fun x => -2147483648 ≤ x ∧ x ≤ 2147483647) (fun x hx => bd32 (hw x hx)) ⟨by decide, by decide⟩⟩
theorem open_u8l {r : Reach} {b : Nat} {v : Value} {d : DataW H} {p : List MemPlace} (hv : Value.okWide Try.prog w r b 47 v) (h : DataW.Trod enc Try.prog w 0 (fun _ => true) true 47 v d p) :
    ∃ (l : List Int) (oa : Option Addr) (cap : Nat), v = .slice oa l.length cap ∧ kIn .u8 w l (.slice oa l.length cap) ∧ ∀ i, 0 ≤ l.getD i 0 ∧ l.getD i 0 ≤ 255 := by
  obtain ⟨a, len, cap, rfl⟩ := okWide_slice Try.underlying47 hv
  obtain ⟨n, hn⟩ := h
  obtain ⟨l, ⟨oa, cap', h1, h2⟩, hw⟩ := ints_k Try.underlying47 Try.underlying5 (by kernel_rfl) hn
  exact ⟨l, oa, cap', h1, ⟨oa, cap', rfl, h2⟩, getD_all (P := fun x => 0 ≤ x ∧ x ≤ 255) (fun x hx => by obtain ⟨z, rfl, hz⟩ := bd8 (hw x hx); omega) ⟨by decide, by decide⟩⟩
/-- What Input reads as: gaps, values, how much wider. -/
theorem input_of {n : Nat} {cs : List Value} {x : DataW H × List MemPlace} (h : DataW.trod enc Try.prog w 0 (fun _ => true) true n 49 cs = some x) :
    ∃ (a b : Nat) (l : List Int) (oa : Option Addr) (cap : Nat) (vl : List Int) (ov : Option Addr) (cv : Nat) (ml : List Int) (om : Option Addr) (cm : Nat), cs = [.int .u8 (a : Int), .int .u8 (b : Int), .slice oa l.length cap, .slice ov vl.length cv, .slice om ml.length cm] ∧ a < 256 ∧ b < 256 ∧ intsIn w l (.slice oa l.length cap) ∧
      kIn .i32 w vl (.slice ov vl.length cv) ∧ (∀ i, -2147483648 ≤ vl.getD i 0 ∧ vl.getD i 0 ≤ 2147483647) ∧ kIn .u8 w ml (.slice om ml.length cm) ∧ (∀ i, 0 ≤ ml.getD i 0 ∧ ml.getD i 0 ≤ 255) := by
  obtain ⟨xs, m, rfl, rfl, hlen, hxl, hf⟩ := DataW.trod_struct Try.underlying49 h
  have hlen5 : cs.length = 5 := hlen.trans (by kernel_rfl)
  have c1 : Try.prog.cellsOf 24 = 3 := by kernel_rfl
  have c2 : Try.prog.cellsOf 46 = 1 := by kernel_rfl
  have c3 : Try.prog.cellsOf 47 = 1 := by kernel_rfl
  match cs, hlen5 with
  | [x0, x1, x2, x3, x4], _ =>
    have h0 : DataW.trod enc Try.prog w 0 (fun _ => true) true m 24 [x0, x1, x2] = xs[0]? := by have := hf 0 _ rfl; simpa [c1] using this
    have h1 : DataW.trod enc Try.prog w 0 (fun _ => true) true m 46 [x3] = xs[1]? := by have := hf 1 _ rfl; simpa [c2] using this
    have h2 : DataW.trod enc Try.prog w 0 (fun _ => true) true m 47 [x4] = xs[2]? := by have := hf 2 _ rfl; simpa [c3] using this
    have hxl3 : xs.length = 3 := hxl
    match xs, hxl3 with
    | [y0, y1, y2], _ =>
      obtain ⟨a, b, l, oa, cap, e0, ha, hb, hl⟩ := raw_of h0
      obtain ⟨vl, ⟨ov, cv, e1, hv2⟩, hvw⟩ := ints_k Try.underlying46 Try.underlying21 (by kernel_rfl) h1
      obtain ⟨ml, ⟨om, cm, e2, hm2⟩, hmw⟩ := ints_k Try.underlying47 Try.underlying5 (by kernel_rfl) h2
      simp only [List.cons.injEq, and_true] at e0
      obtain ⟨rfl, rfl, rfl⟩ := e0
      subst e1 e2
      exact ⟨a, b, l, oa, cap, vl, ov, cv, ml, om, cm, rfl, ha, hb, hl, ⟨ov, cv, rfl, hv2⟩, getD_all (P := fun x => -2147483648 ≤ x ∧ x ≤ 2147483647) (fun x hx => bd32 (hvw x hx)) ⟨by decide, by decide⟩, ⟨om, cm, rfl, hm2⟩, getD_all (P := fun x => 0 ≤ x ∧ x ≤ 255) (fun x hx => by obtain ⟨z, rfl, hz⟩ := bd8 (hmw x hx); omega) ⟨by decide, by decide⟩⟩
theorem open_input {r : Reach} {base : Nat} {v : Value} {d : DataW H} {p : List MemPlace} (hv : Value.okWide Try.prog w r base 49 v) (h : DataW.Trod enc Try.prog w 0 (fun _ => true) true 49 v d p) :
    ∃ (a b : Nat) (l : List Int) (oa : Option Addr) (cap : Nat) (vl : List Int) (ov : Option Addr) (cv : Nat) (ml : List Int) (om : Option Addr) (cm : Nat), v = .agg #[.int .u8 (a : Int), .int .u8 (b : Int), .slice oa l.length cap, .slice ov vl.length cv, .slice om ml.length cm] ∧ a < 256 ∧ b < 256 ∧ intsIn w l (.slice oa l.length cap) ∧
      kIn .i32 w vl (.slice ov vl.length cv) ∧ (∀ i, -2147483648 ≤ vl.getD i 0 ∧ vl.getD i 0 ≤ 2147483647) ∧ kIn .u8 w ml (.slice om ml.length cm) ∧ (∀ i, 0 ≤ ml.getD i 0 ∧ ml.getD i 0 ≤ 255) := by
  obtain ⟨cs, rfl, -⟩ := okWide_struct Try.underlying49 hv
  obtain ⟨n, hn⟩ := h
  obtain ⟨a, b, l, oa, cap, vl, ov, cv, ml, om, cm, h1, h2⟩ := input_of hn
  have h1' : cs.toList = _ := h1
  exact ⟨a, b, l, oa, cap, vl, ov, cv, ml, om, cm, by rw [show cs = #[.int .u8 (a : Int), .int .u8 (b : Int), .slice oa l.length cap, .slice ov vl.length cv, .slice om ml.length cm] from Array.ext' h1'], h2⟩
theorem trod_array2 {P : Program} {t e : TypeId} {fuel : Nat} {c0 c1 : Value} {x : DataW H × List MemPlace} {base : Nat} {spare : Nat → Bool} {held : Bool} (ht : P.underlying t = some (.array 2 e)) (hce : P.cellsOf e = 1)
    (h : DataW.trod enc P w base spare held fuel t [c0, c1] = some x) :
    ∃ y0 y1 n, x = (.agg [y0.1, y1.1], y0.2 ++ y1.2) ∧ DataW.trod enc P w base spare held n e [c0] = some y0 ∧ DataW.trod enc P w base spare held n e [c1] = some y1 := by
  cases fuel with
  | zero => simp [DataW.trod] at h
  | succ n =>
    unfold DataW.trod at h
    rw [ht] at h
    have r2 : List.range 2 = [0, 1] := rfl
    simp [r2, hce] at h
    obtain ⟨_, h⟩ := h
    cases h0 : DataW.trod enc P w base spare held n e [c0] with
    | none => simp [h0] at h
    | some y0 =>
      cases h1 : DataW.trod enc P w base spare held n e [c1] with
      | none => simp [h0, h1] at h
      | some y1 =>
        simp [h0, h1] at h
        exact ⟨y0, y1, n, h.symm, h0, h1⟩
/-- What Step reads as. -/
theorem step_of {n : Nat} {cs : List Value} {x : DataW H × List MemPlace} (h : DataW.trod enc Try.prog w 0 (fun _ => true) true n 28 cs = some x) :
    ∃ (op v ww u c d : Int) (f0 f1 : Nat) (hd w0 w1 : Bool), cs = [.int .i64 op, .int .i64 v, .int .i64 ww, .int .i64 u, .int .i64 c, .int .i64 d, .int .u8 (f0 : Int), .int .u8 (f1 : Int), .bool hd, .bool w0, .bool w1] ∧ f0 < 256 ∧ f1 < 256 ∧
      (-9223372036854775808 ≤ op ∧ op ≤ 9223372036854775807) ∧ (-9223372036854775808 ≤ v ∧ v ≤ 9223372036854775807) ∧ (-9223372036854775808 ≤ ww ∧ ww ≤ 9223372036854775807) ∧ (-9223372036854775808 ≤ u ∧ u ≤ 9223372036854775807) ∧ (-9223372036854775808 ≤ c ∧ c ≤ 9223372036854775807) ∧ (-9223372036854775808 ≤ d ∧ d ≤ 9223372036854775807) := by
  obtain ⟨xs, m, rfl, rfl, hlen, hxl, hf⟩ := DataW.trod_struct Try.underlying28 h
  have hlen11 : cs.length = 11 := hlen.trans (by kernel_rfl)
  have c1 : Try.prog.cellsOf 3 = 1 := by kernel_rfl
  have c2 : Try.prog.cellsOf 25 = 2 := by kernel_rfl
  have c3 : Try.prog.cellsOf 4 = 1 := by kernel_rfl
  have c4 : Try.prog.cellsOf 26 = 2 := by kernel_rfl
  have c5 : Try.prog.cellsOf 5 = 1 := by kernel_rfl
  match cs, hlen11 with
  | [x0, x1, x2, x3, x4, x5, x6, x7, x8, x9, x10], _ =>
    have h0 : DataW.trod enc Try.prog w 0 (fun _ => true) true m 3 [x0] = xs[0]? := by have := hf 0 _ rfl; simpa [c1] using this
    have h1 : DataW.trod enc Try.prog w 0 (fun _ => true) true m 3 [x1] = xs[1]? := by have := hf 1 _ rfl; simpa [c1] using this
    have h2 : DataW.trod enc Try.prog w 0 (fun _ => true) true m 3 [x2] = xs[2]? := by have := hf 2 _ rfl; simpa [c1] using this
    have h3 : DataW.trod enc Try.prog w 0 (fun _ => true) true m 3 [x3] = xs[3]? := by have := hf 3 _ rfl; simpa [c1] using this
    have h4 : DataW.trod enc Try.prog w 0 (fun _ => true) true m 3 [x4] = xs[4]? := by have := hf 4 _ rfl; simpa [c1] using this
    have h5 : DataW.trod enc Try.prog w 0 (fun _ => true) true m 3 [x5] = xs[5]? := by have := hf 5 _ rfl; simpa [c1] using this
    have h6 : DataW.trod enc Try.prog w 0 (fun _ => true) true m 25 [x6, x7] = xs[6]? := by have := hf 6 _ rfl; simpa [c2] using this
    have h7 : DataW.trod enc Try.prog w 0 (fun _ => true) true m 4 [x8] = xs[7]? := by have := hf 7 _ rfl; simpa [c3] using this
    have h8 : DataW.trod enc Try.prog w 0 (fun _ => true) true m 26 [x9, x10] = xs[8]? := by have := hf 8 _ rfl; simpa [c4] using this
    have hxl9 : xs.length = 9 := hxl
    match xs, hxl9 with
    | [y0, y1, y2, y3, y4, y5, y6, y7, y8], _ =>
      obtain ⟨op, e0, -, k0⟩ := DataW.trod_int Try.underlying3 h0
      obtain ⟨v, e1, -, k1⟩ := DataW.trod_int Try.underlying3 h1
      obtain ⟨ww, e2, -, k2⟩ := DataW.trod_int Try.underlying3 h2
      obtain ⟨u, e3, -, k3⟩ := DataW.trod_int Try.underlying3 h3
      obtain ⟨c, e4, -, k4⟩ := DataW.trod_int Try.underlying3 h4
      obtain ⟨d, e5, -, k5⟩ := DataW.trod_int Try.underlying3 h5
      obtain ⟨hd, e7, -⟩ := DataW.trod_bool Try.underlying4 h7
      obtain ⟨p0, p1, n6, -, q0, q1⟩ := trod_array2 (c0 := x6) (c1 := x7) Try.underlying25 c5 h6
      obtain ⟨r0, r1, n8, -, s0, s1⟩ := trod_array2 (c0 := x9) (c1 := x10) Try.underlying26 c3 h8
      obtain ⟨f0, e6, -, k6⟩ := DataW.trod_int Try.underlying5 q0
      obtain ⟨f1, e6', -, k6'⟩ := DataW.trod_int Try.underlying5 q1
      obtain ⟨w0, e8, -⟩ := DataW.trod_bool Try.underlying4 s0
      obtain ⟨w1, e8', -⟩ := DataW.trod_bool Try.underlying4 s1
      obtain ⟨f0, rfl, hf0⟩ := bd8 k6
      obtain ⟨f1, rfl, hf1⟩ := bd8 k6'
      simp only [List.cons.injEq, and_true] at e0 e1 e2 e3 e4 e5 e6 e6' e7 e8 e8'
      subst e0 e1 e2 e3 e4 e5 e6 e6' e7 e8 e8'
      exact ⟨op, v, ww, u, c, d, f0, f1, hd, w0, w1, rfl, hf0, hf1, bd64 k0, bd64 k1, bd64 k2, bd64 k3, bd64 k4, bd64 k5⟩
theorem open_step {r : Reach} {base : Nat} {v : Value} {d : DataW H} {p : List MemPlace} (hv : Value.okWide Try.prog w r base 28 v) (h : DataW.Trod enc Try.prog w 0 (fun _ => true) true 28 v d p) :
    ∃ (op vv ww u c dd : Int) (f0 f1 : Nat) (hd w0 w1 : Bool), v = .agg #[.int .i64 op, .int .i64 vv, .int .i64 ww, .int .i64 u, .int .i64 c, .int .i64 dd, .int .u8 (f0 : Int), .int .u8 (f1 : Int), .bool hd, .bool w0, .bool w1] ∧ f0 < 256 ∧ f1 < 256 ∧
      (-9223372036854775808 ≤ op ∧ op ≤ 9223372036854775807) ∧ (-9223372036854775808 ≤ vv ∧ vv ≤ 9223372036854775807) ∧ (-9223372036854775808 ≤ ww ∧ ww ≤ 9223372036854775807) ∧ (-9223372036854775808 ≤ u ∧ u ≤ 9223372036854775807) ∧ (-9223372036854775808 ≤ c ∧ c ≤ 9223372036854775807) ∧ (-9223372036854775808 ≤ dd ∧ dd ≤ 9223372036854775807) := by
  obtain ⟨cs, rfl, -⟩ := okWide_struct Try.underlying28 hv
  obtain ⟨n, hn⟩ := h
  obtain ⟨op, vv, ww, u, c, dd, f0, f1, hd, w0, w1, h1, h2⟩ := step_of hn
  have h1' : cs.toList = _ := h1
  exact ⟨op, vv, ww, u, c, dd, f0, f1, hd, w0, w1, by rw [show cs = #[.int .i64 op, .int .i64 vv, .int .i64 ww, .int .i64 u, .int .i64 c, .int .i64 dd, .int .u8 (f0 : Int), .int .u8 (f1 : Int), .bool hd, .bool w0, .bool w1] from Array.ext' h1'], h2⟩
end
end Go.Proofs.Ytdcaecpcofencaa

import Derived.Test.YtcjambgbbmffiaaCd
import Derived.Test.YtcjambgbbmffiaaPost
import Derived.OpenShut
namespace Go.Proofs.Ytcjambgbbmffiaa
open Go.ChangeShapes Go.WideShapes Go.ChangeAt Go.RowKit

mutual
/-- How many nodes an expression has. -/
def exT : Ex → Nat
  | .mk _ _ _ l => exTs l + 1
def exTs : List Ex → Nat
  | [] => 0
  | t :: r => exT t + exTs r
end
mutual
/-- How many nodes a condition has. -/
def cdT : Cd → Nat
  | .mk _ l r => exTs l + cdTs r + 1
def cdTs : List Cd → Nat
  | [] => 0
  | t :: r => cdT t + cdTs r
end

/-! What comes in as expressions, conditions and lists of numbers, read as data, lies in memory as 'exIn', 'cdIn', 'intsIn' say. -/
section
variable {H : Type} {enc : TypeId × Value → H} {w : World}

theorem lit_of {n : Nat} {v : Value} {y : DataW H × List MemPlace} (h : DataW.trod enc Try.prog w 0 (fun _ => true) true n 3 [v] = some y) : ∃ z : Int, v = .int .i64 z := by
  cases n with
  | zero => simp [DataW.trod] at h
  | succ n =>
    unfold DataW.trod at h
    rw [Try.underlying3] at h
    split at h <;> simp_all

theorem drop_take_one {cs : List Value} {i : Nat} (h : i < cs.length) : (cs.drop i).take 1 = [cs[i]] := by
  rw [List.drop_eq_getElem_cons h]; rfl

theorem addr_plain {a : Addr} {v : Value} (h : w.cell? a = some v) : ∃ b off, a = ⟨b, off, none⟩ := by
  obtain ⟨b, off, spot⟩ := a
  have := World.cell?_spot h
  simp only at this
  subst this
  exact ⟨b, off, rfl⟩

theorem add_mk (b off i : Nat) : (⟨b, off, none⟩ : Addr).add i = ⟨b, off + i, none⟩ := Go.WideShapes.add_plain ..

/-- One expression, given what its list of operands is. -/
theorem ex_of {n : Nat} {cs : List Value} {x : DataW H × List MemPlace} (h : DataW.trod enc Try.prog w 0 (fun _ => true) true n 24 cs = some x)
    (hl : ∀ (m : Nat) (v : Value) (y : DataW H × List MemPlace), m < n → DataW.trod enc Try.prog w 0 (fun _ => true) true m 22 [v] = some y →
      ∃ (l : List Ex) (oa : Option Addr) (cap : Nat), v = .slice oa l.length cap ∧ l.length ≤ cap ∧ cap ≤ 9223372036854775807 ∧ exsIn w l oa 0 ∧ exTs l ≤ Rows.uptoBulk y.1) :
    ∃ t, exIn w t (.agg ⟨cs⟩) ∧ exT t ≤ Rows.uptoBulk x.1 := by
  obtain ⟨xs, m, rfl, rfl, hlen, hxl, hf⟩ := DataW.trod_struct Try.underlying24 h
  have hlen4 : cs.length = 4 := hlen.trans (by kernel_rfl)
  have c1 : Try.prog.cellsOf 3 = 1 := by kernel_rfl
  have c2 : Try.prog.cellsOf 22 = 1 := by kernel_rfl
  match cs, hlen4 with
  | [x0, x1, x2, x3], _ =>
    have h0 : DataW.trod enc Try.prog w 0 (fun _ => true) true m 3 [x0] = xs[0]? := by have := hf 0 _ rfl; simpa [c1] using this
    have h1 : DataW.trod enc Try.prog w 0 (fun _ => true) true m 3 [x1] = xs[1]? := by have := hf 1 _ rfl; simpa [c1] using this
    have h2 : DataW.trod enc Try.prog w 0 (fun _ => true) true m 3 [x2] = xs[2]? := by have := hf 2 _ rfl; simpa [c1] using this
    have h3 : DataW.trod enc Try.prog w 0 (fun _ => true) true m 22 [x3] = xs[3]? := by have := hf 3 _ rfl; simpa [c2] using this
    have hxl4 : xs.length = 4 := hxl
    match xs, hxl4 with
    | [y0, y1, y2, y3], _ =>
      obtain ⟨z0, rfl⟩ := lit_of h0
      obtain ⟨z1, rfl⟩ := lit_of h1
      obtain ⟨z2, rfl⟩ := lit_of h2
      obtain ⟨l, oa, cap, rfl, g1, g2, g3, g4⟩ := hl m x3 y3 (by omega) h3
      exact ⟨.mk z0 z1 z2 l, by rw [exIn]; exact ⟨oa, cap, rfl, g1, g2, g3⟩, by simp only [exT, List.map_cons, List.map_nil, Rows.uptoBulk, Rows.uptoBulkAll]; omega⟩

/-- A list of expressions, given that shorter readings are expressions. -/
theorem exs_of {n : Nat} {v : Value} {y : DataW H × List MemPlace} (h : DataW.trod enc Try.prog w 0 (fun _ => true) true n 22 [v] = some y)
    (hl : ∀ (m : Nat) (cs : List Value) (x : DataW H × List MemPlace), m < n → DataW.trod enc Try.prog w 0 (fun _ => true) true m 24 cs = some x → ∃ t, exIn w t (.agg ⟨cs⟩) ∧ exT t ≤ Rows.uptoBulk x.1) :
    ∃ (l : List Ex) (oa : Option Addr) (cap : Nat), v = .slice oa l.length cap ∧ l.length ≤ cap ∧ cap ≤ 9223372036854775807 ∧ exsIn w l oa 0 ∧ exTs l ≤ Rows.uptoBulk y.1 := by
  rcases DataW.trod_slice Try.underlying22 h with ⟨hv, -⟩ | ⟨a, len, cap, elems, rest, m, rfl, hv, hy, hb, hlc, hm, hel, hall, -, -⟩
  · simp only [List.cons.injEq, and_true] at hv
    subst hv
    exact ⟨[], none, 0, rfl, Nat.le_refl _, by omega, by rw [exsIn]; trivial, by simp [exTs]⟩
  · simp only [List.cons.injEq, and_true] at hv
    subst hv
    have c4 : Try.prog.cellsOf 24 = 4 := by kernel_rfl
    rw [c4] at hall
    have hcells : ∀ i, i < len → ∃ cs, w.cells? 0 (a.add (i * 4)) 4 = some cs ∧ ∃ t, exIn w t (.agg ⟨cs⟩) ∧ ∃ h : i < elems.length, exT t ≤ Rows.uptoBulk (elems[i]).1 := by
      intro i hi
      have h1 := hall i hi
      rw [List.getElem?_eq_getElem (show i < elems.length by omega)] at h1
      cases hcs : w.cells? 0 (a.add (i * 4)) 4 with
      | none => rw [hcs] at h1; simp at h1
      | some cs => rw [hcs] at h1; obtain ⟨t, h2, h3⟩ := hl m cs _ (by omega) h1; exact ⟨cs, rfl, t, h2, by omega, h3⟩
    have hpl : 0 < len → ∃ b off, a = ⟨b, off, none⟩ := by
      intro h0
      obtain ⟨cs, h1, -⟩ := hcells 0 h0
      obtain ⟨-, hcl, hat⟩ := World.cells?_some h1
      have e0 := hat 0 (by omega)
      rw [List.getElem?_eq_getElem (by omega)] at e0
      exact addr_plain (a := a) (by simpa [Addr.add] using e0)
    have key : ∀ (k i : Nat), i + k = len → ∃ l : List Ex, l.length = k ∧ exsIn w l (some a) i ∧ exTs l ≤ Rows.uptoBulkAll ((elems.drop i).map (·.1)) := by
      intro k
      induction k with
      | zero => intro i _; exact ⟨[], rfl, by rw [exsIn]; trivial, by simp [exTs]⟩
      | succ k ih =>
        intro i hi
        obtain ⟨r, hr, hin, hsz⟩ := ih (i + 1) (by omega)
        obtain ⟨cs, hcs, t, ht, hlt, hsz1⟩ := hcells i (by omega)
        obtain ⟨b, off, rfl⟩ := hpl (by omega)
        obtain ⟨-, hcl, hat⟩ := World.cells?_some hcs
        match cs, hcl with
        | [x0, x1, x2, x3], _ =>
          have e0 := hat 0 (by omega)
          have e1 := hat 1 (by omega)
          have e2 := hat 2 (by omega)
          have e3 := hat 3 (by omega)
          simp only [add_mk] at e0 e1 e2 e3
          exact ⟨t :: r, by simp [hr], by rw [exsIn]; exact ⟨⟨b, off, x0, x1, x2, x3, rfl, e0, e1, e2, e3, ht⟩, hin⟩, by rw [List.drop_eq_getElem_cons hlt]; simp only [List.map_cons, Rows.uptoBulkAll, exTs]; omega⟩
    obtain ⟨l, hl, hin, hsz⟩ := key len 0 (by omega)
    subst hl
    exact ⟨l, some a, cap, rfl, hlc, by unfold maxLen at hm; omega, hin, by subst hy; rw [List.drop_zero] at hsz; simp only [Rows.uptoBulk]; omega⟩

/-- One condition, given what its lists are. -/
theorem cd_of {n : Nat} {cs : List Value} {x : DataW H × List MemPlace} (h : DataW.trod enc Try.prog w 0 (fun _ => true) true n 27 cs = some x)
    (hl : ∀ (m : Nat) (v : Value) (y : DataW H × List MemPlace), m < n → DataW.trod enc Try.prog w 0 (fun _ => true) true m 22 [v] = some y →
      ∃ (l : List Ex) (oa : Option Addr) (cap : Nat), v = .slice oa l.length cap ∧ l.length ≤ cap ∧ cap ≤ 9223372036854775807 ∧ exsIn w l oa 0 ∧ exTs l ≤ Rows.uptoBulk y.1)
    (hc : ∀ (m : Nat) (v : Value) (y : DataW H × List MemPlace), m < n → DataW.trod enc Try.prog w 0 (fun _ => true) true m 25 [v] = some y →
      ∃ (l : List Cd) (oa : Option Addr) (cap : Nat), v = .slice oa l.length cap ∧ l.length ≤ cap ∧ cap ≤ 9223372036854775807 ∧ cdsIn w l oa 0 ∧ cdTs l ≤ Rows.uptoBulk y.1) :
    ∃ t, cdIn w t (.agg ⟨cs⟩) ∧ cdT t ≤ Rows.uptoBulk x.1 := by
  obtain ⟨xs, m, rfl, rfl, hlen, hxl, hf⟩ := DataW.trod_struct Try.underlying27 h
  have hlen3 : cs.length = 3 := hlen.trans (by kernel_rfl)
  have c1 : Try.prog.cellsOf 3 = 1 := by kernel_rfl
  have c2 : Try.prog.cellsOf 22 = 1 := by kernel_rfl
  have c3 : Try.prog.cellsOf 25 = 1 := by kernel_rfl
  match cs, hlen3 with
  | [x0, x1, x2], _ =>
    have h0 : DataW.trod enc Try.prog w 0 (fun _ => true) true m 3 [x0] = xs[0]? := by have := hf 0 _ rfl; simpa [c1] using this
    have h1 : DataW.trod enc Try.prog w 0 (fun _ => true) true m 22 [x1] = xs[1]? := by have := hf 1 _ rfl; simpa [c2] using this
    have h2 : DataW.trod enc Try.prog w 0 (fun _ => true) true m 25 [x2] = xs[2]? := by have := hf 2 _ rfl; simpa [c3] using this
    have hxl3 : xs.length = 3 := hxl
    match xs, hxl3 with
    | [y0, y1, y2], _ =>
      obtain ⟨z0, rfl⟩ := lit_of h0
      obtain ⟨l, oa, ca, rfl, g1, g2, g3, k1⟩ := hl m x1 y1 (by omega) h1
      obtain ⟨r, ob, cb, rfl, g4, g5, g6, k2⟩ := hc m x2 y2 (by omega) h2
      exact ⟨.mk z0 l r, by rw [cdIn]; exact ⟨oa, ob, ca, cb, rfl, g1, g2, g3, g4, g5, g6⟩, by simp only [cdT, List.map_cons, List.map_nil, Rows.uptoBulk, Rows.uptoBulkAll]; omega⟩

/-- A list of conditions, given that shorter readings are conditions. -/
theorem cds_of {n : Nat} {v : Value} {y : DataW H × List MemPlace} (h : DataW.trod enc Try.prog w 0 (fun _ => true) true n 25 [v] = some y)
    (hl : ∀ (m : Nat) (cs : List Value) (x : DataW H × List MemPlace), m < n → DataW.trod enc Try.prog w 0 (fun _ => true) true m 27 cs = some x → ∃ t, cdIn w t (.agg ⟨cs⟩) ∧ cdT t ≤ Rows.uptoBulk x.1) :
    ∃ (l : List Cd) (oa : Option Addr) (cap : Nat), v = .slice oa l.length cap ∧ l.length ≤ cap ∧ cap ≤ 9223372036854775807 ∧ cdsIn w l oa 0 ∧ cdTs l ≤ Rows.uptoBulk y.1 := by
  rcases DataW.trod_slice Try.underlying25 h with ⟨hv, -⟩ | ⟨a, len, cap, elems, rest, m, rfl, hv, hy, hb, hlc, hm, hel, hall, -, -⟩
  · simp only [List.cons.injEq, and_true] at hv
    subst hv
    exact ⟨[], none, 0, rfl, Nat.le_refl _, by omega, by rw [cdsIn]; trivial, by simp [cdTs]⟩
  · simp only [List.cons.injEq, and_true] at hv
    subst hv
    have c4 : Try.prog.cellsOf 27 = 3 := by kernel_rfl
    rw [c4] at hall
    have hcells : ∀ i, i < len → ∃ cs, w.cells? 0 (a.add (i * 3)) 3 = some cs ∧ ∃ t, cdIn w t (.agg ⟨cs⟩) ∧ ∃ h : i < elems.length, cdT t ≤ Rows.uptoBulk (elems[i]).1 := by
      intro i hi
      have h1 := hall i hi
      rw [List.getElem?_eq_getElem (show i < elems.length by omega)] at h1
      cases hcs : w.cells? 0 (a.add (i * 3)) 3 with
      | none => rw [hcs] at h1; simp at h1
      | some cs => rw [hcs] at h1; obtain ⟨t, h2, h3⟩ := hl m cs _ (by omega) h1; exact ⟨cs, rfl, t, h2, by omega, h3⟩
    have hpl : 0 < len → ∃ b off, a = ⟨b, off, none⟩ := by
      intro h0
      obtain ⟨cs, h1, -⟩ := hcells 0 h0
      obtain ⟨-, hcl, hat⟩ := World.cells?_some h1
      have e0 := hat 0 (by omega)
      rw [List.getElem?_eq_getElem (by omega)] at e0
      exact addr_plain (a := a) (by simpa [Addr.add] using e0)
    have key : ∀ (k i : Nat), i + k = len → ∃ l : List Cd, l.length = k ∧ cdsIn w l (some a) i ∧ cdTs l ≤ Rows.uptoBulkAll ((elems.drop i).map (·.1)) := by
      intro k
      induction k with
      | zero => intro i _; exact ⟨[], rfl, by rw [cdsIn]; trivial, by simp [cdTs]⟩
      | succ k ih =>
        intro i hi
        obtain ⟨r, hr, hin, hsz⟩ := ih (i + 1) (by omega)
        obtain ⟨cs, hcs, t, ht, hlt, hsz1⟩ := hcells i (by omega)
        obtain ⟨b, off, rfl⟩ := hpl (by omega)
        obtain ⟨-, hcl, hat⟩ := World.cells?_some hcs
        match cs, hcl with
        | [x0, x1, x2], _ =>
          have e0 := hat 0 (by omega)
          have e1 := hat 1 (by omega)
          have e2 := hat 2 (by omega)
          simp only [add_mk] at e0 e1 e2
          exact ⟨t :: r, by simp [hr], by rw [cdsIn]; exact ⟨⟨b, off, x0, x1, x2, rfl, e0, e1, e2, ht⟩, hin⟩, by rw [List.drop_eq_getElem_cons hlt]; simp only [List.map_cons, Rows.uptoBulkAll, cdTs]; omega⟩
    obtain ⟨l, hl, hin, hsz⟩ := key len 0 (by omega)
    subst hl
    exact ⟨l, some a, cap, rfl, hlc, by unfold maxLen at hm; omega, hin, by subst hy; rw [List.drop_zero] at hsz; simp only [Rows.uptoBulk]; omega⟩
theorem ex_all (n : Nat) :
    (∀ (cs : List Value) (x : DataW H × List MemPlace), DataW.trod enc Try.prog w 0 (fun _ => true) true n 24 cs = some x → ∃ t, exIn w t (.agg ⟨cs⟩) ∧ exT t ≤ Rows.uptoBulk x.1) ∧
    (∀ (v : Value) (y : DataW H × List MemPlace), DataW.trod enc Try.prog w 0 (fun _ => true) true n 22 [v] = some y →
      ∃ (l : List Ex) (oa : Option Addr) (cap : Nat), v = .slice oa l.length cap ∧ l.length ≤ cap ∧ cap ≤ 9223372036854775807 ∧ exsIn w l oa 0 ∧ exTs l ≤ Rows.uptoBulk y.1) := by
  induction n using Nat.strongRecOn with
  | _ n ih => exact ⟨fun cs x h => ex_of h (fun m v y hm hy => (ih m hm).2 v y hy), fun v y h => exs_of h (fun m cs x hm hx => (ih m hm).1 cs x hx)⟩

theorem cd_all (n : Nat) :
    (∀ (cs : List Value) (x : DataW H × List MemPlace), DataW.trod enc Try.prog w 0 (fun _ => true) true n 27 cs = some x → ∃ t, cdIn w t (.agg ⟨cs⟩) ∧ cdT t ≤ Rows.uptoBulk x.1) ∧
    (∀ (v : Value) (y : DataW H × List MemPlace), DataW.trod enc Try.prog w 0 (fun _ => true) true n 25 [v] = some y →
      ∃ (l : List Cd) (oa : Option Addr) (cap : Nat), v = .slice oa l.length cap ∧ l.length ≤ cap ∧ cap ≤ 9223372036854775807 ∧ cdsIn w l oa 0 ∧ cdTs l ≤ Rows.uptoBulk y.1) := by
  induction n using Nat.strongRecOn with
  | _ n ih => exact ⟨fun cs x h => cd_of h (fun m v y _ hy => (ex_all m).2 v y hy) (fun m v y hm hy => (ih m hm).2 v y hy), fun v y h => cds_of h (fun m cs x hm hx => (ih m hm).1 cs x hx)⟩

/-- An argument that is an expression. -/
theorem open_ex {r : Reach} {b : Nat} {v : Value} {d : DataW H} {p : List MemPlace} (hv : Value.okWide Try.prog w r b 24 v) (h : DataW.Trod enc Try.prog w 0 (fun _ => true) true 24 v d p) : ∃ t, exIn w t v ∧ exT t ≤ Rows.uptoBulk d := by
  obtain ⟨cs, rfl, -⟩ := okWide_struct Try.underlying24 hv
  obtain ⟨n, hn⟩ := h
  exact (ex_all n).1 _ _ hn

/-- An argument that is a condition. -/
theorem open_cd {r : Reach} {b : Nat} {v : Value} {d : DataW H} {p : List MemPlace} (hv : Value.okWide Try.prog w r b 27 v) (h : DataW.Trod enc Try.prog w 0 (fun _ => true) true 27 v d p) : ∃ t, cdIn w t v ∧ cdT t ≤ Rows.uptoBulk d := by
  obtain ⟨cs, rfl, -⟩ := okWide_struct Try.underlying27 hv
  obtain ⟨n, hn⟩ := h
  exact (cd_all n).1 _ _ hn

theorem bulk_one (d : DataW H) : 1 ≤ Rows.uptoBulk d := by
  cases d with
  | lit l => cases l <;> simp [Rows.uptoBulk]
  | _ => simp [Rows.uptoBulk]
theorem bulk_length (l : List (DataW H)) : l.length ≤ Rows.uptoBulkAll l := by
  induction l with
  | nil => simp
  | cons x r ih => have := bulk_one x; simp only [Rows.uptoBulkAll, List.length_cons]; omega

/-- A list of numbers, read. -/
theorem ints_of {n : Nat} {v : Value} {y : DataW H × List MemPlace} (h : DataW.trod enc Try.prog w 0 (fun _ => true) true n 28 [v] = some y) : ∃ l, intsIn w l v ∧ l.length ≤ Rows.uptoBulk y.1 := by
  rcases open_ints Try.underlying28 Try.underlying3 (by kernel_rfl) h with ⟨hv, -⟩ | ⟨a, len, cap, zs, hv, -, hl, hm, hz, hy, hc, -⟩
  · simp only [List.cons.injEq, and_true] at hv
    subst hv
    exact ⟨[], ⟨none, 0, rfl, Nat.le_refl _, by omega, fun i hi => absurd hi (by simp)⟩, by simp⟩
  · simp only [List.cons.injEq, and_true] at hv
    subst hv
    simp only [if_true] at hz
    have hlen : (zs.take len).length = len := by rw [List.length_take]; omega
    refine ⟨zs.take len, ⟨some a, cap, by rw [hlen], by omega, by unfold maxLen at hm; omega, fun i hi => ?_⟩, ?_⟩
    rotate_left
    · have h1 : (lits (H := H) .i64 (zs.take len)).length = (zs.take len).length := by simp [lits]
      have h2 := bulk_length (lits (H := H) .i64 (zs.take len))
      subst hy
      simp only [Rows.uptoBulk]
      omega
    obtain ⟨b, off, rfl, hcell⟩ := ints_at hc (by omega)
    refine ⟨b, off, rfl, ?_⟩
    rw [hcell i (by omega)]
    congr 2
    simp only [List.getD_eq_getElem?_getD, List.getElem?_take, if_pos (show i < len by omega)]

/-- An argument that is a list of numbers. -/
theorem open_intl {r : Reach} {b : Nat} {v : Value} {d : DataW H} {p : List MemPlace} (hv : Value.okWide Try.prog w r b 28 v) (h : DataW.Trod enc Try.prog w 0 (fun _ => true) true 28 v d p) : ∃ l, intsIn w l v ∧ l.length ≤ Rows.uptoBulk d := by
  obtain ⟨a, len, cap, rfl⟩ := okWide_slice Try.underlying28 hv
  obtain ⟨n, hn⟩ := h
  exact ints_of hn
end
end Go.Proofs.Ytcjambgbbmffiaa

import Derived.Test.YtfoiadabppnibaaGy
import Derived.OpenShut
import Derived.ProofKit
import Derived.Carry
namespace Go.Proofs.Ytfoiadabppnibaa
open Go.RowKit Go.ChangeShapes Go.WideShapes Go.ChangeAt

/-! The end of a law's proof: it returned true, and of what was there nothing has changed. -/
theorem trodAll_below {H : Type} {enc : TypeId × Value → H} {P : Program} (hl : laidOutB P = true) {W W' : World} (hb : Below W.heap.size W W') :
    ∀ (ts : List TypeId) (vs : List Value) (ds : List (DataW H)) (ps : List MemPlace), ts.all (fun t => P.readableRec t && decide (t < P.types.size)) = true → (∀ x ∈ ps, x.block < W.heap.size) →
      DataW.TrodAll enc P W 0 (fun _ => true) true ts vs ds ps → DataW.TrodAll enc P W' 0 (fun b => decide (b < W.heap.size)) true ts vs ds ps := by
  intro ts
  induction ts with
  | nil => intro vs ds ps _ _ h; cases vs <;> cases ds <;> first | exact h | exact absurd h (by simp [DataW.TrodAll])
  | cons t ts ih =>
    intro vs ds ps hok hlt h
    cases vs with
    | nil => exact absurd h (by simp [DataW.TrodAll])
    | cons v vs =>
      cases ds with
      | nil => exact absurd h (by simp [DataW.TrodAll])
      | cons d ds =>
        obtain ⟨p, q, h1, h2, rfl⟩ := h
        simp only [List.all_cons, Bool.and_eq_true, decide_eq_true_eq] at hok
        exact ⟨p, q, Below.trod hl hok.1.1 hok.1.2 h1 hb (fun x hx => hlt x (List.mem_append_left _ hx)), ih vs ds q hok.2 (fun x hx => hlt x (List.mem_append_right _ hx)) h2, rfl⟩

theorem post_true {H : Type} {enc : TypeId × Value → H} {P : Program} {f : Func} {s : ChangeSpec} {apart : Bool} {T : TypeId} (hl : laidOutB P = true)
    (hpar : f.params.toList.all (fun t => P.readableRec t && decide (t < P.types.size)) = true) (hvars : s.vars = []) (hres : f.resultTypes = #[T]) (hT : P.underlying T = some .bool)
    {W W' : World} {args : Array Value} {ds : List (DataW H)} {before : List MemPlace} (hW : DataW.Whole enc P f.params.toList s.vars apart W args.toList ds [] before) (hb : Below W.heap.size W W')
    (hfn : s.fn H (ds ++ []) = { results := [.lit (.bool true)], args := ds }) : s.post enc P f apart true false false W args (.bool true) W' := by
  have hlt := fun x hx => hW.lt x hx
  have hW0 := hW
  obtain ⟨p, q, hA, hV, rfl, -, -⟩ := hW
  refine ⟨ds, [], p ++ q, [], p, [], hW0, ?_, ?_, ?_, hb.frame _, fun h => by cases h⟩
  · rw [hfn, hres]
    exact trodAll_mk1 (shut_bool hT true)
  · rw [hfn]
    exact trodAll_below hl hb _ _ _ _ hpar (fun x hx => hlt x (List.mem_append_left _ hx)) hA
  · rw [hfn, hvars]
    rfl

theorem own : ownKnob Try.prog.godebug = none := by kernel_rfl
theorem bdU {a : Int} (h : (Lit.int .u64 a).wf = true) : ∃ x : BitVec 64, a = (x.toNat : Int) := by
  have h1 : IntKind.u64.min ≤ a ∧ a ≤ IntKind.u64.max := by simpa [Lit.wf] using h
  have h2 : 0 ≤ a ∧ a ≤ 18446744073709551615 := h1
  exact ⟨BitVec.ofNat 64 a.toNat, by rw [BitVec.toNat_ofNat]; omega⟩
theorem eq_iff {a b c d : BitVec 64} (h : a = b ↔ c = d) : ((a.toNat : Int) == (b.toNat : Int)) = ((c.toNat : Int) == (d.toNat : Int)) := by
  by_cases e : c = d
  · rw [h.2 e, e]; simp
  · have e2 : ¬ a = b := fun k => e (h.1 k)
    have f1 : ((a.toNat : Int) == (b.toNat : Int)) = false := by simp; exact fun k => e2 (BitVec.eq_of_toNat_eq (by omega))
    have f2 : ((c.toNat : Int) == (d.toNat : Int)) = false := by simp; exact fun k => e (BitVec.eq_of_toNat_eq (by omega))
    rw [f1, f2]
theorem eq_iff' {a b : BitVec 64} {c d : Int} (h : a = b ↔ c = d) : ((b.toNat : Int) == (a.toNat : Int)) = (c == d) := by
  by_cases e : c = d
  · rw [h.2 e, e]; simp
  · have e2 : ¬ a = b := fun k => e (h.1 k)
    have f1 : ((b.toNat : Int) == (a.toNat : Int)) = false := by simp; exact fun k => e2 (BitVec.eq_of_toNat_eq (by omega))
    have f2 : (c == d) = false := by simp; exact e
    rw [f1, f2]
theorem bd64 {a : Int} (h : (Lit.int .i64 a).wf = true) : -9223372036854775808 ≤ a ∧ a ≤ 9223372036854775807 := by
  have h1 : IntKind.i64.min ≤ a ∧ a ≤ IntKind.i64.max := by simpa [Lit.wf] using h
  exact h1
theorem bdB {a : Int} (h : (Lit.int .u8 a).wf = true) : ∃ x : UInt8, a = (x.toNat : Int) := by
  have h1 : IntKind.u8.min ≤ a ∧ a ≤ IntKind.u8.max := by simpa [Lit.wf] using h
  have h2 : 0 ≤ a ∧ a ≤ 255 := h1
  refine ⟨UInt8.ofNat a.toNat, ?_⟩
  simp
  omega

/-! Slices that come in. -/
section
variable {H : Type} {enc : TypeId × Value → H} {w : World}
theorem addr_plain {a : Addr} {v : Value} (h : w.cell? a = some v) : ∃ b off, a = ⟨b, off, none⟩ := by
  obtain ⟨b, off, spot⟩ := a
  have := World.cell?_spot h
  simp only at this
  subst this
  exact ⟨b, off, rfl⟩
theorem open_intl {r : Reach} {b : Nat} {v : Value} {d : DataW H} {p : List MemPlace} (hv : Value.okWide Try.prog w r b 22 v) (h : DataW.Trod enc Try.prog w 0 (fun _ => true) true 22 v d p) :
    ∃ l : List Int, ∃ pa c, v = .slice pa l.length c ∧ (l.length ≤ 1000000 → IntsAt w (.slice pa l.length c) l) ∧ (∀ z ∈ l, -9223372036854775808 ≤ z ∧ z ≤ 9223372036854775807) ∧ l.length ≤ c ∧ c ≤ 9223372036854775807 := by
  obtain ⟨a, len, cap, rfl⟩ := okWide_slice Try.underlying22 hv
  obtain ⟨n, hn⟩ := h
  have c1 : Try.prog.cellsOf 3 = 1 := by kernel_rfl
  rcases open_ints Try.underlying22 Try.underlying3 c1 hn with ⟨hcs, hx⟩ | ⟨ad, len', cap', zs, hcs, -, hl, hm, hz, hx, hcell, hwz⟩
  · simp [Value.cells] at hcs
    obtain ⟨rfl, rfl, rfl⟩ := hcs
    exact ⟨[], none, 0, rfl, fun h => ⟨h, none, 0, rfl, fun _ => rfl, fun h0 => absurd rfl h0⟩, (fun z hz => by cases hz), Nat.le_refl _, by omega⟩
  · simp [Value.cells] at hcs
    obtain ⟨rfl, rfl, rfl⟩ := hcs
    simp at hz
    refine ⟨zs.take len, some ad, cap, by rw [List.length_take, Nat.min_eq_left (by omega)], fun h => ⟨h, some ad, cap, rfl, (fun h => by cases h), fun h0 => ?_⟩, fun z hz' => ?_, by rw [List.length_take]; omega, by unfold maxLen at hm; omega⟩
    · have hpos : 0 < len := by rw [List.length_take] at h0; omega
      have h00 := hcell 0 (by omega)
      have hadd : ad.add 0 = ad := by simp [Addr.add]
      rw [hadd] at h00
      obtain ⟨b, o, rfl⟩ := addr_plain h00
      refine ⟨b, o, rfl, fun i hi => ?_⟩
      rw [List.length_take] at hi
      have h1 := hcell i (by omega)
      have e1 : (⟨b, o, none⟩ : Addr).add i = ⟨b, o + i, none⟩ := by first | (simp [Addr.add]; done) | (simp [Addr.add]; omega)
      rw [e1] at h1
      rw [h1]
      simp [List.getD, List.getElem?_take_of_lt (show i < len by omega)]
    · have := hwz z (List.mem_of_mem_take hz')
      have h1 : IntKind.i64.min ≤ z ∧ z ≤ IntKind.i64.max := by simpa [Lit.wf] using this
      exact h1
theorem open_bytesl {r : Reach} {b : Nat} {v : Value} {d : DataW H} {p : List MemPlace} (hv : Value.okWide Try.prog w r b 23 v) (h : DataW.Trod enc Try.prog w 0 (fun _ => true) true 23 v d p) :
    ∃ l : List UInt8, ∃ pa c, v = .slice pa l.length c ∧ l.length ≤ c ∧ c ≤ 9223372036854775807 ∧ (l.length ≤ 1000000 → BytesAt w (.slice pa l.length c) l) := by
  obtain ⟨a, len, cap, rfl⟩ := okWide_slice Try.underlying23 hv
  obtain ⟨n, hn⟩ := h
  have c1 : Try.prog.cellsOf 5 = 1 := by kernel_rfl
  rcases open_ints Try.underlying23 Try.underlying5 c1 hn with ⟨hcs, hx⟩ | ⟨ad, len', cap', zs, hcs, -, hl, hm, hz, hx, hcell, hwz⟩
  · simp [Value.cells] at hcs
    obtain ⟨rfl, rfl, rfl⟩ := hcs
    exact ⟨[], none, 0, rfl, Nat.le_refl _, by omega, fun h => ⟨h, none, 0, rfl, Nat.le_refl _, by omega, fun _ => rfl, fun h0 => absurd rfl h0⟩⟩
  · simp [Value.cells] at hcs
    obtain ⟨rfl, rfl, rfl⟩ := hcs
    simp at hz
    have hlen : ((zs.take len).map fun z => UInt8.ofNat z.toNat).length = len := by rw [List.length_map, List.length_take, Nat.min_eq_left (by omega)]
    have hm' : cap ≤ 9223372036854775807 := by unfold maxLen at hm; omega
    refine ⟨(zs.take len).map fun z => UInt8.ofNat z.toNat, some ad, cap, by rw [hlen], by rw [hlen]; omega, hm', fun h => ⟨h, some ad, cap, rfl, by rw [hlen]; omega, hm', (fun h => by cases h), fun h0 => ?_⟩⟩
    rw [hlen] at h0
    have h00 := hcell 0 (by omega)
    have hadd : ad.add 0 = ad := by simp [Addr.add]
    rw [hadd] at h00
    obtain ⟨b, o, rfl⟩ := addr_plain h00
    refine ⟨b, o, rfl, fun i hi => ?_⟩
    rw [hlen] at hi
    have h1 := hcell i (by omega)
    have e1 : (⟨b, o, none⟩ : Addr).add i = ⟨b, o + i, none⟩ := by first | (simp [Addr.add]; done) | (simp [Addr.add]; omega)
    rw [e1] at h1
    rw [h1]
    have hz2 := hwz (zs[i]'(by omega)) (List.getElem_mem _)
    have h2 : IntKind.u8.min ≤ zs[i]'(by omega) ∧ zs[i]'(by omega) ≤ IntKind.u8.max := by simpa [Lit.wf] using hz2
    have h3 : 0 ≤ zs[i]'(by omega) ∧ zs[i]'(by omega) ≤ 255 := h2
    simp [List.getD, List.getElem?_eq_getElem (show i < zs.length by omega)]
    omega
end
end Go.Proofs.Ytfoiadabppnibaa

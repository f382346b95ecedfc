import Derived.Test.YtcjambgbbmffiaaExa
namespace Go.Proofs.Ytcjambgbbmffiaa
open Go.RowKit Go.Instr
set_option linter.unusedVariables false

/-! 'paroleref01.Size', 'SizeC': they return some number. -/
def IntPost (w : World) (e : Ending) (w' : World) : Prop := ∃ z : Int, e = .returned (.int .i64 z) ∧ Below w.heap.size w w'

/-- What 'Size' leaves for this expression. -/
def SizeOk (t : Ex) : Prop := ∀ (x : Value) (w : World), exIn w t x → Calls Try.prog 6 #[x] w (IntPost w)

set_option maxRecDepth 100000 in
set_option maxHeartbeats 400000 in
theorem size_step (op n v : Int) (l : List Ex) (IH : ∀ t, t ∈ l → SizeOk t) : SizeOk (.mk op n v l) := by
  intro x w hx
  rw [exIn] at hx
  obtain ⟨oa, cap, rfl, hl, hm, hxs⟩ := hx
  have HI := hid IH; clear IH
  have hc3 : (w.alloc (.cells #[.int .i64 op, .int .i64 n, .int .i64 v, .slice oa l.length cap] 24)).cell? ⟨w.heap.size, 3, none⟩ = some (.slice oa l.length cap) := by simp [go_sem]
  have hb0 : Below w.heap.size w (w.alloc (.cells #[.int .i64 op, .int .i64 n, .int .i64 v, .slice oa l.length cap] 24)) := (Below.refl _ _).alloc (Nat.le_refl _) _
  have Hxs := hid (exsIn_below hb0 l oa 0 hxs); clear hxs
  obtain ⟨len, hlen⟩ : ∃ len, l.length = len := ⟨_, rfl⟩
  rw [hlen] at hc3 hb0 hl Hxs ⊢
  have Hl := hid hlen; clear hlen
  obtain ⟨w0, hw0⟩ : ∃ w0, w.alloc (.cells #[.int .i64 op, .int .i64 n, .int .i64 v, .slice oa len cap] 24) = w0 := ⟨_, rfl⟩
  rw [hw0] at hc3 hb0 Hxs
  have Hw := hid hw0; clear hw0
  have Hc3 := hid hc3; clear hc3
  have Hb0 := hid hb0; clear hb0
  have hwlt : w.heap.size < w0.heap.size := by rw [← Hw.out]; simp
  go_enter Try.func6, Try.ntmps6
  go_wp2_with fail
  rw [Hw.out]
  go_loopw [3, 4] (fun s i wr => ∃ (k : Nat) (z : Int), k ≤ len ∧ i = .int .i64 k ∧ s = .int .i64 z ∧ Below w0.heap.size w0 wr) (fun _ i _ => len - (intOf i).toNat)
  case atStart => exact ⟨0, 1, Nat.zero_le _, rfl, rfl, Below.refl _ _⟩
  case round =>
    obtain ⟨k, z, hk, rfl, rfl, hb⟩ := hrel
    have c3 := cell_below hb Hc3.out
    by_cases hlt : k < len
    · obtain ⟨t, ht⟩ : ∃ t, l[k]? = some t := ⟨_, List.getElem?_eq_getElem (by have := Hl.out; omega)⟩
      obtain ⟨b, off, rfl, hall⟩ := exsIn_all Hxs.out (by intro h; subst h; have := Hl.out; simp at this; omega)
      obtain ⟨o', n', v', a', ln', cp', c0, c1, c2, c4, hin⟩ := hall k t ht
      have hti := fun W hB => HI.out t (List.mem_of_getElem? ht) _ W (exIn_below hB _ _ hin)
      have e0 := cell_below hb c0
      have e1 := cell_below hb c1
      have e2 := cell_below hb c2
      have e3 := cell_below hb c4
      have Hti := hid hti; clear hti
      clear c0 c1 c2 c4 hin ht hall
      have hklt : (k : Int) < (len : Int) := by omega
      go_wp2_with fail
      refine (Hti.out _ hb).mono ?_
      rintro e w2 ⟨z2, rfl, hb2⟩
      have hbb := hid (below_step hb hb2)
      clear hb hb2 e0 e1 e2 e3 c3
      go_wp2
      go_roundw
      case rel => exact ⟨k + 1, _, by omega, by go_num, rfl, hbb.out⟩
      case measure => simp [intOf]; omega
    · have hkl : k = len := by omega
      subst hkl
      go_wp2
      go_ret
      exact ⟨_, rfl, below_step Hb0.out hb⟩

mutual
theorem size_any : ∀ t, SizeOk t
  | .mk op n v l => size_step op n v l (sizes_any l)
theorem sizes_any : ∀ (l : List Ex) (t : Ex), t ∈ l → SizeOk t
  | [], _, h => by cases h
  | u :: _, _, .head _ => size_any u
  | _ :: r, t, .tail _ h => sizes_any r t h
end
end Go.Proofs.Ytcjambgbbmffiaa

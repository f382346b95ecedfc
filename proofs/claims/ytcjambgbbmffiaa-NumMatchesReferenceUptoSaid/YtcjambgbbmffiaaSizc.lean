import Derived.Test.YtcjambgbbmffiaaSize
namespace Go.Proofs.Ytcjambgbbmffiaa
open Go.RowKit Go.Instr
set_option linter.unusedVariables false

/-- What 'SizeC' leaves for this condition. -/
def SizeCOk (t : Cd) : Prop := ∀ (x : Value) (w : World), cdIn w t x → Calls Try.prog 7 #[x] w (IntPost w)

set_option maxRecDepth 100000 in
set_option maxHeartbeats 1000000 in
theorem sizec_step (op : Int) (l : List Ex) (r : List Cd) (IH : ∀ t, t ∈ r → SizeCOk t) : SizeCOk (.mk op l r) := by
  intro x w hx
  rw [cdIn] at hx
  obtain ⟨oa, ob, ca, cb, rfl, hl, hm, hxs, hl2, hm2, hcs⟩ := hx
  have HI := hid IH; clear IH
  have hc1 : (w.alloc (.cells #[.int .i64 op, .slice oa l.length ca, .slice ob r.length cb] 27)).cell? ⟨w.heap.size, 1, none⟩ = some (.slice oa l.length ca) := by simp [go_sem]
  have hc2 : (w.alloc (.cells #[.int .i64 op, .slice oa l.length ca, .slice ob r.length cb] 27)).cell? ⟨w.heap.size, 2, none⟩ = some (.slice ob r.length cb) := by simp [go_sem]
  have hb0 : Below w.heap.size w (w.alloc (.cells #[.int .i64 op, .slice oa l.length ca, .slice ob r.length cb] 27)) := (Below.refl _ _).alloc (Nat.le_refl _) _
  have Hxs := hid (exsIn_below hb0 l oa 0 hxs); clear hxs
  have Hcs := hid (cdsIn_below hb0 r ob 0 hcs); clear hcs
  obtain ⟨len, hlen⟩ : ∃ len, l.length = len := ⟨_, rfl⟩
  obtain ⟨len2, hlen2⟩ : ∃ len, r.length = len := ⟨_, rfl⟩
  rw [hlen] at hl
  rw [hlen2] at hl2
  rw [hlen, hlen2] at hc1 hc2 hb0 Hxs Hcs ⊢
  have Hl := hid hlen; clear hlen
  have Hl2 := hid hlen2; clear hlen2
  obtain ⟨w0, hw0⟩ : ∃ w0, w.alloc (.cells #[.int .i64 op, .slice oa len ca, .slice ob len2 cb] 27) = w0 := ⟨_, rfl⟩
  rw [hw0] at hc1 hc2 hb0 Hxs Hcs
  have Hw := hid hw0; clear hw0
  have Hc1 := hid hc1; clear hc1
  have Hc2 := hid hc2; clear hc2
  have Hb0 := hid hb0; clear hb0
  have hwlt : w.heap.size < w0.heap.size := by rw [← Hw.out]; simp
  go_enter Try.func7, Try.ntmps7
  go_wp2_with fail
  rw [Hw.out]
  go_loopw [3, 4] (fun s i wr => ∃ (k : Nat) (z : Int), k ≤ len ∧ i = .int .i64 k ∧ s = .int .i64 z ∧ Below w0.heap.size w0 wr) (fun _ i _ => len - (intOf i).toNat)
  case atStart => exact ⟨0, 1, Nat.zero_le _, rfl, rfl, Below.refl _ _⟩
  case round =>
    obtain ⟨k, z, hk, rfl, rfl, hb⟩ := hrel
    have c1 := cell_below hb Hc1.out
    by_cases hlt : k < len
    · obtain ⟨t, ht⟩ : ∃ t, l[k]? = some t := ⟨_, List.getElem?_eq_getElem (by have := Hl.out; omega)⟩
      obtain ⟨b, off, rfl, hall⟩ := exsIn_all Hxs.out (by intro h; subst h; have := Hl.out; simp at this; omega)
      obtain ⟨o', n', v', a', ln', cp', c0, d1, d2, d3, hin⟩ := hall k t ht
      have hti := fun W hB => size_any t _ W (exIn_below hB _ _ hin)
      have e0 := cell_below hb c0
      have e1 := cell_below hb d1
      have e2 := cell_below hb d2
      have e3 := cell_below hb d3
      have Hti := hid hti; clear hti
      clear c0 d1 d2 d3 hin ht hall
      have hklt : (k : Int) < (len : Int) := by omega
      go_wp2_with fail
      refine (Hti.out _ hb).mono ?_
      rintro e w2 ⟨z2, rfl, hb2⟩
      have hbb := hid (below_step hb hb2)
      clear hb hb2 e0 e1 e2 e3 c1
      go_wp2
      go_roundw
      case rel => exact ⟨k + 1, _, by omega, by go_num, rfl, hbb.out⟩
      case measure => simp [intOf]; omega
    · have hkl : k = len := by omega
      subst hkl
      clear hlt
      go_wp2_with fail
      have hb' := hid hb; clear hb c1
      go_loopw [3, 5] (fun s i wr => ∃ (j : Nat) (z : Int), j ≤ len2 ∧ i = .int .i64 j ∧ s = .int .i64 z ∧ Below w0.heap.size w0 wr) (fun _ i _ => len2 - (intOf i).toNat)
      case atStart => exact ⟨0, z, Nat.zero_le _, rfl, rfl, hb'.out⟩
      case round =>
        obtain ⟨j, z, hj, rfl, rfl, hb⟩ := hrel
        have c2 := cell_below hb Hc2.out
        by_cases hlt : j < len2
        · obtain ⟨t, ht⟩ : ∃ t, r[j]? = some t := ⟨_, List.getElem?_eq_getElem (by have := Hl2.out; omega)⟩
          obtain ⟨b, off, rfl, hall⟩ := cdsIn_all Hcs.out (by intro h; subst h; have := Hl2.out; simp at this; omega)
          obtain ⟨o', a', a2', ln', cp', ln2', cp2', c0, d1, d2, hin⟩ := hall j t ht
          have hti := fun W hB => HI.out t (List.mem_of_getElem? ht) _ W (cdIn_below hB _ _ hin)
          have e0 := cell_below hb c0
          have e1 := cell_below hb d1
          have e2 := cell_below hb d2
          have Hti := hid hti; clear hti
          clear c0 d1 d2 hin ht hall
          have hjlt : (j : Int) < (len2 : Int) := by omega
          go_wp2_with fail
          refine (Hti.out _ hb).mono ?_
          rintro e w2 ⟨z2, rfl, hb2⟩
          have hbb := hid (below_step hb hb2)
          clear hb hb2 e0 e1 e2 c2
          go_wp2
          go_roundw
          case rel => exact ⟨j + 1, _, by omega, by go_num, rfl, hbb.out⟩
          case measure => simp [intOf]; omega
        · have hjl : j = len2 := by omega
          subst hjl
          go_wp2
          go_ret
          exact ⟨_, rfl, below_step Hb0.out hb⟩

mutual
theorem sizec_any : ∀ t, SizeCOk t
  | .mk op l r => sizec_step op l r (sizecs_any r)
theorem sizecs_any : ∀ (l : List Cd) (t : Cd), t ∈ l → SizeCOk t
  | [], _, h => by cases h
  | u :: _, _, .head _ => sizec_any u
  | _ :: r, t, .tail _ h => sizecs_any r t h
end
end Go.Proofs.Ytcjambgbbmffiaa

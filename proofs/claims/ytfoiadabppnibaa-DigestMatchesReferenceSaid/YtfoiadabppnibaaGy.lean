import Derived.Test.YtfoiadabppnibaaGn
namespace Go.Proofs.Ytfoiadabppnibaa
open Go.RowKit Go.Instr
set_option linter.unusedVariables false

/-! 'digest.Bytes'. -/
/-- Bytes in memory. -/
def BytesAt (w : World) (v : Value) (l : List UInt8) : Prop := l.length ≤ 1000000 ∧ ∃ p c, v = .slice p l.length c ∧ l.length ≤ c ∧ c ≤ 9223372036854775807 ∧ (p = none → c = 0) ∧ (l.length ≠ 0 → ∃ b o, p = some ⟨b, o, none⟩ ∧ ∀ i (hi : i < l.length), w.cell? ⟨b, o + i, none⟩ = some (.int .u8 (l[i].toNat : Int)))
theorem BytesAt.below {w w' : World} {v : Value} {l : List UInt8} (h : BytesAt w v l) (hb : Below w.heap.size w w') : BytesAt w' v l := by
  obtain ⟨hm, p, c, rfl, c1, c2, hpn, h2⟩ := h
  refine ⟨hm, p, c, rfl, c1, c2, hpn, fun h0 => ?_⟩
  obtain ⟨b, o, rfl, h3⟩ := h2 h0
  exact ⟨b, o, rfl, fun i hi => cell_below hb (h3 i hi)⟩
def vals8 (l : List UInt8) : List Value := l.map fun c => .int .u8 (c.toNat : Int)
def lenOf : Value → Nat
  | .slice _ n _ => n
  | _ => 0
theorem eight (l : List UInt8) (h : l.length = 8) : ∃ b0 b1 b2 b3 b4 b5 b6 b7 : UInt8, l = [b0, b1, b2, b3, b4, b5, b6, b7] := by
  match l, h with
  | [b0, b1, b2, b3, b4, b5, b6, b7], _ => exact ⟨_, _, _, _, _, _, _, _, rfl⟩
theorem group_of (l : List UInt8) (h : l.length ≤ 8) : ∃ b0 b1 b2 b3 b4 b5 b6 b7 : UInt8, splice [.int .u8 0, .int .u8 0, .int .u8 0, .int .u8 0, .int .u8 0, .int .u8 0, .int .u8 0, .int .u8 0] 0 (vals8 l) = vals8 [b0, b1, b2, b3, b4, b5, b6, b7] ∧ numL [b0, b1, b2, b3, b4, b5, b6, b7] = numL l := by
  obtain ⟨b0, b1, b2, b3, b4, b5, b6, b7, hb⟩ := eight (l ++ List.replicate (8 - l.length) 0) (by simp; omega)
  refine ⟨b0, b1, b2, b3, b4, b5, b6, b7, ?_, ?_⟩
  · rw [← hb, show ([.int .u8 0, .int .u8 0, .int .u8 0, .int .u8 0, .int .u8 0, .int .u8 0, .int .u8 0, .int .u8 0] : List Value) = List.replicate 8 (.int .u8 0) from rfl]
    simp only [splice, List.take_zero, List.nil_append, List.drop_replicate, vals8, List.map_append, List.map_replicate, List.length_map, Nat.zero_add]
    rfl
  · rw [← hb, numL_zeros]
theorem u8One (l : List UInt8) : ∀ v ∈ vals8 l, v.oneCell' = true := by
  intro v hv
  obtain ⟨c, -, rfl⟩ := List.mem_map.1 hv
  rfl
theorem numV (l : List UInt8) (h : l.length ≤ 8) : ((numL l : Nat) : Int) = ((BitVec.ofNat 64 (numL l)).toNat : Int) := by
  rw [BitVec.toNat_ofNat, Nat.mod_eq_of_lt (numL_lt8 l h)]

theorem min_or (a b : Nat) : Nat.min a b = a ∨ Nat.min a b = b := by
  rcases Nat.le_total a b with h | h
  · exact Or.inl (Nat.min_eq_left h)
  · exact Or.inr (Nat.min_eq_right h)
theorem bytes_next {w w3 : World} {rest : List UInt8} {b o c m : Nat} (hc : ∀ i (hi : i < rest.length), w.cell? ⟨b, o + i, none⟩ = some (.int .u8 (rest[i].toNat : Int))) (hb : Below w.heap.size w w3) (hm : rest.length ≤ 1000000) (h1 : rest.length ≤ c) (h2 : c ≤ 9223372036854775807)
    (hlt : m ≤ 8) (h3 : m = rest.length ∨ m = 8) : BytesAt w3 (.slice (if c = m then some ⟨b, o, none⟩ else some ⟨b, o + m, none⟩) (rest.length - m) (c - m)) (rest.drop 8) := by
  have hl : (rest.drop 8).length = rest.length - 8 := List.length_drop
  have hl2 : rest.length - m = rest.length - 8 := by omega
  refine ⟨by omega, _, _, by rw [hl2, hl], by omega, by omega, (fun h => by split at h <;> cases h), fun h0 => ?_⟩
  have hm8 : m = 8 := by omega
  subst hm8
  rw [if_neg (by omega)]
  refine ⟨b, o + 8, rfl, fun i hi => ?_⟩
  have := cell_below hb (hc (8 + i) (by omega))
  rw [show o + 8 + i = o + (8 + i) by omega, this]
  simp
set_option maxHeartbeats 4000000 in
theorem bytes_any (v : Value) (l : List UInt8) (w : World) (hv : BytesAt w v l) :
    Calls Try.prog 12 #[v] w fun e w' => e = .returned (.int .u64 ((bytesB l).toNat : Int)) ∧ Below w.heap.size w w' := by
  have hv0 := hid hv
  obtain ⟨hm, p, c, rfl, c1, c2, hpn, h2⟩ := hv
  have C0 := hid (fun W => step_v (a := 1376283091369227076) (b := (l.length : Int)) (h := c4) (x := BitVec.ofNat 64 l.length) rfl (lenV _ hm) W)
  clear h2 hpn
  go_enter Try.func12, Try.ntmps12
  go_wp2_with fail
  refine (C0.out _).mono ?_
  rintro e w1 ⟨rfl, rfl⟩
  go_wp2_with fail
  go_loopw [0, 3] (fun v h wr => ∃ (rest : List UInt8) (hh : BitVec 64), Hid (BytesAt wr v rest) ∧ h = .int .u64 (hh.toNat : Int) ∧ Hid (stepsB hh (groupsF rest.length rest) = bytesB l) ∧ Hid (Below w.heap.size w wr)) (fun v _ _ => lenOf v)
  case atStart => exact ⟨l, _, hv0, rfl, hid rfl, hid (Below.refl _ _)⟩
  case round =>
    obtain ⟨rest, hh, HV, rfl, HS, HB⟩ := hrel
    obtain ⟨rm, rp, rc, rfl, rc1, rc2, rpn, rh⟩ := HV.out
    clear HV hv0 C0 c1 c2 hm rpn
    by_cases h0 : rest.length = 0
    · obtain rfl := List.eq_nil_of_length_eq_zero h0
      clear rh rm
      go_wp2_with fail
      go_ret
      exact ⟨ret_int (by rw [← HS.out]; rfl), HB.out⟩
    · obtain ⟨b, o, rfl, hc⟩ := rh h0
      have HC := hid hc
      clear hc rh
      obtain ⟨b0, b1, b2, b3, b4, b5, b6, b7, g1, g2⟩ := group_of (rest.take 8) (by simp; omega)
      obtain ⟨cs, hcs⟩ : ∃ cs, vals8 (rest.take 8) = cs := ⟨_, rfl⟩
      rw [hcs] at g1
      have hcl : cs.length = Nat.min rest.length 8 := by rw [← hcs]; simp [vals8, Nat.min_comm]
      have k1 : 0 < cs.length → (some ⟨wr.heap.size, 0, none⟩ : Option Addr) = some ⟨wr.heap.size, 0, none⟩ ∧ ∃ ad, (some ⟨b, o, none⟩ : Option Addr) = some ad ∧ ∀ j v, cs[j]? = some v → (wr.alloc (.cells #[.int .u8 0, .int .u8 0, .int .u8 0, .int .u8 0, .int .u8 0, .int .u8 0, .int .u8 0, .int .u8 0] 41)).cell? (ad.add j) = some v := by
        intro _
        refine ⟨rfl, _, rfl, fun j v hj => ?_⟩
        have hj2 : j < (rest.take 8).length := by
          have := (List.getElem?_eq_some_iff.1 hj).1
          rw [← hcs] at this
          simpa [vals8] using this
        have hj3 : j < rest.length := by simp at hj2; omega
        have hv : v = .int .u8 (rest[j].toNat : Int) := by
          have e0 : (vals8 (rest.take 8))[j]? = some (.int .u8 (rest[j].toNat : Int)) := by
            unfold vals8
            rw [List.getElem?_map, List.getElem?_eq_getElem hj2]
            simp
          rw [hcs, hj] at e0
          exact Option.some.inj e0
        rw [hv]
        have e1 : (⟨b, o, none⟩ : Addr).add j = ⟨b, o + j, none⟩ := by first | (simp [Addr.add]; done) | (simp [Addr.add]; omega)
        rw [e1]
        exact cell_below (below_a (Below.refl _ _) _) (HC.out j hj3)
      have k2 : 0 + cs.length ≤ ([.int .u8 0, .int .u8 0, .int .u8 0, .int .u8 0, .int .u8 0, .int .u8 0, .int .u8 0, .int .u8 0] : List Value).length := by rw [hcl, Nat.zero_add]; exact Nat.min_le_right _ _
      have k3 : ∀ v ∈ cs, v.oneCell' = true := by rw [← hcs]; exact u8One _
      have G1 := hid g1
      have G2 := hid g2
      have CS := hid hcs
      have CL := hid hcl
      have K1 := hid k1
      have K2 := hid k2
      have K3 := hid k3
      clear g1 g2 hcs hcl k1 k2 k3
      have hlt : 0 < rest.length := by omega
      go_wp2_with (with_reducible refine wpList_copy_splice rfl (.tmp 13) (.tmp 14) 23 23 rfl 5 Try.underlying23 (by kernel_rfl) (some ⟨wr.heap.size, 0, none⟩) (some ⟨b, o, none⟩) 8 8 rest.length rc rfl rfl wr.heap.size 0 [.int .u8 0, .int .u8 0, .int .u8 0, .int .u8 0, .int .u8 0, .int .u8 0, .int .u8 0, .int .u8 0] 41 (heap_new _ _) cs CL.out K1.out K2.out K3.out wr.heap.size wr (below_a (Below.refl _ _) _) (Nat.le_refl _) ?_)
      intro w2 HG2 hB2
      have hB2 := hid hB2
      obtain ⟨m, hm⟩ : ∃ m, cs.length = m := ⟨_, rfl⟩
      rw [hm]
      have hg : w2.heap[wr.heap.size]? = some (.cells (vals8 [b0, b1, b2, b3, b4, b5, b6, b7]).toArray 41 (0, 0)) := by rw [← G1.out]; exact HG2.out
      have HG := hid hg
      clear hg HG2
      have m1 : m ≤ rest.length := by rw [← hm, CL.out]; exact Nat.min_le_left _ _
      have m2 : m ≤ 8 := by rw [← hm, CL.out]; exact Nat.min_le_right _ _
      have M3 := hid (show m = rest.length ∨ m = 8 by rw [← hm, CL.out]; exact min_or _ _)
      have HM := hid hm
      clear hm
      go_wp2_with (with_reducible refine wpList_load_row rfl 41 (.tmp 4) rfl wr.heap.size rfl 41 _ (0, 0) _ HG.out Try.underlying41 rfl (by kernel_rfl) ?_)
      refine (number_any b0 b1 b2 b3 b4 b5 b6 b7 _).mono ?_
      rintro e w3 ⟨rfl, hb⟩
      have B3 := hid (hB2.out.trans (hb.mono hB2.out.size)); clear hb
      go_wp2_with fail
      refine (step_v rfl (by rw [G2.out]; exact numV _ (by simp; omega)) _).mono ?_
      rintro e w4 ⟨rfl, rfl⟩
      go_wp2_with fail
      go_roundw
      case rel => exact ⟨rest.drop 8, _, hid (bytes_next HC.out B3.out rm rc1 rc2 m2 M3.out), rfl, hid (by rw [← HS.out, groups_step rest h0]; rfl), hid (below_step HB.out B3.out)⟩
      case measure => have hm0 := M3.out; simp [lenOf]; omega
end Go.Proofs.Ytfoiadabppnibaa

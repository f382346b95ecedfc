import Derived.Test.YtfoiadabppnibaaGe
namespace Go.Proofs.Ytfoiadabppnibaa
open Go.RowKit Go.Instr
set_option linter.unusedVariables false

/-! 'Words', of both packages. -/
theorem cell_below {w w' : World} (h : Below w.heap.size w w') {a : Addr} {x : Value} (hc : w.cell? a = some x) : w'.cell? a = some x := by
  have hlt : a.block < w.heap.size := by
    rcases Nat.lt_or_ge a.block w.heap.size with h' | h'
    · exact h'
    · simp [World.cell?, Array.getElem?_eq_none h'] at hc
  rw [h.cell hlt]; exact hc
/-- A list of integers in memory. -/
def IntsAt (w : World) (v : Value) (l : List Int) : Prop := l.length ≤ 1000000 ∧ ∃ p c, v = .slice p l.length c ∧ (p = none → c = 0) ∧ (l.length ≠ 0 → ∃ b o, p = some ⟨b, o, none⟩ ∧ ∀ i, i < l.length → w.cell? ⟨b, o + i, none⟩ = some (.int .i64 (l.getD i 0)))
theorem IntsAt.below {w w' : World} {v : Value} {l : List Int} (h : IntsAt w v l) (hb : Below w.heap.size w w') : IntsAt w' v l := by
  obtain ⟨hm, p, c, rfl, hpn, h2⟩ := h
  refine ⟨hm, p, c, rfl, hpn, fun h0 => ?_⟩
  obtain ⟨b, o, rfl, h3⟩ := h2 h0
  exact ⟨b, o, rfl, fun i hi => cell_below hb (h3 i hi)⟩
theorem step_v {a b : Int} {h x : BitVec 64} (ea : a = (h.toNat : Int)) (eb : b = (x.toNat : Int)) (w : World) : Calls Try.prog 17 #[.int .u64 a, .int .u64 b] w fun e w' => e = .returned (.int .u64 ((stepB h x).toNat : Int)) ∧ w = w' := by subst ea; subst eb; exact step_any h x w
theorem u64Of (z : Int) : IntKind.u64.wrap z = ((BitVec.ofInt 64 z).toNat : Int) := by
  rw [IntKind.wrap_u64, BitVec.toNat_ofInt]
  omega
theorem lenV (n : Nat) (h : n ≤ 1000000) : (n : Int) = ((BitVec.ofNat 64 n).toNat : Int) := by
  rw [BitVec.toNat_ofNat]; omega
theorem steps_take (h : BitVec 64) (l : List Int) (k : Nat) (hk : k < l.length) : stepB (stepsB h ((l.take k).map (BitVec.ofInt 64))) (BitVec.ofInt 64 (l[k]?.getD 0)) = stepsB h ((l.take (k + 1)).map (BitVec.ofInt 64)) := by
  rw [List.take_succ_eq_append_getElem hk, List.map_append, List.map_cons, List.map_nil, steps_snoc]
  simp [List.getElem?_eq_getElem hk]

set_option maxHeartbeats 1000000 in
theorem words_any (v : Value) (l : List Int) (w : World) (hv : IntsAt w v l) :
    Calls Try.prog 11 #[v] w fun e w' => e = .returned (.int .u64 ((wordsB l).toNat : Int)) ∧ w = w' := by
  obtain ⟨hm, p, c, rfl, hpn, h2⟩ := hv
  clear hpn
  by_cases h0 : l.length = 0
  · obtain rfl := List.eq_nil_of_length_eq_zero h0
    clear h2
    have C := hid (fun W => step_v (a := 2611923443488327891) (b := 0) (h := c3) (x := 0#64) rfl rfl W)
    go_enter Try.func11, Try.ntmps11
    go_wp2_with fail
    refine (C.out _).mono ?_
    rintro e w1 ⟨rfl, rfl⟩
    go_wp2_with fail
    go_loop [3, 12] (fun x i => x = .int .u64 ((stepB c3 0#64).toNat : Int) ∧ i = .int .i64 ((0 : Nat) : Int)) (fun _ i => 0)
    case atStart => exact ⟨rfl, rfl⟩
    case round =>
      obtain ⟨rfl, rfl⟩ := hrel
      go_wp2_with fail
      go_ret
      exact ⟨rfl, rfl⟩
  · obtain ⟨b, o, rfl, hc⟩ := h2 h0
    have C0 := hid (fun W => step_v (a := 2611923443488327891) (b := (l.length : Int)) (h := c3) (x := BitVec.ofNat 64 l.length) rfl (lenV _ hm) W)
    have HC := hid hc
    clear hc h2 h0
    go_enter Try.func11, Try.ntmps11
    go_wp2_with fail
    refine (C0.out _).mono ?_
    rintro e w1 ⟨rfl, rfl⟩
    go_wp2_with fail
    go_loop [3, 12] (fun x i => ∃ k : Nat, k ≤ l.length ∧ i = .int .i64 k ∧ x = .int .u64 ((stepsB (stepB c3 (BitVec.ofNat 64 l.length)) ((l.take k).map (BitVec.ofInt 64))).toNat : Int)) (fun _ i => l.length - (intOf i).toNat)
    case atStart => exact ⟨0, by omega, rfl, rfl⟩
    case round =>
      obtain ⟨k, hk, rfl, rfl⟩ := hrel
      by_cases hlt : k < l.length
      · have hcell := HC.out k hlt
        have HS := hid (steps_take (stepB c3 (BitVec.ofNat 64 l.length)) l k hlt)
        go_wp2_with fail
        refine (step_v rfl (u64Of _) _).mono ?_
        rintro e w1 ⟨rfl, rfl⟩
        go_wp2
        go_round
        case rel => exact ⟨k + 1, by omega, by go_num, by rw [← HS.out]; simp [List.getElem?_eq_getElem hlt, List.map_take]⟩
        case measure => simp [intOf]; omega
      · obtain rfl : k = l.length := by omega
        go_wp2
        go_ret
        exact ⟨rfl, rfl⟩

/-! The reference's steps. -/
theorem rstep_any (h x : BitVec 64) (w : World) : Calls Try.prog 18 #[.int .u64 (h.toNat : Int), .int .u64 (x.toNat : Int)] w fun e w' => e = .returned (.int .u64 ((stepB h x).toNat : Int)) ∧ w = w' := by
  go_enter Try.func18, Try.ntmps18
  go_wp2
  go_ret
  exact ⟨ret_int (by rw [xorV, show IntKind.u64.wrap (((h ^^^ x).toNat : Int) * 11400714819323198485) = (((h ^^^ x) * c1).toNat : Int) from mulV _ c1, shrV29, xorV, show ∀ y : BitVec 64, IntKind.u64.wrap ((y.toNat : Int) * 13787848793156543929) = ((y * c2).toNat : Int) from fun y => mulV y c2, shrV32, xorV]; rfl), rfl⟩
theorem rjoin_any (a b : BitVec 64) (w : World) : Calls Try.prog 16 #[.int .u64 (a.toNat : Int), .int .u64 (b.toNat : Int)] w fun e w' => e = .returned (.int .u64 ((joinB a b).toNat : Int)) ∧ w = w' := by
  go_enter Try.func16, Try.ntmps16
  go_wp2_with fail
  refine (rstep_any c5 a _).mono ?_
  rintro e w' ⟨rfl, rfl⟩
  go_wp2_with fail
  refine (rstep_any _ b _).mono ?_
  rintro e w' ⟨rfl, rfl⟩
  go_wp2
  go_ret
  exact ⟨rfl, rfl⟩
theorem rstep_v {a b : Int} {h x : BitVec 64} (ea : a = (h.toNat : Int)) (eb : b = (x.toNat : Int)) (w : World) : Calls Try.prog 18 #[.int .u64 a, .int .u64 b] w fun e w' => e = .returned (.int .u64 ((stepB h x).toNat : Int)) ∧ w = w' := by subst ea; subst eb; exact rstep_any h x w

set_option maxHeartbeats 1000000 in
theorem rwords_any (v : Value) (l : List Int) (w : World) (hv : IntsAt w v l) :
    Calls Try.prog 13 #[v] w fun e w' => e = .returned (.int .u64 ((wordsB l).toNat : Int)) ∧ w = w' := by
  obtain ⟨hm, p, c, rfl, hpn, h2⟩ := hv
  clear hpn
  by_cases h0 : l.length = 0
  · obtain rfl := List.eq_nil_of_length_eq_zero h0
    clear h2
    have C := hid (fun W => rstep_v (a := 2611923443488327891) (b := 0) (h := c3) (x := 0#64) rfl rfl W)
    go_enter Try.func13, Try.ntmps13
    go_wp2_with fail
    refine (C.out _).mono ?_
    rintro e w1 ⟨rfl, rfl⟩
    go_wp2_with fail
    go_loop [3, 4] (fun x i => x = .int .u64 ((stepB c3 0#64).toNat : Int) ∧ i = .int .i64 ((0 : Nat) : Int)) (fun _ i => 0)
    case atStart => exact ⟨rfl, rfl⟩
    case round =>
      obtain ⟨rfl, rfl⟩ := hrel
      go_wp2_with fail
      go_ret
      exact ⟨rfl, rfl⟩
  · obtain ⟨b, o, rfl, hc⟩ := h2 h0
    have C0 := hid (fun W => rstep_v (a := 2611923443488327891) (b := (l.length : Int)) (h := c3) (x := BitVec.ofNat 64 l.length) rfl (lenV _ hm) W)
    have HC := hid hc
    clear hc h2 h0
    go_enter Try.func13, Try.ntmps13
    go_wp2_with fail
    refine (C0.out _).mono ?_
    rintro e w1 ⟨rfl, rfl⟩
    go_wp2_with fail
    go_loop [3, 4] (fun x i => ∃ k : Nat, k ≤ l.length ∧ i = .int .i64 k ∧ x = .int .u64 ((stepsB (stepB c3 (BitVec.ofNat 64 l.length)) ((l.take k).map (BitVec.ofInt 64))).toNat : Int)) (fun _ i => l.length - (intOf i).toNat)
    case atStart => exact ⟨0, by omega, rfl, rfl⟩
    case round =>
      obtain ⟨k, hk, rfl, rfl⟩ := hrel
      by_cases hlt : k < l.length
      · have hcell := HC.out k hlt
        have HS := hid (steps_take (stepB c3 (BitVec.ofNat 64 l.length)) l k hlt)
        go_wp2_with fail
        refine (rstep_v rfl (u64Of _) _).mono ?_
        rintro e w1 ⟨rfl, rfl⟩
        go_wp2
        go_round
        case rel => exact ⟨k + 1, by omega, by go_num, by rw [← HS.out]; simp [List.getElem?_eq_getElem hlt, List.map_take]⟩
        case measure => simp [intOf]; omega
      · obtain rfl : k = l.length := by omega
        go_wp2
        go_ret
        exact ⟨rfl, rfl⟩
end Go.Proofs.Ytfoiadabppnibaa

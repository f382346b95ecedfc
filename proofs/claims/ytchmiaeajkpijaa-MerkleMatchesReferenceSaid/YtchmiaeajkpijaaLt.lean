import Derived.Test.YtchmiaeajkpijaaLb
import Derived.Deep.RegionHeld3
namespace Go.Proofs.Ytchmiaeajkpijaa
open Go.RowKit Go.Instr
set_option linter.unusedVariables false

/-! Lists of numbers in memory; tops and roots, of both packages. -/
theorem cell_below {w w' : World} (h : Below w.heap.size w w') {a : Addr} {x : Value} (hc : w.cell? a = some x) : w'.cell? a = some x := by
  have hlt : a.block < w.heap.size := by
    rcases Nat.lt_or_ge a.block w.heap.size with h' | h'
    · exact h'
    · simp [World.cell?, Array.getElem?_eq_none h'] at hc
  rw [h.cell hlt]; exact hc
/-- A list of numbers in memory. -/
def U64At (w : World) (v : Value) (l : List (BitVec 64)) : Prop := l.length ≤ 1000000 ∧ ∃ p c, v = .slice p l.length c ∧ l.length ≤ c ∧ c ≤ 9223372036854775807 ∧ (p = none → c = 0) ∧ (l.length ≠ 0 → ∃ b o, p = some ⟨b, o, none⟩ ∧ ∀ i (hi : i < l.length), w.cell? ⟨b, o + i, none⟩ = some (.int .u64 (l[i].toNat : Int)))
theorem U64At.below {w w' : World} {v : Value} {l : List (BitVec 64)} (h : U64At w v l) (hb : Below w.heap.size w w') : U64At w' v l := by
  obtain ⟨hm, p, c, rfl, c1, c2, hpn, h2⟩ := h
  refine ⟨hm, p, c, rfl, c1, c2, hpn, fun h0 => ?_⟩
  obtain ⟨b, o, rfl, h3⟩ := h2 h0
  exact ⟨b, o, rfl, fun i hi => cell_below hb (h3 i hi)⟩
theorem U64At.drewN {w : World} {v : Value} {l : List (BitVec 64)} (h : U64At w v l) (n : Nat) : U64At (w.drewN n) v l := h
theorem U64At.nil (w : World) : U64At w (.slice none 0 0) [] := ⟨by simp, none, 0, rfl, by simp, by omega, fun _ => rfl, fun h => absurd rfl h⟩
theorem quiet_of {P : Program} {f : FuncId} {args : Array Value} {w : World} {n : Nat} {v : Value}
    (h : Calls P f args (w.drewN n) fun e w' => e = .returned v ∧ ∃ m, w' = (w.drewN n).drewN m) :
    Calls P f args (w.drewN n) fun e w'' => e = .returned v ∧ ∃ m, w'' = w.drewN m :=
  h.mono fun _ _ ⟨he, m, hm⟩ => ⟨he, n + m, by rw [hm, World.drewN_drewN]⟩
theorem quiet_left {P : Program} {f : FuncId} {args : Array Value} {w : World} {n : Nat} {v : Value}
    (h : Calls P f args (w.drewN n) fun e w' => e = .returned v ∧ w.drewN n = w') : Calls P f args (w.drewN n) fun e w'' => e = .returned v ∧ ∃ m, w'' = w.drewN m :=
  h.mono fun _ _ ⟨he, hm⟩ => ⟨he, n, hm.symm⟩
theorem U64At.take {w : World} {b o c : Nat} {l : List (BitVec 64)} (k : Nat) (h1 : l.length ≤ c) (h2 : c ≤ 9223372036854775807) (hm : l.length ≤ 1000000) (hk : k ≤ l.length) (hc : ∀ i (hi : i < l.length), w.cell? ⟨b, o + i, none⟩ = some (.int .u64 (l[i].toNat : Int))) :
    U64At w (.slice (some ⟨b, o, none⟩) k c) (l.take k) := by
  have hl : (l.take k).length = k := by rw [List.length_take]; omega
  refine ⟨by omega, _, _, by rw [hl], by omega, by omega, (fun h => by cases h), fun h0 => ⟨b, o, rfl, fun i hi => ?_⟩⟩
  rw [hc i (by omega)]
  simp
theorem U64At.drop {w : World} {b o c : Nat} {l : List (BitVec 64)} (k : Nat) (h1 : l.length ≤ c) (h2 : c ≤ 9223372036854775807) (hm : l.length ≤ 1000000) (hk : k < l.length) (hc : ∀ i (hi : i < l.length), w.cell? ⟨b, o + i, none⟩ = some (.int .u64 (l[i].toNat : Int))) :
    U64At w (.slice (some ⟨b, o + k, none⟩) (l.length - k) (c - k)) (l.drop k) := by
  have hl : (l.drop k).length = l.length - k := List.length_drop
  refine ⟨by omega, _, _, by rw [hl], by omega, by omega, (fun h => by cases h), fun h0 => ⟨b, o + k, rfl, fun i hi => ?_⟩⟩
  rw [show o + k + i = o + (k + i) by omega, hc (k + i) (by omega)]
  simp

set_option maxHeartbeats 2000000 in
theorem top_fuel : ∀ f (v : Value) (l : List (BitVec 64)), l.length ≤ f → ∀ (w : World), U64At w v l →
    Calls Try.prog 15 #[v] w fun e w' => e = .returned (.int .u64 ((topB l).toNat : Int)) ∧ ∃ n, w' = w.drewN n := by
  intro f
  induction f with
  | zero =>
    intro v l hf w hv
    obtain rfl := List.eq_nil_of_length_eq_zero (by omega : l.length = 0)
    obtain ⟨hm, p, c, rfl, c1, c2, hpn, h2⟩ := hv
    clear h2 hpn hm
    go_enter Try.func15, Try.ntmps15
    go_wp2
    go_ret
    exact ⟨rfl, 0, rfl⟩
  | succ f ih =>
    intro v l hf w hv
    obtain ⟨hm, p, c, rfl, c1, c2, hpn, h2⟩ := hv
    clear hpn
    match l with
    | [] =>
      clear h2 ih
      go_enter Try.func15, Try.ntmps15
      go_wp2
      go_ret
      exact ⟨rfl, 0, rfl⟩
    | [x] =>
      obtain ⟨b, o, rfl, hc⟩ := h2 (by simp)
      have h0 := hc 0 (by simp)
      simp only [List.getElem_cons_zero, Nat.add_zero] at h0
      clear hc h2 ih
      go_enter Try.func15, Try.ntmps15
      go_wp2_with fail
      refine (join_v 0#64 x rfl rfl _).mono ?_
      rintro e w' ⟨rfl, rfl⟩
      go_wp2
      go_ret
      exact ⟨rfl, 0, rfl⟩
    | x :: y :: r =>
      obtain ⟨l, hl⟩ : ∃ l, l = x :: y :: r := ⟨_, rfl⟩
      rw [← hl] at hm hf h2 c1 ⊢
      have h2l : 2 ≤ l.length := by rw [hl]; simp
      obtain ⟨b, o, rfl, hc⟩ := h2 (by omega)
      clear h2 hl
      have hp := pw_bd h2l
      obtain ⟨hp1, hp2, -⟩ := hp
      have T := hid (topB_two h2l)
      have C1 := hid (fun (W : World) (h : ∀ a, W.cell? a = w.cell? a) => ih (.slice (some ⟨b, o, none⟩) (pw l.length) c) (l.take (pw l.length)) (by rw [List.length_take]; omega) W (U64At.take (pw l.length) c1 c2 hm (by omega) (fun i hi => (h _).trans (hc i hi))))
      have C2 := hid (fun (W : World) (h : ∀ a, W.cell? a = w.cell? a) => ih (.slice (some ⟨b, o + pw l.length, none⟩) (l.length - pw l.length) (c - pw l.length)) (l.drop (pw l.length)) (by rw [List.length_drop]; omega) W (U64At.drop (pw l.length) c1 c2 hm (by omega) (fun i hi => (h _).trans (hc i hi))))
      have t1 : ((l.length : Int) == 0) = false := by rw [beq_eq_false_iff_ne]; omega
      have t2 : ((l.length : Int) == 1) = false := by rw [beq_eq_false_iff_ne]; omega
      have t3 : ¬ c = pw l.length := by omega
      have t4 : (pw l.length : Int) ≤ (l.length : Int) := by omega
      have PW := hid (fun W => power_any l.length h2l hm W)
      clear ih hc hm
      generalize pw l.length = k at *
      go_enter Try.func15, Try.ntmps15
      go_wp2_with fail
      refine (PW.out _).mono ?_
      rintro e w' ⟨rfl, rfl⟩
      go_wp2_with fail
      go_quiet (first
        | (go_at_call_of 15 (Value.slice (some ⟨b, o, none⟩) k c); exact quiet_of (C1.out _ (fun _ => rfl)))
        | (go_at_call_of 15 (Value.slice (some ⟨b, o + k, none⟩) (l.length - k) (c - k)); exact quiet_of (C2.out _ (fun _ => rfl)))
        | (go_at_call 14; exact quiet_left (join_v _ _ rfl rfl _)))
      go_wp2
      go_ret
      exact ⟨ret_int (by rw [T.out]), _, rfl⟩
set_option maxHeartbeats 2000000 in
theorem rtop_fuel : ∀ f (v : Value) (l : List (BitVec 64)), l.length ≤ f → ∀ (w : World), U64At w v l →
    Calls Try.prog 19 #[v] w fun e w' => e = .returned (.int .u64 ((topB l).toNat : Int)) ∧ ∃ n, w' = w.drewN n := by
  intro f
  induction f with
  | zero =>
    intro v l hf w hv
    obtain rfl := List.eq_nil_of_length_eq_zero (by omega : l.length = 0)
    obtain ⟨hm, p, c, rfl, c1, c2, hpn, h2⟩ := hv
    clear h2 hpn hm
    go_enter Try.func19, Try.ntmps19
    go_wp2
    go_ret
    exact ⟨rfl, 0, rfl⟩
  | succ f ih =>
    intro v l hf w hv
    obtain ⟨hm, p, c, rfl, c1, c2, hpn, h2⟩ := hv
    clear hpn
    match l with
    | [] =>
      clear h2 ih
      go_enter Try.func19, Try.ntmps19
      go_wp2
      go_ret
      exact ⟨rfl, 0, rfl⟩
    | [x] =>
      obtain ⟨b, o, rfl, hc⟩ := h2 (by simp)
      have h0 := hc 0 (by simp)
      simp only [List.getElem_cons_zero, Nat.add_zero] at h0
      clear hc h2 ih
      go_enter Try.func19, Try.ntmps19
      go_wp2_with fail
      refine (rjoin_v 0#64 x rfl rfl _).mono ?_
      rintro e w' ⟨rfl, rfl⟩
      go_wp2
      go_ret
      exact ⟨rfl, 0, rfl⟩
    | x :: y :: r =>
      obtain ⟨l, hl⟩ : ∃ l, l = x :: y :: r := ⟨_, rfl⟩
      rw [← hl] at hm hf h2 c1 ⊢
      have h2l : 2 ≤ l.length := by rw [hl]; simp
      obtain ⟨b, o, rfl, hc⟩ := h2 (by omega)
      clear h2 hl
      have hp := pw_bd h2l
      obtain ⟨hp1, hp2, -⟩ := hp
      have T := hid (topB_two h2l)
      have C1 := hid (fun (W : World) (h : ∀ a, W.cell? a = w.cell? a) => ih (.slice (some ⟨b, o, none⟩) (pw l.length) c) (l.take (pw l.length)) (by rw [List.length_take]; omega) W (U64At.take (pw l.length) c1 c2 hm (by omega) (fun i hi => (h _).trans (hc i hi))))
      have C2 := hid (fun (W : World) (h : ∀ a, W.cell? a = w.cell? a) => ih (.slice (some ⟨b, o + pw l.length, none⟩) (l.length - pw l.length) (c - pw l.length)) (l.drop (pw l.length)) (by rw [List.length_drop]; omega) W (U64At.drop (pw l.length) c1 c2 hm (by omega) (fun i hi => (h _).trans (hc i hi))))
      have t1 : ((l.length : Int) == 0) = false := by rw [beq_eq_false_iff_ne]; omega
      have t2 : ((l.length : Int) == 1) = false := by rw [beq_eq_false_iff_ne]; omega
      have t3 : ¬ c = pw l.length := by omega
      have t4 : (pw l.length : Int) ≤ (l.length : Int) := by omega
      have PW := hid (fun W => half_any l.length h2l hm W)
      clear ih hc hm
      generalize pw l.length = k at *
      go_enter Try.func19, Try.ntmps19
      go_wp2_with fail
      refine (PW.out _).mono ?_
      rintro e w' ⟨rfl, rfl⟩
      go_wp2_with fail
      go_quiet (first
        | (go_at_call_of 19 (Value.slice (some ⟨b, o, none⟩) k c); exact quiet_of (C1.out _ (fun _ => rfl)))
        | (go_at_call_of 19 (Value.slice (some ⟨b, o + k, none⟩) (l.length - k) (c - k)); exact quiet_of (C2.out _ (fun _ => rfl)))
        | (go_at_call 18; exact quiet_left (rjoin_v _ _ rfl rfl _)))
      go_wp2
      go_ret
      exact ⟨ret_int (by rw [T.out]), _, rfl⟩

theorem top_any (v : Value) (l : List (BitVec 64)) (w : World) (h : U64At w v l) : Calls Try.prog 15 #[v] w fun e w' => e = .returned (.int .u64 ((topB l).toNat : Int)) ∧ ∃ n, w' = w.drewN n := top_fuel l.length v l (Nat.le_refl _) w h
theorem rtop_any (v : Value) (l : List (BitVec 64)) (w : World) (h : U64At w v l) : Calls Try.prog 19 #[v] w fun e w' => e = .returned (.int .u64 ((topB l).toNat : Int)) ∧ ∃ n, w' = w.drewN n := rtop_fuel l.length v l (Nat.le_refl _) w h
theorem lenV (n : Nat) (h : n ≤ 1000000) : (n : Int) = ((BitVec.ofNat 64 n).toNat : Int) := by
  rw [BitVec.toNat_ofNat]; omega
set_option maxHeartbeats 400000 in
theorem root_any (v : Value) (l : List (BitVec 64)) (w : World) (hv : U64At w v l) : Calls Try.prog 5 #[v] w fun e w' => e = .returned (.int .u64 ((rootB l).toNat : Int)) ∧ ∃ n, w' = w.drewN n := by
  have C := hid (top_any v l w hv)
  obtain ⟨hm, p, c, rfl, c1, c2, hpn, h2⟩ := hv
  clear h2 hpn
  have J := hid (fun W => join_v (BitVec.ofNat 64 l.length) (topB l) (lenV _ hm) rfl W)
  go_enter Try.func5, Try.ntmps5
  go_wp2_with fail
  refine C.out.mono ?_
  rintro e w' ⟨rfl, n, rfl⟩
  go_wp2_with fail
  refine (J.out _).mono ?_
  rintro e w' ⟨rfl, rfl⟩
  go_wp2
  go_ret
  exact ⟨rfl, _, rfl⟩
set_option maxHeartbeats 400000 in
theorem rroot_any (v : Value) (l : List (BitVec 64)) (w : World) (hv : U64At w v l) : Calls Try.prog 8 #[v] w fun e w' => e = .returned (.int .u64 ((rootB l).toNat : Int)) ∧ ∃ n, w' = w.drewN n := by
  have C := hid (rtop_any v l w hv)
  obtain ⟨hm, p, c, rfl, c1, c2, hpn, h2⟩ := hv
  clear h2 hpn
  have J := hid (fun W => rjoin_v (BitVec.ofNat 64 l.length) (topB l) (lenV _ hm) rfl W)
  go_enter Try.func8, Try.ntmps8
  go_wp2_with fail
  refine C.out.mono ?_
  rintro e w' ⟨rfl, n, rfl⟩
  go_wp2_with fail
  refine (J.out _).mono ?_
  rintro e w' ⟨rfl, rfl⟩
  go_wp2
  go_ret
  exact ⟨rfl, _, rfl⟩
end Go.Proofs.Ytchmiaeajkpijaa


import Derived.Test.YtffcnkkgbhhfnaaGreatDoorRw
import Derived.Deep.RegionHeld3
import Derived.Deep.CutRange
import Derived.Deep.DeepCutAuto
import Derived.LoopTactic
namespace Go.Proofs.YtffcnkkgbhhfnaaGreatDoor
open Go.RowKit Go.Instr
set_option linter.unusedVariables false

/-! 'rat.gcd', 'rat.magnitude', 'math/bits.Rem64', what is left of a division. -/
theorem over_any (v : Int) (n : Nat) (h : Fit128 v) (hn0 : 0 < n) (hn : n < 18446744073709551616) (w : World) :
    Calls Tryz.prog 51 #[.agg #[.int .u64 (hiW v), .int .u64 (loW v)], .int .u64 (n : Int)] w fun e w' =>
      e = .returned (.agg #[.int .u64 (hiW (v.tdiv n)), .int .u64 (loW (v.tdiv n))]) ∧ Below w.heap.size w w' := by
  rw [tdiv_sign]
  by_cases hv : v < 0
  · rw [if_pos hv]; exact over_neg v n h hv hn0 hn w
  · rw [if_neg hv]; exact over_pos v n h (by omega) hn0 hn w

theorem mod_step (hi W lo y : Nat) : ((hi % y) * W + lo) % y = (hi * W + lo) % y := by
  rw [Nat.add_mod, Nat.mul_mod, Nat.mod_mod, ← Nat.mul_mod, ← Nat.add_mod]
theorem ret_u {a b : Int} (h : a = b) : Ending.returned (.int .u64 a) = .returned (.int .u64 b) := by rw [h]

set_option maxHeartbeats 1000000 in
theorem rem64_any (hi lo y : Nat) (hy : 0 < y) (hy2 : y < 18446744073709551616) (hlo : lo < 18446744073709551616) (w : World) :
    Calls Tryz.prog 69 #[.int .u64 (hi : Int), .int .u64 (lo : Int), .int .u64 (y : Int)] w fun e w' =>
      e = .returned (.int .u64 (((hi * 18446744073709551616 + lo) % y : Nat) : Int)) ∧ ∃ k, w' = w.drewN k := by
  have D := hid (fun w => div64_any (hi % y) lo y (Nat.mod_lt _ hy) hy2 hlo w)
  rw [mod_step] at D
  obtain ⟨r, hr⟩ : ∃ r, hi % y = r := ⟨_, rfl⟩
  have x1 : (hi : Int) % (y : Int) = (r : Int) := by rw [← hr, Int.natCast_emod]
  rw [hr] at D
  clear hr
  have x3 : ¬ (y : Int) = 0 := by omega
  have x4 : ((y : Int) == 0) = false := by simpa using x3
  have x5 : ¬ y = 0 := by omega
  generalize ((hi * 18446744073709551616 + lo) % y : Nat) = m at *
  generalize ((r * 18446744073709551616 + lo) / y : Nat) = q at *
  clear x3
  go_enter Tryz.func69, Tryz.ntmps69
  go_wp2_with fail
  refine (D.out _).mono ?_
  rintro e w1 ⟨rfl, k, rfl⟩
  go_wp2
  go_ret
  exact ⟨rfl, k, rfl⟩

set_option maxHeartbeats 1000000 in
theorem modulo_any (v : Int) (n : Nat) (h : Fit128 v) (hn0 : 0 < n) (hn : n < 18446744073709551616) (w : World) :
    Calls Tryz.prog 52 #[.agg #[.int .u64 (hiW v), .int .u64 (loW v)], .int .u64 (n : Int)] w fun e w' =>
      e = .returned (.int .u64 ((v.natAbs % n : Nat) : Int)) ∧ Below w.heap.size w w' := by
  have M := hid (fun w => mag_any v h w)
  obtain ⟨m, hm⟩ : ∃ m, v.natAbs = m := ⟨_, rfl⟩
  have hm2 : m < 170141183460469231731687303715884105729 := by unfold Fit128 at h; omega
  obtain ⟨a, ha⟩ : ∃ a, m / 18446744073709551616 = a := ⟨_, rfl⟩
  obtain ⟨b, hb⟩ : ∃ b, m % 18446744073709551616 = b := ⟨_, rfl⟩
  have ea : hiW (m : Int) = (a : Int) := by unfold hiW; omega
  have eb : loW (m : Int) = (b : Int) := by unfold loW; omega
  have R := hid (fun w => rem64_any a b n hn0 hn (by omega) w)
  rw [show a * 18446744073709551616 + b = m by omega] at R
  rw [hm, ea, eb] at M
  rw [hm]
  generalize (m % n : Nat) = r at *
  clear hm2 ha hb ea eb
  go_enter Tryz.func52, Tryz.ntmps52
  go_wp2_with fail
  refine (M.out _).mono ?_
  rintro e w1 ⟨rfl, hb⟩
  have hz : w.heap.size < w1.heap.size := by have := hb.size; simp at this; omega
  have H := hid hb
  clear hb
  go_wp2_with fail
  refine (R.out _).mono ?_
  rintro e w2 ⟨rfl, k, rfl⟩
  go_wp2
  go_ret
  exact ⟨rfl, below_drewN ((((Below.refl _ _).alloc (Nat.le_refl _) _).trans (H.out.mono (by simp))).alloc (by omega) _) _⟩

set_option maxHeartbeats 1000000 in
theorem mg_any (n : Int) (h0 : -9223372036854775808 ≤ n) (h1 : n ≤ 9223372036854775807) (w : World) :
    Calls Tryz.prog 63 #[.int .i64 n] w fun e w' => e = .returned (.int .u64 (n.natAbs : Int)) ∧ w' = w := by
  by_cases hn : n < 0
  · have e1 : IntKind.u64.wrap (- (IntKind.u64.wrap n)) = (n.natAbs : Int) := by rw [wrapUi, wrapUi]; omega
    go_enter Tryz.func63, Tryz.ntmps63
    go_wp2
    go_ret
    exact ⟨rfl, rfl⟩
  · have e1 : IntKind.u64.wrap n = (n.natAbs : Int) := by rw [wrapUi]; omega
    go_enter Tryz.func63, Tryz.ntmps63
    go_wp2
    go_ret
    exact ⟨rfl, rfl⟩

/-- The greatest common divisor of numbers. -/
def gcdL (l : List Int) : Nat := l.foldl (fun g n => Nat.gcd g n.natAbs) 0
theorem gcdL_snoc (l : List Int) (n : Int) : gcdL (l ++ [n]) = Nat.gcd (gcdL l) n.natAbs := by simp [gcdL]
theorem gcdL_lt : ∀ (l : List Int), (∀ n ∈ l, -9223372036854775808 ≤ n ∧ n ≤ 9223372036854775807) → gcdL l < 9223372036854775809 := by
  intro l
  suffices h : ∀ (l : List Int) (g : Nat), g < 9223372036854775809 → (∀ n ∈ l, -9223372036854775808 ≤ n ∧ n ≤ 9223372036854775807) → l.foldl (fun g n => Nat.gcd g n.natAbs) g < 9223372036854775809 from h l 0 (by omega)
  intro l
  induction l with
  | nil => intro g hg _; exact hg
  | cons a r ih =>
    intro g hg hl
    refine ih _ ?_ (fun n hn => hl n (List.mem_cons_of_mem _ hn))
    have := hl a (List.mem_cons_self ..)
    rcases Nat.eq_zero_or_pos g with rfl | hp
    · show Nat.gcd 0 a.natAbs < _
      rw [Nat.gcd_zero_left]; omega
    · have := Nat.gcd_le_left a.natAbs hp
      show Nat.gcd g a.natAbs < _
      omega

/-- The value s is this list of numbers, in the world w. -/
def rowAt (w : World) (l : List Int) (b off : Nat) : Prop := ∀ i, i < l.length → w.cell? ⟨b, off + i, none⟩ = some (.int .i64 (l.getD i 0))

set_option maxHeartbeats 2000000 in
theorem gcd_any (l : List Int) (b off cap : Nat) (w : World) (hl : l.length ≤ cap) (hm : l.length ≤ 1000) (h : rowAt w l b off) (hr : ∀ n ∈ l, -9223372036854775808 ≤ n ∧ n ≤ 9223372036854775807) :
    Calls Tryz.prog 49 #[.slice (some ⟨b, off, none⟩) l.length cap] w fun e w' => e = .returned (.int .u64 (gcdL l : Int)) ∧ ∃ k, w' = w.drewN k := by
  go_enter Tryz.func49, Tryz.ntmps49
  go_wp2
  go_loopw [3, 9] (fun g i wr => ∃ k d : Nat, k ≤ l.length ∧ i = .int .i64 k ∧ g = .int .u64 (gcdL (l.take k) : Int) ∧ wr = w.drewN d) (fun _ i _ => l.length - (intOf i).toNat)
  case atStart => exact ⟨0, 0, Nat.zero_le _, rfl, rfl, rfl⟩
  case round =>
    obtain ⟨k, d, hk, rfl, rfl, rfl⟩ := hrel
    by_cases hlt : k < l.length
    · have hc := h k hlt
      have hs : l.take (k + 1) = l.take k ++ [l.getD k 0] := by rw [List.take_succ_eq_append_getElem hlt, List.getD_eq_getElem?_getD, List.getElem?_eq_getElem hlt]; rfl
      have hbn : -9223372036854775808 ≤ l.getD k 0 ∧ l.getD k 0 ≤ 9223372036854775807 := by
        have := hr (l.getD k 0) (by rw [List.getD_eq_getElem?_getD, List.getElem?_eq_getElem hlt]; exact List.getElem_mem hlt)
        exact this
      have hg := gcdL_snoc (l.take k) (l.getD k 0)
      rw [← hs] at hg
      have hgl := gcdL_lt (l.take k) (fun n hn => hr n (List.mem_of_mem_take hn))
      have HG := hid hg
      clear hs hg h
      generalize l.getD k 0 = n at *
      generalize gcdL (l.take k) = g at *
      obtain ⟨n0, n1⟩ := hbn
      go_wp2_with (go_at_call 63; refine (mg_any n n0 n1 _).mono ?_; rintro e w' ⟨rfl, rfl⟩)
      have hm2 : n.natAbs < 9223372036854775809 := by omega
      have HN := hid n0; have HN1 := hid n1; clear n0 n1 hc
      obtain ⟨wo, hwo⟩ : ∃ wo : World, wo = w.drewN d := ⟨_, rfl⟩
      rw [← hwo]
      have HW := hid hwo
      clear hwo
      go_loopw [3, 6] (fun a c wr => ∃ x y e : Nat, a = .int .u64 x ∧ c = .int .u64 y ∧ Nat.gcd x y = Nat.gcd g n.natAbs ∧ x < 9223372036854775809 ∧ y < 9223372036854775809 ∧ wr = wo.drewN e) (fun _ c _ => (intOf c).toNat)
      case atStart => exact ⟨g, n.natAbs, 0, rfl, rfl, rfl, hgl, hm2, rfl⟩
      case round =>
        obtain ⟨x, y, e, rfl, rfl, he, hx, hy, rfl⟩ := hrel
        have HE := hid he
        clear he
        by_cases h0 : y = 0
        · subst h0
          go_wp2
          go_roundw
          case rel => exact ⟨k + 1, d + e, by omega, by go_num, by rw [HG.out, ← HE.out, Nat.gcd_zero_right], by rw [HW.out]; simp [World.drewN, Nat.add_assoc]⟩
          case measure => simp [intOf]; omega
        · have h1 : ((y : Int) == 0) = false := by simp; omega
          have h1' : ((y : Int) != 0) = true := by simp; omega
          have h2 : ¬ (y : Int) = 0 := by omega
          obtain ⟨z, hz⟩ : ∃ z, x % y = z := ⟨_, rfl⟩
          have hz2 : (x : Int) % (y : Int) = (z : Int) := by rw [← hz, Int.natCast_emod]
          have hzy : z < y := by rw [← hz]; exact Nat.mod_lt _ (by omega)
          have hgz : Nat.gcd y z = Nat.gcd x y := by rw [← hz, Nat.gcd_comm x y, Nat.gcd_comm y (x % y), ← Nat.gcd_rec]
          have HZ := hid hgz
          clear hz hgz
          go_wp2
          go_region
          all_goals
            go_roundw
            case rel => exact ⟨_, _, _, _, _, _, _, _, ⟨y, z, e + 1, rfl, by rw [hz2], HZ.out.trans HE.out, by omega, by omega, rfl⟩, rfl⟩
            case measure => simp [intOf, hz2]; omega
    · go_wp2
      go_ret
      obtain rfl : k = l.length := by omega
      exact ⟨ret_u (by rw [List.take_of_length_le (Nat.le_refl _)]), d, rfl⟩
end Go.Proofs.YtffcnkkgbhhfnaaGreatDoor

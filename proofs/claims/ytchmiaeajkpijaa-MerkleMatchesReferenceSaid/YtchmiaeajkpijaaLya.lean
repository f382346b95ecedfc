import Derived.Test.YtchmiaeajkpijaaLj
import Derived.Test.YtchmiaeajkpijaaLe
namespace Go.Proofs.Ytchmiaeajkpijaa
open Go.RowKit Go.Instr
set_option linter.unusedVariables false

/-! The reference's 'Steps'. -/
theorem heads_shift : ∀ f a b i, b - a ≤ f → a ≤ i → (sibs a b i).map Sib.ahead = (sibs 0 (b - a) (i - a)).map Sib.ahead := by
  intro f
  induction f with
  | zero =>
    intro a b i h1 h2
    rw [sibs_one i (by omega), sibs_one (i - a) (by omega)]
  | succ f ih =>
    intro a b i h1 h2
    by_cases h : 2 ≤ b - a
    · have hp := pw_bd h
      obtain ⟨p1, p2, -⟩ := hp
      by_cases hi : i < a + pw (b - a)
      · rw [sibs_low h hi, sibs_low (a := 0) (b := b - a) (i := i - a) (by omega) (by simp only [Nat.sub_zero]; omega)]
        simp only [List.map_append, List.map_cons, List.map_nil, Nat.sub_zero, Nat.zero_add]
        rw [ih a (a + pw (b - a)) i (by omega) h2, show a + pw (b - a) - a = pw (b - a) by omega]
      · rw [sibs_high h hi, sibs_high (a := 0) (b := b - a) (i := i - a) (by omega) (by simp only [Nat.sub_zero]; omega)]
        simp only [List.map_append, List.map_cons, List.map_nil, Nat.sub_zero, Nat.zero_add]
        rw [ih (a + pw (b - a)) b i (by omega) (by omega), ih (pw (b - a)) (b - a) (i - a) (by omega) (by omega), show b - (a + pw (b - a)) = b - a - pw (b - a) by omega, show i - (a + pw (b - a)) = i - a - pw (b - a) by omega]
    · rw [sibs_one i (by omega), sibs_one (i - a) (by omega)]
def firsts (n i : Nat) : List Bool := (aheads n i).map not
theorem firsts_one {n : Nat} (i : Nat) (h : n < 2) : firsts n i = [] := by simp [firsts, aheads, sibs_one i (show n - 0 ≤ 1 by omega)]
theorem firsts_low {n i : Nat} (h : 2 ≤ n) (hi : i < pw n) : firsts n i = firsts (pw n) i ++ [true] := by
  simp only [firsts, aheads]
  rw [sibs_low (a := 0) (b := n) (by omega) (by simp only [Nat.sub_zero]; omega)]
  simp
theorem firsts_high {n i : Nat} (h : 2 ≤ n) (hi : ¬ i < pw n) : firsts n i = firsts (n - pw n) (i - pw n) ++ [false] := by
  simp only [firsts, aheads]
  rw [sibs_high (a := 0) (b := n) (by omega) (by simp only [Nat.sub_zero]; omega)]
  simp only [List.map_append, List.map_cons, List.map_nil, Nat.sub_zero, Nat.zero_add]
  rw [heads_shift n (pw n) n i (by omega) (by omega)]
  simp
theorem firsts_len (n i : Nat) : (firsts n i).length = (sibs 0 n i).length := by simp [firsts, aheads]
theorem firsts_12 {n : Nat} (i : Nat) (h : n ≤ 4096) : (firsts n i).length ≤ 12 := by rw [firsts_len]; exact sibs_len12 i h
def bools (l : List Bool) : List Value := l.map .bool
theorem one_bool (x : Bool) : ∀ u ∈ [Value.bool x], u.oneCell' = true := by intro u hu; obtain rfl := List.mem_singleton.1 hu; simp [Value.oneCell']
theorem infoBool : (Try.prog.info? 4).map (fun i => (i.zero, i.size, i.bytes)) = some (some (.bool false), 1, 1) := by kernel_rfl
def StepsOk (n i : Nat) (W : World) : Ending → World → Prop := fun e w' => ∃ v, e = .returned v ∧ w'.ownsRow W.heap.size 4 1 v (firsts n i).length (bools (firsts n i)) ∧ Below W.heap.size W w'
theorem rsteps_fuel : ∀ (f n i : Nat), n ≤ f → i < n → n ≤ 4096 → ∀ (w : World), Calls Try.prog 22 #[.int .i64 (n : Int), .int .i64 (i : Int)] w (StepsOk n i w) := by
  intro f
  induction f with
  | zero => intro n i h1 h2; omega
  | succ f ih =>
    intro n i hf hi hn w
    by_cases h2 : 2 ≤ n
    · obtain ⟨p1, p2, -⟩ := pw_bd h2
      obtain ⟨i0, hi0, hz0, hz1, hz2⟩ := info_parts infoBool
      have PW := hid (fun W => half_any n h2 (by omega) W)
      have d1 : decide ((n : Int) < 2) = false := by simp; omega
      by_cases hp : i < pw n
      · have C := hid (fun W => ih (pw n) i (by omega) hp (by omega) W)
        have E := hid (firsts_low h2 hp)
        have L := hid (firsts_12 (n := pw n) i (by omega))
        have d2 : decide ((i : Int) < (pw n : Int)) = true := by simp; omega
        clear ih hf p1
        generalize pw n = k at *
        go_enter Try.func22, Try.ntmps22
        go_wp2_with fail
        refine (PW.out _).mono ?_
        rintro e w' ⟨rfl, rfl⟩
        go_wp2_with fail
        refine (C.out _).mono ?_
        rintro e w1 ⟨v1, rfl, hown, hb⟩
        have OW := hid hown
        have B1 := hid hb
        clear hown hb
        go_wp2_with (at_builtin; go_must (with_reducible refine wpList_append_own _ rfl (.tmp 15) (.tmp 16) 50 rfl w.heap.size 4 i0 (.bool false) 1 1 Try.underlying50 hi0 hz0 hz1 hz2 rfl (by decide) v1 (firsts k i).length (bools (firsts k i)) rfl (OW.out.alloc _) _ 1 1 [.bool true] rfl rfl (one_cell _ _ _) (one_bool _) (by have := L.out; unfold maxLen; omega) (by have := L.out; omega) (by have := B1.out.size; simp; omega) ?_))
        intro v' w' hown' hg _
        have HB := hid (show Below w.heap.size w w' from ((B1.out.alloc B1.out.size _).grown hg (by have := B1.out.size; simp; omega) (fun k hk => (OW.out.lt k hk).1)))
        have HO := hid (show w'.ownsRow w.heap.size 4 1 v' (firsts n i).length (bools (firsts n i)) by
          rw [E.out]
          simp only [bools, List.map_append, List.map_cons, List.map_nil, List.length_append, List.length_cons, List.length_nil, Nat.zero_add]
          exact hown')
        clear hown' hg
        go_wp2
        go_ret
        exact ⟨_, rfl, HO.out, HB.out⟩
      · have C := hid (fun W => ih (n - pw n) (i - pw n) (by omega) (by omega) (by omega) W)
        have E := hid (firsts_high h2 hp)
        have L := hid (firsts_12 (n := n - pw n) (i - pw n) (by omega))
        have d2 : decide ((i : Int) < (pw n : Int)) = false := by simp; omega
        have s1 : IntKind.i64.wrap ((n : Int) - (pw n : Int)) = ((n - pw n : Nat) : Int) := by rw [IntKind.wrap_i64]; omega
        have s2 : IntKind.i64.wrap ((i : Int) - (pw n : Int)) = ((i - pw n : Nat) : Int) := by rw [IntKind.wrap_i64]; omega
        clear ih hf p1
        generalize hk : pw n = k at *
        obtain ⟨m, hm⟩ : ∃ m, n - k = m := ⟨_, rfl⟩
        obtain ⟨j, hj⟩ : ∃ j, i - k = j := ⟨_, rfl⟩
        rw [hm] at C E L s1
        rw [hj] at C E L s2
        clear hm hj hk
        go_enter Try.func22, Try.ntmps22
        go_wp2_with fail
        refine (PW.out _).mono ?_
        rintro e w' ⟨rfl, rfl⟩
        go_wp2_with fail
        refine (C.out _).mono ?_
        rintro e w1 ⟨v1, rfl, hown, hb⟩
        have OW := hid hown
        have B1 := hid hb
        clear hown hb
        go_wp2_with (at_builtin; go_must (with_reducible refine wpList_append_own _ rfl (.tmp 24) (.tmp 25) 50 rfl w.heap.size 4 i0 (.bool false) 1 1 Try.underlying50 hi0 hz0 hz1 hz2 rfl (by decide) v1 (firsts m j).length (bools (firsts m j)) rfl (OW.out.alloc _) _ 1 1 [.bool false] rfl rfl (one_cell _ _ _) (one_bool _) (by have := L.out; unfold maxLen; omega) (by have := L.out; omega) (by have := B1.out.size; simp; omega) ?_))
        intro v' w' hown' hg _
        have HB := hid (show Below w.heap.size w w' from ((B1.out.alloc B1.out.size _).grown hg (by have := B1.out.size; simp; omega) (fun k hk => (OW.out.lt k hk).1)))
        have HO := hid (show w'.ownsRow w.heap.size 4 1 v' (firsts n i).length (bools (firsts n i)) by
          rw [E.out]
          simp only [bools, List.map_append, List.map_cons, List.map_nil, List.length_append, List.length_cons, List.length_nil, Nat.zero_add]
          exact hown')
        clear hown' hg
        go_wp2
        go_ret
        exact ⟨_, rfl, HO.out, HB.out⟩
    · have hn1 : n = 1 := by omega
      subst hn1
      have hi0 : i = 0 := by omega
      subst hi0
      clear ih hf
      go_enter Try.func22, Try.ntmps22
      go_wp2
      go_ret
      exact ⟨_, rfl, by rw [firsts_one 0 (by omega)]; exact World.ownsRow_nil _ _ _ _, Below.refl _ _⟩
theorem rsteps_any (n i : Nat) (hi : i < n) (hn : n ≤ 4096) (w : World) : Calls Try.prog 22 #[.int .i64 (n : Int), .int .i64 (i : Int)] w (StepsOk n i w) := rsteps_fuel n n i (Nat.le_refl _) hi hn w
end Go.Proofs.Ytchmiaeajkpijaa

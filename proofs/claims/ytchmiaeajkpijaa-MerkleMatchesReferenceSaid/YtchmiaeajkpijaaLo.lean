import Derived.Test.YtchmiaeajkpijaaLs
namespace Go.Proofs.Ytchmiaeajkpijaa
open Go.RowKit Go.Shelf
attribute [local go_sem] Oper.semAt_some
set_option linter.unusedVariables false

/-! 'pathLen', 'Open'. -/
set_option maxRecDepth 100000 in
set_option maxHeartbeats 2000000 in
theorem pathLen_in (n i : Nat) (hi : i < n) (hn : n ≤ 1000000) (m : Nat) (w : World) :
    CallsIn Fence.wide m Try.prog 25 #[.int .i64 (n : Int), .int .i64 (i : Int)] w fun e w' => e = .returned (.int .i64 ((sibs 0 n i).length : Int)) ∧ Below w.heap.size w w' := by
  have hdd : ∀ k : Nat, (Fence.wide.depth.isSome = true → 1 ≤ k) := fun k h => by cases h
  refine callsIn_of_wp_marks Try.func25 rfl trivial ?_ rfl
  simp only [Try.ntmps25, List.size_toArray, List.length_cons, List.length_nil, Nat.reduceAdd, Nat.reduceSub, Array.replicate_succ, Array.replicate_zero, List.push_toArray, List.append_toArray, List.nil_append, List.cons_append]
  gi_wp2_with ((try refine ⟨trivial, ?_⟩); (try refine ⟨hdd _, ?_⟩); gi_at_call 31; refine (siblings_in _ _ _ _).mono ?_; rintro e W1 ⟨rfl, hW1⟩)
  have hs1 : W1.heap.size = w.heap.size + 3 := by rw [← hW1]; simp [sibW]
  have hbx : Boxed W1 w.heap.size 3 (.int .i64 ((0 : Nat) : Int)) := by rw [← hW1]; exact ((Boxed.new w _ _).alloc _).alloc _
  have hn1 : Boxed W1 (w.heap.size + 1) 3 (.int .i64 (n : Int)) := by
    rw [← hW1]
    have := Boxed.new (w.alloc (.cells #[.int .i64 0] 3)) 3 (.int .i64 (n : Int))
    rw [World.size_alloc] at this
    exact this.alloc _
  have hi1 : Boxed W1 (w.heap.size + 1 + 1) 3 (.int .i64 (i : Int)) := by
    rw [← hW1]
    have := Boxed.new ((w.alloc (.cells #[.int .i64 0] 3)).alloc (.cells #[.int .i64 (n : Int)] 3)) 3 (.int .i64 (i : Int))
    rw [World.size_alloc, World.size_alloc] at this
    exact this
  have hbel : Below w.heap.size w W1 := by rw [← hW1]; exact (((Below.refl _ w).alloc (Nat.le_refl _) _).alloc (by simp) _).alloc (by simp; omega) _
  clear hW1
  refine range_law (gf := 39) (lb := #[.pointer (some ⟨w.heap.size + 1, 0, none⟩), .pointer (some ⟨w.heap.size + 1 + 1, 0, none⟩)]) rfl (enters_of Try.func39 (by kernel_rfl) rfl)
    (sib_seq (fun o => o.isCells = false) n i _ _ hi hn W1 hn1 hi1) (by rintro k (rfl | rfl) <;> omega) (fun _ _ _ h => h) (fun _ => rfl) (fun _ h => h)
    (fun pre W => Boxed W w.heap.size 3 (.int .i64 (pre.length : Int)) ∧ Below w.heap.size w W) (fun _ _ _ => False)
    (Bears.and (Bears.boxed _ _ (by omega)) (Bears.below (by omega) (by omega))) (fun _ => Bears.pure _ _ _) ⟨hbx, hbel⟩ ?round ?done ?stop
  case round =>
    rintro l pre x W ⟨hb, hB⟩ hsz hpre
    have hlen : pre.length ≤ 20 := by
      have h1 := hpre.length_le
      have h2 := sibs_len 20 0 n i (by omega)
      simp at h1
      omega
    gi_wp2
    refine ⟨Kept.refl _ _ _ _, ⟨hb, hB⟩, fun W₂ _ ⟨hb2, hB2⟩ hs2 => ?_⟩
    have hc := hb2.cell
    have hf := hb2.frozen
    gi_wp2
    refine ⟨Kept.of_grownBy (grownBy_setCell' W₂ _ _) (fun r o e _ => ?_), (by simpa using hb2.set _), hB2.setCell (p := ⟨w.heap.size, 0, none⟩) (Nat.le_refl _) _⟩
    obtain rfl := Option.some.inj e
    exact ⟨fun h => by unfold Hold at h; omega, fun h => by omega⟩
  case done =>
    rintro W ⟨hb, hB⟩ hK _
    have hc := hb.cell
    gi_wp2
    refine ⟨by simp, .inl ⟨_, _, rfl, run_takeDeferred hK, ?_⟩⟩
    exact ⟨_, results_tmp rfl _ _ _, rfl, hB.grown (putObj_grown W _ _) hB.size (fun k e => by cases e; omega)⟩
  case stop =>
    rintro c pre W _ h _
    exact h.elim

theorem place_cases (n i : Int) : (4096 < n ∧ placeE n i = 2) ∨ (n ≤ 4096 ∧ i < 0 ∧ placeE n i = 1) ∨ (n ≤ 4096 ∧ 0 ≤ i ∧ n ≤ i ∧ placeE n i = 1) ∨ (n ≤ 4096 ∧ 0 ≤ i ∧ i < n ∧ placeE n i = 0) := by
  unfold placeE
  by_cases h1 : 4096 < n
  · exact .inl ⟨h1, if_pos h1⟩
  · rw [if_neg h1]
    by_cases h2 : i < 0
    · exact .inr (.inl ⟨by omega, h2, if_pos (.inl h2)⟩)
    · by_cases h3 : n ≤ i
      · exact .inr (.inr (.inl ⟨by omega, by omega, h3, if_pos (.inr h3)⟩))
      · exact .inr (.inr (.inr ⟨by omega, by omega, by omega, if_neg (by omega)⟩))
theorem place_ok {n i : Int} (h : placeE n i = 0) : n ≤ 4096 ∧ 0 ≤ i ∧ i < n := by
  rcases place_cases n i with h1 | h1 | h1 | h1 <;> omega
theorem place_any (n i : Int) (w : World) : Calls Try.prog 24 #[.int .i64 n, .int .i64 i] w fun e w' => e = .returned (.int .i64 (placeE n i)) ∧ w = w' := by
  rcases place_cases n i with ⟨h1, h2⟩ | ⟨h1, h2, h3⟩ | ⟨h1, h2, h3, h4⟩ | ⟨h1, h2, h3, h4⟩
  · have d1 : decide ((4096 : Int) < n) = true := by simpa using h1
    rw [h2]
    clear h2
    go_enter Try.func24, Try.ntmps24
    go_wp2
    go_ret
    exact ⟨rfl, rfl⟩
  · have d1 : decide ((4096 : Int) < n) = false := by simpa using h1
    have d2 : decide (i < 0) = true := by simpa using h2
    rw [h3]
    clear h3
    go_enter Try.func24, Try.ntmps24
    go_wp2
    go_ret
    exact ⟨rfl, rfl⟩
  · have d1 : decide ((4096 : Int) < n) = false := by simpa using h1
    have d2 : decide (i < 0) = false := by simpa using h2
    have d3 : decide (n ≤ i) = true := by simpa using h3
    rw [h4]
    clear h4
    go_enter Try.func24, Try.ntmps24
    go_wp2
    go_ret
    exact ⟨rfl, rfl⟩
  · have d1 : decide ((4096 : Int) < n) = false := by simpa using h1
    have d2 : decide (i < 0) = false := by simpa using h2
    have d3 : decide (n ≤ i) = false := by simpa using h3
    rw [h4]
    clear h4
    go_enter Try.func24, Try.ntmps24
    go_wp2
    go_ret
    exact ⟨rfl, rfl⟩
theorem rplace_any (n i : Int) (w : World) : Calls Try.prog 21 #[.int .i64 n, .int .i64 i] w fun e w' => e = .returned (.int .i64 (placeE n i)) ∧ w = w' := by
  rcases place_cases n i with ⟨h1, h2⟩ | ⟨h1, h2, h3⟩ | ⟨h1, h2, h3, h4⟩ | ⟨h1, h2, h3, h4⟩
  · have d1 : decide ((4096 : Int) < n) = true := by simpa using h1
    rw [h2]
    clear h2
    go_enter Try.func21, Try.ntmps21
    go_wp2
    go_ret
    exact ⟨rfl, rfl⟩
  · have d1 : decide ((4096 : Int) < n) = false := by simpa using h1
    have d2 : decide (i < 0) = true := by simpa using h2
    rw [h3]
    clear h3
    go_enter Try.func21, Try.ntmps21
    go_wp2
    go_ret
    exact ⟨rfl, rfl⟩
  · have d1 : decide ((4096 : Int) < n) = false := by simpa using h1
    have d2 : decide (i < 0) = false := by simpa using h2
    have d3 : decide (n ≤ i) = true := by simpa using h3
    rw [h4]
    clear h4
    go_enter Try.func21, Try.ntmps21
    go_wp2
    go_ret
    exact ⟨rfl, rfl⟩
  · have d1 : decide ((4096 : Int) < n) = false := by simpa using h1
    have d2 : decide (i < 0) = false := by simpa using h2
    have d3 : decide (n ≤ i) = false := by simpa using h3
    rw [h4]
    clear h4
    go_enter Try.func21, Try.ntmps21
    go_wp2
    go_ret
    exact ⟨rfl, rfl⟩
end Go.Proofs.Ytchmiaeajkpijaa

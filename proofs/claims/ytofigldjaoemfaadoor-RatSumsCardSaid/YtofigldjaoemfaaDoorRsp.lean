import Derived.Test.YtofigldjaoemfaaDoorRsn
namespace Go.Proofs.YtofigldjaoemfaaDoor
open Go.RowKit Go.Instr
set_option linter.unusedVariables false

/-! What RatSums asks of sums. -/
/-- The fraction that is made of two short numbers. -/
def fracOf (n d : Int) : Int × Int := (numR (Rat.divInt n d), denR (Rat.divInt n d))
theorem small_frac (n d : Int) (hn : Sh n) (hd : 1 ≤ d ∧ d ≤ 12) : Fr (fracOf n d).1 (fracOf n d).2 ∧ Sm (Rat.divInt (fracOf n d).1 (fracOf n d).2) 1 := by
  have s := sm_frac n d hn hd
  have ok := sm_ok s (by omega)
  have f := okR_fr ok
  exact ⟨f.1, by unfold fracOf; rw [f.2]; exact s⟩
theorem small_new (n d : Int) (hn : Sh n) (hd : 1 ≤ d ∧ d ≤ 12) (w : World) :
    Calls Tryd.prog 6 #[.int .i64 n, .int .i64 d] w fun e w' => e = .returned (.agg #[.int .i64 (fracOf n d).1, .int .i64 (fracOf n d).2, .int .i64 0]) ∧ Below w.heap.size w w' := by
  have ok := sm_ok (sm_frac n d hn hd) (by omega)
  have e := (ok_num ok).2.2
  refine created_any n d _ _ 0 (fun w => ?_) w
  have := new_some n d (by unfold I64; unfold Sh at hn; omega) (by unfold I64; omega) (by omega) w
  rw [e] at this
  exact this
theorem small_take {L : List (Int × Int)} (h : Small L) (k : Nat) : Small (L.take k) := fun p hp => h p (List.mem_of_mem_take hp)
theorem small_drop {L : List (Int × Int)} (h : Small L) (k : Nat) : Small (L.drop k) := fun p hp => h p (List.mem_of_mem_drop hp)
theorem small_rev {L : List (Int × Int)} (h : Small L) : Small L.reverse := fun p hp => h p (List.mem_reverse.1 hp)
theorem small_rep {p : Int × Int} (h : Fr p.1 p.2 ∧ Sm (Rat.divInt p.1 p.2) 1) (k : Nat) : Small (List.replicate k p) := by
  intro q hq
  rw [(List.mem_replicate.1 hq).2]
  exact h
theorem Small.fr {L : List (Int × Int)} (h : Small L) : ∀ p ∈ L, Fr p.1 p.2 := fun p hp => (h p hp).1
theorem sum_fr (L : List (Int × Int)) (h : Small L) (hl : L.length ≤ 900) : Fr (sumN L) (sumD L) ∧ Rat.divInt (sumN L) (sumD L) = sumQ L := by
  obtain ⟨e1, e2, e3, ok⟩ := sum_small L h hl
  rw [e1, e2]
  exact okR_fr ok
theorem sum_same {L M : List (Int × Int)} (hL : Small L) (hM : Small M) (lL : L.length ≤ 900) (lM : M.length ≤ 900) (h : sumQ L = sumQ M) : sumN L = sumN M ∧ sumD L = sumD M := by
  obtain ⟨e1, e2, e3, ok⟩ := sum_small L hL lL
  obtain ⟨f1, f2, f3, ok2⟩ := sum_small M hM lM
  rw [e1, e2, f1, f2, h]
  exact ⟨rfl, rfl⟩
theorem sum_parts {L : List (Int × Int)} (h : Small L) (hl : L.length ≤ 900) (k : Nat) :
    Trip (Rat.divInt (sumN (L.take k)) (sumD (L.take k)) + Rat.divInt (sumN (L.drop k)) (sumD (L.drop k))) (sumN L) (sumD L) 0 := by
  have a := (sum_fr _ (small_take h k) (by rw [List.length_take]; omega)).2
  have b := (sum_fr _ (small_drop h k) (by rw [List.length_drop]; omega)).2
  rw [a, b, ← sumQ_append, List.take_append_drop]
  obtain ⟨e1, e2, e3, ok⟩ := sum_small L h hl
  rw [e1, e2]
  exact ⟨rfl, rfl, (ok_num ok).2.2⟩
theorem sumQ_rep (p : Int × Int) : ∀ k : Nat, sumQ (List.replicate k p) = Rat.divInt p.1 p.2 * Rat.divInt (k : Int) 1 := by
  intro k
  induction k with
  | zero => simp [sumQ, Rat.mul_zero]
  | succ k ih =>
    rw [List.replicate_succ]
    simp only [sumQ, ih]
    have e : Rat.divInt ((k + 1 : Nat) : Int) 1 = Rat.divInt (k : Int) 1 + 1 := by
      rw [← r_one, Rat.divInt_add_divInt _ _ (by decide) (by decide)]
      simp
    rw [e, Rat.mul_add, Rat.mul_one, Rat.add_comm]
theorem fr_nat (k : Nat) (h : k ≤ 1000) : Fr (k : Int) 1 := ⟨by omega, by omega, by omega, by omega, by simp⟩
theorem sum_rep {p : Int × Int} (h : Fr p.1 p.2 ∧ Sm (Rat.divInt p.1 p.2) 1) (k : Nat) (hk : k ≤ 900) :
    Trip (Rat.divInt p.1 p.2 * Rat.divInt (k : Int) 1) (sumN (List.replicate k p)) (sumD (List.replicate k p)) 0 := by
  rw [← sumQ_rep]
  obtain ⟨e1, e2, e3, ok⟩ := sum_small _ (small_rep h k) (by rw [List.length_replicate]; omega)
  rw [e1, e2]
  exact ⟨rfl, rfl, (ok_num ok).2.2⟩
end Go.Proofs.YtofigldjaoemfaaDoor

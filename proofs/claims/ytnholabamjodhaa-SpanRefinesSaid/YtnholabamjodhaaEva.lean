import Derived.Test.YtnholabamjodhaaEv
namespace Go.Proofs.Ytnholabamjodhaa
open Go.RowKit Go.Instr
set_option linter.unusedVariables false
set_option linter.unusedSimpArgs false

theorem ne_b {a b : Int} (h : a ≠ b) : (a == b) = false := by simpa using h

set_option maxHeartbeats 400000 in
theorem eval_step (V L : List Int) (op n v : Int) (l : List Ex) (IH : ∀ t, t ∈ l → EvalOk V L t) : EvalOk V L (.mk op n v l) := by
  intro x vs ls w hx hv hL
  rw [exIn] at hx
  obtain ⟨oa, cap, rfl, hl, hm, hxs⟩ := hx
  rw [evalE]
  have Hv := hid hv; clear hv
  have HL := hid hL; clear hL
  have Hxs := hid hxs; clear hxs
  have HI := hid IH; clear IH
  by_cases h1 : op = 1
  · subst h1
    rw [if_pos rfl]
    go_enter Try.func92, Try.ntmps92
    go_wp2_with (first | (go_at_call 73; refine (wrap_any _ _).mono ?_; rintro e w2 ⟨rfl, rfl⟩))
    go_ret
    exact ⟨rfl, (Below.refl _ _).alloc (Nat.le_refl _) _⟩
  rw [if_neg h1]
  by_cases h2 : op = 2
  · subst h2
    rw [if_pos rfl]
    have hv2 := fun o => intsIn_below ((Below.refl w.heap.size w).alloc (Nat.le_refl _) o) Hv.out
    clear h1
    go_enter Try.func92, Try.ntmps92
    go_wp2_with fail
    refine (element_any V vs n _ (hv2 _)).mono ?_
    rintro e w2 ⟨rfl, rfl⟩
    go_wp2
    go_ret
    exact ⟨rfl, (Below.refl _ _).alloc (Nat.le_refl _) _⟩
  rw [if_neg h2]
  by_cases h3 : op = 3
  · subst h3
    rw [if_pos rfl]
    have hv2 := fun o => intsIn_below ((Below.refl w.heap.size w).alloc (Nat.le_refl _) o) HL.out
    clear h1 h2
    go_enter Try.func92, Try.ntmps92
    go_wp2_with fail
    refine (element_any L ls n _ (hv2 _)).mono ?_
    rintro e w2 ⟨rfl, rfl⟩
    go_wp2
    go_ret
    exact ⟨rfl, (Below.refl _ _).alloc (Nat.le_refl _) _⟩
  rw [if_neg h3]
  have b1 := ne_b h1
  have b2 := ne_b h2
  have b3 := ne_b h3
  by_cases h4 : 4 ≤ op ∧ op ≤ 10
  · have hval := fun o => values_any V L l HI.out oa cap vs ls (w.alloc o) (exsIn_below ((Below.refl w.heap.size w).alloc (Nat.le_refl _) o) l oa 0 Hxs.out) hl hm
      (intsIn_below ((Below.refl w.heap.size w).alloc (Nat.le_refl _) o) Hv.out) (intsIn_below ((Below.refl w.heap.size w).alloc (Nat.le_refl _) o) HL.out)
    obtain ⟨g4, g5⟩ := h4
    have Hval := hid hval; clear hval
    clear h1 h2 h3
    have c4 : decide (4 ≤ op) = true := by simpa using g4
    have c5 : decide (op ≤ 10) = true := by simpa using g5
    generalize (evalsE V L l).getD 0 0 = va at *
    generalize (evalsE V L l).getD 1 0 = vb at *
    generalize l.length = len at *
    go_enter Try.func92, Try.ntmps92
    go_wp2_with (first | (go_at_call 100; refine (isop_any _ _).mono ?_; rintro e w2 ⟨rfl, rfl⟩))
    refine (Hval.out _).mono ?_
    rintro e w2 ⟨rfl, hb2⟩
    have hc2 : w2.cell? ⟨w.heap.size, 0, none⟩ = some (.int .i64 op) := cell_below hb2 (World.cell?_alloc_new w _ _ 0)
    have hbb := hid (((Below.refl w.heap.size w).alloc (Nat.le_refl _) _).trans (hb2.mono (by simp)))
    clear hb2
    go_wp2_with fail
    refine (op_any _ _ _ _).mono ?_
    rintro e w3 ⟨rfl, hb3⟩
    clear hc2
    go_wp2
    go_ret
    exact ⟨rfl, hbb.out.trans (hb3.mono hbb.out.size)⟩
  · have hr : opF op ((evalsE V L l).getD 0 0) ((evalsE V L l).getD 1 0) = 0 := opF_no _ _ _ (by omega)
    rw [hr]
    clear hr
    have c4 : (decide (4 ≤ op) && decide (op ≤ 10)) = false := by simp; omega
    clear h1 h2 h3 h4
    generalize l.length = len at *
    go_enter Try.func92, Try.ntmps92
    go_wp2_with (first | (go_at_call 100; refine (isop_any _ _).mono ?_; rintro e w2 ⟨rfl, rfl⟩))
    go_ret
    exact ⟨rfl, (Below.refl _ _).alloc (Nat.le_refl _) _⟩

mutual
theorem eval_any (V L : List Int) : ∀ t, EvalOk V L t
  | .mk op n v l => eval_step V L op n v l (evals_any V L l)
theorem evals_any (V L : List Int) : ∀ (l : List Ex) (t : Ex), t ∈ l → EvalOk V L t
  | [], _, h => by cases h
  | u :: _, _, .head _ => eval_any V L u
  | _ :: r, t, .tail _ h => evals_any V L r t h
end
end Go.Proofs.Ytnholabamjodhaa

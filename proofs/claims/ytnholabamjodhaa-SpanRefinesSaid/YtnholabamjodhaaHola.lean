import Derived.Test.YtnholabamjodhaaHol
namespace Go.Proofs.Ytnholabamjodhaa
open Go.RowKit Go.Instr
set_option linter.unusedVariables false
set_option linter.unusedSimpArgs false


/-- The world behind the boxes of 'num.Holds'. -/
def boxed (w : World) (op : Int) (oa ob va la : Option Addr) (ln ca rn cb vn vc lm lc : Nat) : World :=
  ((w.alloc (.cells #[.int .i64 op, .slice oa ln ca, .slice ob rn cb] 65)).alloc (.cells #[.slice va vn vc] 92)).alloc (.cells #[.slice la lm lc] 92)

set_option maxRecDepth 100000 in
set_option maxHeartbeats 1000000 in
theorem holds_2 (V L : List Int) (l : List Ex) (r : List Cd) (oa ob va la : Option Addr) (ca cb vn vc lm lc ln rn : Nat) (w : World)
    (hb3 : Below w.heap.size w (boxed w 2 oa ob va la ln ca rn cb vn vc lm lc))
    (hval : Calls Try.prog 75 #[.slice oa ln ca, .slice va vn vc, .slice la lm lc] (boxed w 2 oa ob va la ln ca rn cb vn vc lm lc) fun e w' =>
      e = .returned (.tuple #[.int .i64 ((evalsE V L l).getD 0 0), .int .i64 ((evalsE V L l).getD 1 0)]) ∧ Below (boxed w 2 oa ob va la ln ca rn cb vn vc lm lc).heap.size (boxed w 2 oa ob va la ln ca rn cb vn vc lm lc) w') :
    Calls Try.prog 36 #[.agg #[.int .i64 2, .slice oa ln ca, .slice ob rn cb], .slice va vn vc, .slice la lm lc] w fun e w' => e = .returned (.bool (decide ((evalsE V L l).getD 0 0 < (evalsE V L l).getD 1 0))) ∧ Below w.heap.size w w' := by
  unfold boxed at hval hb3
  generalize (evalsE V L l).getD 0 0 = x0 at *
  generalize (evalsE V L l).getD 1 0 = x1 at *
  have Hv := hid hval; clear hval
  have Hb := hid hb3; clear hb3
  go_enter Try.func36, Try.ntmps36
  go_wp2_with fail
  refine Hv.out.mono ?_
  rintro e w4 ⟨rfl, hb4⟩
  have hbb := hid (Hb.out.trans (hb4.mono Hb.out.size))
  clear hb4
  go_wp2
  go_ret
  exact ⟨rfl, hbb.out⟩

set_option maxRecDepth 100000 in
set_option maxHeartbeats 1000000 in
theorem holds_3 (V L : List Int) (l : List Ex) (r : List Cd) (oa ob va la : Option Addr) (ca cb vn vc lm lc ln rn : Nat) (w : World)
    (hb3 : Below w.heap.size w (boxed w 3 oa ob va la ln ca rn cb vn vc lm lc))
    (hval : Calls Try.prog 75 #[.slice oa ln ca, .slice va vn vc, .slice la lm lc] (boxed w 3 oa ob va la ln ca rn cb vn vc lm lc) fun e w' =>
      e = .returned (.tuple #[.int .i64 ((evalsE V L l).getD 0 0), .int .i64 ((evalsE V L l).getD 1 0)]) ∧ Below (boxed w 3 oa ob va la ln ca rn cb vn vc lm lc).heap.size (boxed w 3 oa ob va la ln ca rn cb vn vc lm lc) w') :
    Calls Try.prog 36 #[.agg #[.int .i64 3, .slice oa ln ca, .slice ob rn cb], .slice va vn vc, .slice la lm lc] w fun e w' => e = .returned (.bool (decide ((evalsE V L l).getD 0 0 ≤ (evalsE V L l).getD 1 0))) ∧ Below w.heap.size w w' := by
  unfold boxed at hval hb3
  generalize (evalsE V L l).getD 0 0 = x0 at *
  generalize (evalsE V L l).getD 1 0 = x1 at *
  have Hv := hid hval; clear hval
  have Hb := hid hb3; clear hb3
  go_enter Try.func36, Try.ntmps36
  go_wp2_with fail
  refine Hv.out.mono ?_
  rintro e w4 ⟨rfl, hb4⟩
  have hbb := hid (Hb.out.trans (hb4.mono Hb.out.size))
  clear hb4
  go_wp2
  go_ret
  exact ⟨rfl, hbb.out⟩

set_option maxRecDepth 100000 in
set_option maxHeartbeats 1000000 in
theorem holds_4 (V L : List Int) (l : List Ex) (r : List Cd) (oa ob va la : Option Addr) (ca cb vn vc lm lc ln rn : Nat) (w : World)
    (hb3 : Below w.heap.size w (boxed w 4 oa ob va la ln ca rn cb vn vc lm lc))
    (hval : Calls Try.prog 75 #[.slice oa ln ca, .slice va vn vc, .slice la lm lc] (boxed w 4 oa ob va la ln ca rn cb vn vc lm lc) fun e w' =>
      e = .returned (.tuple #[.int .i64 ((evalsE V L l).getD 0 0), .int .i64 ((evalsE V L l).getD 1 0)]) ∧ Below (boxed w 4 oa ob va la ln ca rn cb vn vc lm lc).heap.size (boxed w 4 oa ob va la ln ca rn cb vn vc lm lc) w') :
    Calls Try.prog 36 #[.agg #[.int .i64 4, .slice oa ln ca, .slice ob rn cb], .slice va vn vc, .slice la lm lc] w fun e w' => e = .returned (.bool ((evalsE V L l).getD 0 0 == (evalsE V L l).getD 1 0)) ∧ Below w.heap.size w w' := by
  unfold boxed at hval hb3
  generalize (evalsE V L l).getD 0 0 = x0 at *
  generalize (evalsE V L l).getD 1 0 = x1 at *
  have Hv := hid hval; clear hval
  have Hb := hid hb3; clear hb3
  go_enter Try.func36, Try.ntmps36
  go_wp2_with fail
  refine Hv.out.mono ?_
  rintro e w4 ⟨rfl, hb4⟩
  have hbb := hid (Hb.out.trans (hb4.mono Hb.out.size))
  clear hb4
  go_wp2
  go_ret
  exact ⟨rfl, hbb.out⟩

set_option maxRecDepth 100000 in
set_option maxHeartbeats 1000000 in
theorem holds_5 (V L : List Int) (l : List Ex) (r : List Cd) (oa ob va la : Option Addr) (ca cb vn vc lm lc ln rn : Nat) (w : World)
    (hb3 : Below w.heap.size w (boxed w 5 oa ob va la ln ca rn cb vn vc lm lc))
    (hpart : ∀ (k : Nat), k ≤ 1 → ∀ (W : World), Below (boxed w 5 oa ob va la ln ca rn cb vn vc lm lc).heap.size (boxed w 5 oa ob va la ln ca rn cb vn vc lm lc) W →
      Calls Try.prog 74 #[.int .i64 (k : Int), .pointer (some ⟨w.heap.size, 0, none⟩), .pointer (some ⟨w.heap.size + 1, 0, none⟩), .pointer (some ⟨w.heap.size + 1 + 1, 0, none⟩)] W fun e w' =>
        e = .returned (.bool ((holdsCs V L r).getD k false)) ∧ Below W.heap.size W w') :
    Calls Try.prog 36 #[.agg #[.int .i64 5, .slice oa ln ca, .slice ob rn cb], .slice va vn vc, .slice la lm lc] w fun e w' => e = .returned (.bool (!(holdsCs V L r).getD 0 false)) ∧ Below w.heap.size w w' := by
  unfold boxed at hpart hb3
  have Hp := hid hpart; clear hpart
  have Hb := hid hb3; clear hb3
  go_enter Try.func36, Try.ntmps36
  go_wp2_with fail
  refine (Hp.out 0 (by omega) _ (Below.refl _ _)).mono ?_
  rintro e w4 ⟨rfl, hb4⟩
  have hbb := hid (Hb.out.trans (hb4.mono Hb.out.size))
  clear hb4
  go_wp2
  go_ret
  exact ⟨rfl, hbb.out⟩

set_option maxRecDepth 100000 in
set_option maxHeartbeats 1000000 in
theorem holds_6 (V L : List Int) (l : List Ex) (r : List Cd) (oa ob va la : Option Addr) (ca cb vn vc lm lc ln rn : Nat) (w : World)
    (hb3 : Below w.heap.size w (boxed w 6 oa ob va la ln ca rn cb vn vc lm lc))
    (hpart : ∀ (k : Nat), k ≤ 1 → ∀ (W : World), Below (boxed w 6 oa ob va la ln ca rn cb vn vc lm lc).heap.size (boxed w 6 oa ob va la ln ca rn cb vn vc lm lc) W →
      Calls Try.prog 74 #[.int .i64 (k : Int), .pointer (some ⟨w.heap.size, 0, none⟩), .pointer (some ⟨w.heap.size + 1, 0, none⟩), .pointer (some ⟨w.heap.size + 1 + 1, 0, none⟩)] W fun e w' =>
        e = .returned (.bool ((holdsCs V L r).getD k false)) ∧ Below W.heap.size W w') :
    Calls Try.prog 36 #[.agg #[.int .i64 6, .slice oa ln ca, .slice ob rn cb], .slice va vn vc, .slice la lm lc] w fun e w' => e = .returned (.bool ((holdsCs V L r).getD 0 false && (holdsCs V L r).getD 1 false)) ∧ Below w.heap.size w w' := by
  unfold boxed at hpart hb3
  have Hp := hid hpart; clear hpart
  have Hb := hid hb3; clear hb3
  obtain ⟨p0, hp0⟩ : ∃ p0, (holdsCs V L r).getD 0 false = p0 := ⟨_, rfl⟩
  obtain ⟨p1, hp1⟩ : ∃ p1, (holdsCs V L r).getD 1 false = p1 := ⟨_, rfl⟩
  have Hp0 := hid (Hp.out 0 (by omega))
  have Hp1 := hid (Hp.out 1 (by omega))
  rw [hp0] at Hp0 ⊢
  rw [hp1] at Hp1 ⊢
  clear Hp hp0 hp1
  by_cases hsc : p0 = true
  · subst hsc
    go_enter Try.func36, Try.ntmps36
    go_wp2_with fail
    refine (Hp0.out _ (Below.refl _ _)).mono ?_
    rintro e w4 ⟨rfl, hb4⟩
    have hb4' := hid hb4
    have hbb := hid (Hb.out.trans (hb4.mono Hb.out.size))
    clear hb4
    go_wp2_with fail
    refine (Hp1.out _ hb4'.out).mono ?_
    rintro e w5 ⟨rfl, hb5⟩
    have hbb5 := hid (hbb.out.trans (hb5.mono hbb.out.size))
    clear hb5
    go_wp2
    go_ret
    exact ⟨by simp, hbb5.out⟩
  · have hsc' : p0 = !true := by cases p0 <;> simp_all
    subst hsc'
    go_enter Try.func36, Try.ntmps36
    go_wp2_with fail
    refine (Hp0.out _ (Below.refl _ _)).mono ?_
    rintro e w4 ⟨rfl, hb4⟩
    have hbb := hid (Hb.out.trans (hb4.mono Hb.out.size))
    clear hb4
    go_wp2
    go_ret
    exact ⟨by simp, hbb.out⟩

set_option maxRecDepth 100000 in
set_option maxHeartbeats 1000000 in
theorem holds_7 (V L : List Int) (l : List Ex) (r : List Cd) (oa ob va la : Option Addr) (ca cb vn vc lm lc ln rn : Nat) (w : World)
    (hb3 : Below w.heap.size w (boxed w 7 oa ob va la ln ca rn cb vn vc lm lc))
    (hpart : ∀ (k : Nat), k ≤ 1 → ∀ (W : World), Below (boxed w 7 oa ob va la ln ca rn cb vn vc lm lc).heap.size (boxed w 7 oa ob va la ln ca rn cb vn vc lm lc) W →
      Calls Try.prog 74 #[.int .i64 (k : Int), .pointer (some ⟨w.heap.size, 0, none⟩), .pointer (some ⟨w.heap.size + 1, 0, none⟩), .pointer (some ⟨w.heap.size + 1 + 1, 0, none⟩)] W fun e w' =>
        e = .returned (.bool ((holdsCs V L r).getD k false)) ∧ Below W.heap.size W w') :
    Calls Try.prog 36 #[.agg #[.int .i64 7, .slice oa ln ca, .slice ob rn cb], .slice va vn vc, .slice la lm lc] w fun e w' => e = .returned (.bool ((holdsCs V L r).getD 0 false || (holdsCs V L r).getD 1 false)) ∧ Below w.heap.size w w' := by
  unfold boxed at hpart hb3
  have Hp := hid hpart; clear hpart
  have Hb := hid hb3; clear hb3
  obtain ⟨p0, hp0⟩ : ∃ p0, (holdsCs V L r).getD 0 false = p0 := ⟨_, rfl⟩
  obtain ⟨p1, hp1⟩ : ∃ p1, (holdsCs V L r).getD 1 false = p1 := ⟨_, rfl⟩
  have Hp0 := hid (Hp.out 0 (by omega))
  have Hp1 := hid (Hp.out 1 (by omega))
  rw [hp0] at Hp0 ⊢
  rw [hp1] at Hp1 ⊢
  clear Hp hp0 hp1
  by_cases hsc : p0 = false
  · subst hsc
    go_enter Try.func36, Try.ntmps36
    go_wp2_with fail
    refine (Hp0.out _ (Below.refl _ _)).mono ?_
    rintro e w4 ⟨rfl, hb4⟩
    have hb4' := hid hb4
    have hbb := hid (Hb.out.trans (hb4.mono Hb.out.size))
    clear hb4
    go_wp2_with fail
    refine (Hp1.out _ hb4'.out).mono ?_
    rintro e w5 ⟨rfl, hb5⟩
    have hbb5 := hid (hbb.out.trans (hb5.mono hbb.out.size))
    clear hb5
    go_wp2
    go_ret
    exact ⟨by simp, hbb5.out⟩
  · have hsc' : p0 = !false := by cases p0 <;> simp_all
    subst hsc'
    go_enter Try.func36, Try.ntmps36
    go_wp2_with fail
    refine (Hp0.out _ (Below.refl _ _)).mono ?_
    rintro e w4 ⟨rfl, hb4⟩
    have hbb := hid (Hb.out.trans (hb4.mono Hb.out.size))
    clear hb4
    go_wp2
    go_ret
    exact ⟨by simp, hbb.out⟩

set_option maxRecDepth 100000 in
set_option maxHeartbeats 1000000 in
theorem holds_no (op : Int) (h2 : (op == 2) = false) (h3 : (op == 3) = false) (h4 : (op == 4) = false) (h5 : (op == 5) = false) (h6 : (op == 6) = false) (h7 : (op == 7) = false) (oa ob va la : Option Addr) (ca cb vn vc lm lc ln rn : Nat) (w : World) :
    Calls Try.prog 36 #[.agg #[.int .i64 op, .slice oa ln ca, .slice ob rn cb], .slice va vn vc, .slice la lm lc] w fun e w' => e = .returned (.bool (op == 1)) ∧ Below w.heap.size w w' := by
  by_cases h1 : op = 1
  · subst h1
    go_enter Try.func36, Try.ntmps36
    go_wp2
    go_ret
    exact ⟨rfl, (((Below.refl _ _).alloc (Nat.le_refl _) _).alloc (by simp) _).alloc (by simp; omega) _⟩
  · have h1' := ne_b h1
    rw [h1']
    clear h1
    go_enter Try.func36, Try.ntmps36
    go_wp2
    go_ret
    exact ⟨rfl, (((Below.refl _ _).alloc (Nat.le_refl _) _).alloc (by simp) _).alloc (by simp; omega) _⟩

theorem holds_step (V L : List Int) (op : Int) (l : List Ex) (r : List Cd) (IH : ∀ t, t ∈ r → HoldsOk V L t) : HoldsOk V L (.mk op l r) := by
  intro x vs ls w hx hv hL
  rw [cdIn] at hx
  obtain ⟨oa, ob, ca, cb, rfl, hl, hm, hxs, hl2, hm2, hcs⟩ := hx
  have hv0 := hv
  have hL0 := hL
  obtain ⟨va, vc, rfl, -⟩ := hv
  obtain ⟨la, lc, rfl, -⟩ := hL
  rw [holdsC]
  have hb3 : Below w.heap.size w (boxed w op oa ob va la l.length ca r.length cb V.length vc L.length lc) := (((Below.refl _ _).alloc (Nat.le_refl _) _).alloc (by simp) _).alloc (by simp; omega) _
  have g2 : (boxed w op oa ob va la l.length ca r.length cb V.length vc L.length lc).cell? ⟨w.heap.size, 2, none⟩ = some (.slice ob r.length cb) := by unfold boxed; simp [go_sem]
  have g3 : (boxed w op oa ob va la l.length ca r.length cb V.length vc L.length lc).cell? ⟨w.heap.size + 1, 0, none⟩ = some (.slice va V.length vc) := by unfold boxed; simp [go_sem]
  have g4 : (boxed w op oa ob va la l.length ca r.length cb V.length vc L.length lc).cell? ⟨w.heap.size + 1 + 1, 0, none⟩ = some (.slice la L.length lc) := by unfold boxed; simp [go_sem]
  have hval := values_any V L l (evals_any V L l) oa ca _ _ _ (exsIn_below hb3 l oa 0 hxs) hl hm (intsIn_below hb3 hv0) (intsIn_below hb3 hL0)
  have hpart := fun (k : Nat) (hk : k ≤ 1) (W : World) (hB : Below (boxed w op oa ob va la l.length ca r.length cb V.length vc L.length lc).heap.size (boxed w op oa ob va la l.length ca r.length cb V.length vc L.length lc) W) =>
    part_any V L r IH k hk w.heap.size (w.heap.size + 1) (w.heap.size + 1 + 1) (.int .i64 op) (.slice oa l.length ca) _ _ ob cb W
    (cell_below hB g2) hl2 hm2 (cdsIn_below (hb3.trans (hB.mono hb3.size)) r ob 0 hcs) (cell_below hB g3) (cell_below hB g4) (intsIn_below (hb3.trans (hB.mono hb3.size)) hv0) (intsIn_below (hb3.trans (hB.mono hb3.size)) hL0)
  by_cases h1 : op = 1
  · subst h1
    rw [if_pos rfl]
    exact holds_no 1 rfl rfl rfl rfl rfl rfl oa ob va la ca cb V.length vc L.length lc l.length r.length w
  rw [if_neg h1]
  by_cases h2 : op = 2
  · subst h2
    rw [if_pos rfl]
    exact holds_2 V L l r _ _ _ _ _ _ _ _ _ _ _ _ w hb3 hval
  rw [if_neg h2]
  by_cases h3 : op = 3
  · subst h3
    rw [if_pos rfl]
    exact holds_3 V L l r _ _ _ _ _ _ _ _ _ _ _ _ w hb3 hval
  rw [if_neg h3]
  by_cases h4 : op = 4
  · subst h4
    rw [if_pos rfl]
    exact holds_4 V L l r _ _ _ _ _ _ _ _ _ _ _ _ w hb3 hval
  rw [if_neg h4]
  by_cases h5 : op = 5
  · subst h5
    rw [if_pos rfl]
    exact holds_5 V L l r _ _ _ _ _ _ _ _ _ _ _ _ w hb3 hpart
  rw [if_neg h5]
  by_cases h6 : op = 6
  · subst h6
    rw [if_pos rfl]
    exact holds_6 V L l r _ _ _ _ _ _ _ _ _ _ _ _ w hb3 hpart
  rw [if_neg h6]
  by_cases h7 : op = 7
  · subst h7
    rw [if_pos rfl]
    exact holds_7 V L l r _ _ _ _ _ _ _ _ _ _ _ _ w hb3 hpart
  rw [if_neg h7]
  have := holds_no op (ne_b h2) (ne_b h3) (ne_b h4) (ne_b h5) (ne_b h6) (ne_b h7) oa ob va la ca cb V.length vc L.length lc l.length r.length w
  rwa [ne_b h1] at this

mutual
theorem holds_any (V L : List Int) : ∀ t, HoldsOk V L t
  | .mk op l r => holds_step V L op l r (holdss_any V L r)
theorem holdss_any (V L : List Int) : ∀ (l : List Cd) (t : Cd), t ∈ l → HoldsOk V L t
  | [], _, h => by cases h
  | u :: _, _, .head _ => holds_any V L u
  | _ :: r, t, .tail _ h => holdss_any V L r t h
end
end Go.Proofs.Ytnholabamjodhaa

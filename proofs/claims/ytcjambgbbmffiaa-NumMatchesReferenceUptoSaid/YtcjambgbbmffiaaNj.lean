import Derived.Test.YtcjambgbbmffiaaNi
namespace Go.Proofs.Ytcjambgbbmffiaa
open Go.RowKit Go.Instr
set_option linter.unusedVariables false

/-! The reference's 'Added', 'Union'. -/
def AddInv (l : List Int) (n : Int) (k : Nat) (O : List Int) (dn : Bool) : Prop :=
  (∀ j, j < k → l.getD j 0 ≠ n) ∧ (dn = false → O = l.take k ∧ ∀ j, j < k → l.getD j 0 < n) ∧ (dn = true → ∃ p, p < k ∧ O = l.take p ++ n :: (l.take k).drop p ∧ (∀ j, j < p → l.getD j 0 < n) ∧ n < l.getD p 0)
theorem inv_start (l : List Int) (n : Int) : AddInv l n 0 [] false := ⟨fun j h => absurd h (by omega), fun _ => ⟨by simp, fun j h => absurd h (by omega)⟩, fun h => by cases h⟩
theorem take_snoc (l : List Int) (k : Nat) (h : k < l.length) : l.take (k + 1) = l.take k ++ [l.getD k 0] := by
  rw [List.take_add_one, List.getElem?_eq_getElem h, List.getD_eq_getElem?_getD, List.getElem?_eq_getElem h]; rfl
theorem ne_next {l : List Int} {n : Int} {k : Nat} (h : ∀ j, j < k → l.getD j 0 ≠ n) (he : l.getD k 0 ≠ n) : ∀ j, j < k + 1 → l.getD j 0 ≠ n := by
  intro j hj
  rcases Nat.eq_or_lt_of_le (Nat.lt_succ_iff.1 hj) with rfl | h1
  · exact he
  · exact h j h1
theorem inv_gt {l : List Int} {n : Int} {k : Nat} {O : List Int} (hk : k < l.length) (h : AddInv l n k O false) (he : n < l.getD k 0) : AddInv l n (k + 1) (O ++ [n] ++ [l.getD k 0]) true := by
  obtain ⟨h1, h2, -⟩ := h
  obtain ⟨rfl, h3⟩ := h2 rfl
  refine ⟨ne_next h1 (by omega), (fun h => by cases h), fun _ => ⟨k, by omega, ?_, h3, he⟩⟩
  rw [take_snoc l k hk, List.drop_append_of_le_length (by rw [List.length_take]; omega), List.drop_eq_nil_of_le (by rw [List.length_take]; omega)]
  simp
theorem inv_lt {l : List Int} {n : Int} {k : Nat} {O : List Int} (hk : k < l.length) (h : AddInv l n k O false) (he : l.getD k 0 < n) : AddInv l n (k + 1) (O ++ [l.getD k 0]) false := by
  obtain ⟨h1, h2, -⟩ := h
  obtain ⟨rfl, h3⟩ := h2 rfl
  refine ⟨ne_next h1 (by omega), fun _ => ⟨(take_snoc l k hk).symm, fun j hj => ?_⟩, fun h => by cases h⟩
  rcases Nat.eq_or_lt_of_le (Nat.lt_succ_iff.1 hj) with rfl | h4
  · exact he
  · exact h3 j h4
theorem inv_done {l : List Int} {n : Int} {k : Nat} {O : List Int} (hk : k < l.length) (h : AddInv l n k O true) (he : l.getD k 0 ≠ n) : AddInv l n (k + 1) (O ++ [l.getD k 0]) true := by
  obtain ⟨h1, -, h2⟩ := h
  obtain ⟨p, hp, rfl, h3, h4⟩ := h2 rfl
  refine ⟨ne_next h1 he, (fun h => by cases h), fun _ => ⟨p, by omega, ?_, h3, h4⟩⟩
  rw [take_snoc l k hk, List.drop_append_of_le_length (by rw [List.length_take]; omega)]
  simp
def Good (l : List Int) (n : Int) (R : List Int) : Prop := R.Pairwise (· < ·) ∧ (∀ x, x ∈ R ↔ x ∈ l ∨ x = n) ∧ R.length ≤ l.length + 1
theorem mem_at {l : List Int} {x : Int} (h : x ∈ l) : ∃ j, j < l.length ∧ l.getD j 0 = x := by
  obtain ⟨j, hj, e⟩ := List.mem_iff_getElem.1 h
  exact ⟨j, hj, by rw [List.getD_eq_getElem?_getD, List.getElem?_eq_getElem hj]; exact e⟩
theorem end_false {l : List Int} {n : Int} {O : List Int} (hs : l.Pairwise (· < ·)) (h : AddInv l n l.length O false) : Good l n (O ++ [n]) := by
  obtain ⟨h1, h2, -⟩ := h
  obtain ⟨rfl, h3⟩ := h2 rfl
  rw [List.take_length]
  refine ⟨?_, fun x => by simp, by simp⟩
  rw [List.pairwise_append]
  refine ⟨hs, by simp, fun a ha b hb => ?_⟩
  rw [List.mem_singleton] at hb
  obtain ⟨j, hj, rfl⟩ := mem_at ha
  rw [hb]
  exact h3 j hj
theorem end_true {l : List Int} {n : Int} {O : List Int} (hs : l.Pairwise (· < ·)) (h : AddInv l n l.length O true) : Good l n O := by
  obtain ⟨h1, -, h2⟩ := h
  obtain ⟨p, hp, rfl, h3, h4⟩ := h2 rfl
  rw [List.take_length]
  have hd : ∀ b ∈ l.drop p, n < b := by
    intro b hb
    obtain ⟨j, hj, rfl⟩ := mem_at hb
    rw [List.length_drop] at hj
    have e : (l.drop p).getD j 0 = l.getD (p + j) 0 := by simp [List.getD, List.getElem?_drop]
    rw [e]
    by_cases h0 : j = 0
    · subst h0; exact h4
    · have h5 := List.pairwise_iff_getElem.1 hs p (p + j) hp (by omega) (by omega)
      have e1 : l.getD p 0 = l[p]'hp := by rw [List.getD_eq_getElem?_getD, List.getElem?_eq_getElem hp]; rfl
      have e2 : l.getD (p + j) 0 = l[p + j]'(by omega) := by rw [List.getD_eq_getElem?_getD, List.getElem?_eq_getElem (by omega)]; rfl
      rw [e1] at h4
      rw [e2]
      omega
  have ht : ∀ a ∈ l.take p, a < n := by
    intro a ha
    obtain ⟨j, hj, rfl⟩ := mem_at ha
    rw [List.length_take] at hj
    have e : (l.take p).getD j 0 = l.getD j 0 := by simp [List.getD, List.getElem?_take, show j < p by omega]
    rw [e]
    exact h3 j (by omega)
  refine ⟨?_, fun x => ?_, ?_⟩
  · rw [List.pairwise_append]
    refine ⟨hs.sublist (List.take_sublist _ _), ?_, fun a ha b hb => ?_⟩
    · rw [List.pairwise_cons]
      exact ⟨hd, hs.sublist (List.drop_sublist _ _)⟩
    · rcases List.mem_cons.1 hb with rfl | hb
      · exact ht a ha
      · have := ht a ha; have := hd b hb; omega
  · have : x ∈ l ↔ x ∈ l.take p ∨ x ∈ l.drop p := by rw [← List.mem_append, List.take_append_drop]
    rw [List.mem_append, List.mem_cons, this]
    constructor
    · rintro (h | h | h)
      · exact Or.inl (Or.inl h)
      · exact Or.inr h
      · exact Or.inl (Or.inr h)
    · rintro ((h | h) | h)
      · exact Or.inl h
      · exact Or.inr (Or.inr h)
      · exact Or.inr (Or.inl h)
  · simp; omega
theorem good_same {l : List Int} {n : Int} (hs : l.Pairwise (· < ·)) (h : n ∈ l) : Good l n l := ⟨hs, fun x => ⟨Or.inl, fun hx => hx.elim id (fun e => e ▸ h)⟩, by omega⟩
theorem ints_own {w : World} {base n : Nat} {v : Value} {l : List Int} (h : w.ownsRow base 3 1 v n (i64s l)) (hn : l.length = n) : intsIn w l v := by
  rcases h.2 with ⟨rfl, rfl⟩ | ⟨g, cap, cur, rfl, _⟩
  · obtain rfl := List.eq_nil_of_length_eq_zero hn
    exact ints_nil _ _ _ (by omega)
  · exact ints_of_row h hn
set_option maxRecDepth 100000 in
set_option maxHeartbeats 4000000 in
theorem added_any (l : List Int) (s : Value) (n : Int) (w : World) (hs : intsIn w l s) (hsl : l.Pairwise (· < ·)) (hm : l.length ≤ 1500000) :
    Calls Try.prog 54 #[s, .int .i64 n] w fun e w' => ∃ R v', e = .returned v' ∧ intsIn w' R v' ∧ Good l n R ∧ Below w.heap.size w w' := by
  obtain ⟨i0, hi0, hz0, hz1, hz2⟩ := info_int
  have hs0 := hs
  obtain ⟨oa, cap, rfl, hl, hmx, hc⟩ := hs
  have HC := hid hc
  have HS := hid hs0
  have HP := hid hsl
  obtain ⟨len, hlen⟩ : ∃ len, l.length = len := ⟨_, rfl⟩
  rw [hlen] at hl hm HC HS ⊢
  have HL := hid hlen
  clear hc hlen hs0 hsl
  go_enter Try.func54, Try.ntmps54
  go_wp2_with fail
  go_loopw [5, 6, 7] (fun d b i wr => ∃ (k c : Nat) (O : List Int) (dn : Bool), k ≤ len ∧ i = .int .i64 (k : Int) ∧ b = .bool dn ∧ O.length = c ∧ c ≤ k + 1 ∧ Hid (wr.ownsRow w.heap.size 3 1 d c (i64s O)) ∧ Hid (Below w.heap.size w wr) ∧ Hid (AddInv l n k O dn)) (fun _ _ i _ => len - (intOf i).toNat)
  case atStart => exact ⟨0, 0, [], false, Nat.zero_le _, rfl, rfl, rfl, by omega, hid (own_newB w w.heap.size (Nat.le_refl _) _), hid (below_a (Below.refl _ _) _), hid (inv_start l n)⟩
  case round =>
    obtain ⟨k, c, O, dn, hk, rfl, rfl, hO, hck, OW, BR, IV⟩ := hrel
    have HO := hid hO
    clear hO
    by_cases hlt : k < len
    · obtain ⟨b, off, rfl, hcell⟩ := HC.out k hlt
      obtain ⟨e, he⟩ : ∃ e, l.getD k 0 = e := ⟨_, rfl⟩
      rw [he] at hcell
      have q0 := cell_below BR.out hcell
      have HE := hid he
      clear he hcell
      by_cases h1 : e = n
      · subst h1
        have HM := hid (show e ∈ l by rw [← HE.out, List.getD_eq_getElem?_getD, List.getElem?_eq_getElem (by have := HL.out; omega)]; exact List.getElem_mem _)
        go_wp2
        go_ret
        exact ⟨l, _, rfl, intsIn_below BR.out HS.out, good_same HP.out HM.out, BR.out⟩
      · have hb : (e == n) = false := by rw [beq_eq_false_iff_ne]; exact h1
        have H1 := hid h1
        clear h1
        cases dn with
        | false =>
          by_cases h2 : n < e
          · have IV2 := hid (by have := inv_gt (by have := HL.out; omega) IV.out (by rw [HE.out]; exact h2); rw [HE.out] at this; exact this)
            go_wp2_with (at_builtin; go_must (with_reducible refine wpList_append_own _ rfl (.tmp 32) (.tmp 34) 28 rfl w.heap.size 3 i0 (.int .i64 0) 1 8 Try.underlying28 hi0 hz0 hz1 hz2 rfl (by decide) u5 c (i64s O) rfl (OW.out.alloc _) _ 1 1 [.int .i64 n] rfl rfl (one_newN _ wr.heap.size _ _ rfl) (one_val _) (by unfold maxLen; omega) (by omega) (by have := BR.out.size; simp; omega) ?_))
            intro v1 w1 hown hg _
            have B1 := hid (show Below w.heap.size w w1 from (BR.out.alloc BR.out.size _).grown hg (by have := BR.out.size; simp; omega) (fun i hi => (OW.out.lt i hi).1))
            have O1 := hid (show w1.ownsRow w.heap.size 3 1 v1 (c + 1) (i64s (O ++ [n])) by rw [i64s_append]; exact hown)
            have q1 := cell_below B1.out (show w.cell? ⟨b, off + k, none⟩ = some (.int .i64 e) by obtain ⟨b', off', e1, e2⟩ := HC.out k hlt; simp only [Option.some.injEq, Addr.mk.injEq, and_true] at e1; obtain ⟨rfl, rfl⟩ := e1; rw [HE.out] at e2; exact e2)
            clear hown hg q0
            go_wp2_with (at_builtin; go_must (with_reducible refine wpList_append_own _ rfl (.tmp 36) (.tmp 41) 28 rfl w.heap.size 3 i0 (.int .i64 0) 1 8 Try.underlying28 hi0 hz0 hz1 hz2 rfl (by decide) v1 (c + 1) (i64s (O ++ [n])) rfl (O1.out.alloc _) _ 1 1 [.int .i64 e] rfl rfl (one_newN _ w1.heap.size _ _ rfl) (one_val _) (by unfold maxLen; omega) (by omega) (by have := B1.out.size; simp; omega) ?_))
            intro v2 w2 hown hg _
            have B2 := hid (show Below w.heap.size w w2 from (B1.out.alloc B1.out.size _).grown hg (by have := B1.out.size; simp; omega) (fun i hi => (O1.out.lt i hi).1))
            have O2 := hid (show w2.ownsRow w.heap.size 3 1 v2 (c + 1 + 1) (i64s (O ++ [n] ++ [e])) by rw [i64s_append (O ++ [n])]; exact hown)
            clear hown hg q1
            go_wp2
            go_roundw
            case rel => exact ⟨k + 1, c + 1 + 1, O ++ [n] ++ [e], true, by omega, by go_num, rfl, by simp [HO.out], by have := IV.out.2.1 rfl; have h5 := HO.out; rw [this.1, List.length_take] at h5; omega, O2, B2, IV2⟩
            case measure => simp [intOf]; omega
          · have IV2 := hid (by have := inv_lt (by have := HL.out; omega) IV.out (by rw [HE.out]; have := H1.out; omega); rw [HE.out] at this; exact this)
            have h3 : decide (n < e) = false := by simp; omega
            go_wp2_with (at_builtin; go_must (with_reducible refine wpList_append_own _ rfl (.tmp 36) (.tmp 41) 28 rfl w.heap.size 3 i0 (.int .i64 0) 1 8 Try.underlying28 hi0 hz0 hz1 hz2 rfl (by decide) u5 c (i64s O) rfl (OW.out.alloc _) _ 1 1 [.int .i64 e] rfl rfl (one_newN _ wr.heap.size _ _ rfl) (one_val _) (by unfold maxLen; omega) (by omega) (by have := BR.out.size; simp; omega) ?_))
            intro v1 w1 hown hg _
            have B1 := hid (show Below w.heap.size w w1 from (BR.out.alloc BR.out.size _).grown hg (by have := BR.out.size; simp; omega) (fun i hi => (OW.out.lt i hi).1))
            have O1 := hid (show w1.ownsRow w.heap.size 3 1 v1 (c + 1) (i64s (O ++ [e])) by rw [i64s_append]; exact hown)
            clear hown hg q0
            go_wp2
            go_roundw
            case rel => exact ⟨k + 1, c + 1, O ++ [e], false, by omega, by go_num, rfl, by simp [HO.out], by omega, O1, B1, IV2⟩
            case measure => simp [intOf]; omega
        | true =>
          have IV2 := hid (by have := inv_done (by have := HL.out; omega) IV.out (by rw [HE.out]; exact H1.out); rw [HE.out] at this; exact this)
          go_wp2_with (at_builtin; go_must (with_reducible refine wpList_append_own _ rfl (.tmp 36) (.tmp 41) 28 rfl w.heap.size 3 i0 (.int .i64 0) 1 8 Try.underlying28 hi0 hz0 hz1 hz2 rfl (by decide) u5 c (i64s O) rfl (OW.out.alloc _) _ 1 1 [.int .i64 e] rfl rfl (one_newN _ wr.heap.size _ _ rfl) (one_val _) (by unfold maxLen; omega) (by omega) (by have := BR.out.size; simp; omega) ?_))
          all_goals
            intro v1 w1 hown hg _
            have B1 := hid (show Below w.heap.size w w1 from (BR.out.alloc BR.out.size _).grown hg (by have := BR.out.size; simp; omega) (fun i hi => (OW.out.lt i hi).1))
            have O1 := hid (show w1.ownsRow w.heap.size 3 1 v1 (c + 1) (i64s (O ++ [e])) by rw [i64s_append]; exact hown)
            clear hown hg q0
            go_wp2
            go_roundw
            case rel => exact ⟨k + 1, c + 1, O ++ [e], true, by omega, by go_num, rfl, by simp [HO.out], by omega, O1, B1, IV2⟩
            case measure => simp [intOf]; omega
    · have hkl : len = k := by omega
      have IV2 := hid (show AddInv l n l.length O dn by rw [HL.out, hkl]; exact IV.out)
      clear hkl
      cases dn with
      | false =>
        have HG := hid (end_false HP.out IV2.out)
        go_wp2_with (at_builtin; go_must (with_reducible refine wpList_append_own _ rfl (.tmp 45) (.tmp 47) 28 rfl w.heap.size 3 i0 (.int .i64 0) 1 8 Try.underlying28 hi0 hz0 hz1 hz2 rfl (by decide) u5 c (i64s O) rfl (OW.out.alloc _) _ 1 1 [.int .i64 n] rfl rfl (one_newN _ wr.heap.size _ _ rfl) (one_val _) (by unfold maxLen; omega) (by omega) (by have := BR.out.size; simp; omega) ?_))
        intro v1 w1 hown hg _
        have B1 := hid (show Below w.heap.size w w1 from (BR.out.alloc BR.out.size _).grown hg (by have := BR.out.size; simp; omega) (fun i hi => (OW.out.lt i hi).1))
        have O1 := hid (show w1.ownsRow w.heap.size 3 1 v1 (c + 1) (i64s (O ++ [n])) by rw [i64s_append]; exact hown)
        clear hown hg
        go_wp2
        go_ret
        exact ⟨_, _, rfl, ints_own O1.out (by simp [HO.out]), HG.out, B1.out⟩
      | true =>
        have HG := hid (end_true HP.out IV2.out)
        go_wp2
        go_ret
        exact ⟨_, _, rfl, ints_own OW.out HO.out, HG.out, BR.out⟩
/-- Two increasing lists with the same numbers are one. -/
theorem sorted_ext : ∀ (a b : List Int), a.Pairwise (· < ·) → b.Pairwise (· < ·) → (∀ x, x ∈ a ↔ x ∈ b) → a = b
  | [], [], _, _, _ => rfl
  | [], y :: b, _, _, h => absurd ((h y).2 (List.mem_cons_self ..)) (by simp)
  | x :: a, [], _, _, h => absurd ((h x).1 (List.mem_cons_self ..)) (by simp)
  | x :: a, y :: b, ha, hb, h => by
    rw [List.pairwise_cons] at ha hb
    have hxy : x = y := by
      have h1 := (h x).1 (List.mem_cons_self ..)
      have h2 := (h y).2 (List.mem_cons_self ..)
      rcases List.mem_cons.1 h1 with rfl | h1
      · rfl
      · rcases List.mem_cons.1 h2 with h2 | h2
        · exact h2.symm
        · have := hb.1 x h1; have := ha.1 y h2; omega
    subst hxy
    congr 1
    refine sorted_ext a b ha.2 hb.2 (fun z => ⟨fun hz => ?_, fun hz => ?_⟩)
    · rcases List.mem_cons.1 ((h z).1 (List.mem_cons_of_mem _ hz)) with rfl | h3
      · have := ha.1 z hz; omega
      · exact h3
    · rcases List.mem_cons.1 ((h z).2 (List.mem_cons_of_mem _ hz)) with rfl | h3
      · have := hb.1 z hz; omega
      · exact h3
theorem sortU_app (xs : List Int) (n : Int) (R : List Int) (h : Good (sortU xs) n R) : R = sortU (xs ++ [n]) :=
  sorted_ext _ _ h.1 (sortU_lt _) (fun x => by rw [h.2.1, sortU_mem, sortU_mem, List.mem_append, List.mem_singleton])
set_option maxHeartbeats 1000000 in
theorem union_any (xs : List Int) (B : List Int) (s u : Value) (w : World) (hs : intsIn w (sortU xs) s) (hu : intsIn w B u) (hm : xs.length + B.length ≤ 1400000) :
    Calls Try.prog 48 #[s, u] w fun e w' => ∃ v', e = .returned v' ∧ intsIn w' (sortU (xs ++ B)) v' ∧ Below w.heap.size w w' := by
  obtain ⟨ob, cb, rfl, hb1, hb2, hbc⟩ := hu
  have HC := hid hbc
  have HS := hid hs
  obtain ⟨len, hlen⟩ : ∃ len, B.length = len := ⟨_, rfl⟩
  rw [hlen] at hb1 hm HC ⊢
  have HL := hid hlen
  clear hbc hlen hs
  go_enter Try.func48, Try.ntmps48
  go_wp2_with fail
  go_loopw [0, 5] (fun d i wr => ∃ k : Nat, k ≤ len ∧ i = .int .i64 (k : Int) ∧ Hid (intsIn wr (sortU (xs ++ B.take k)) d) ∧ Hid (Below w.heap.size w wr)) (fun _ i _ => len - (intOf i).toNat)
  case atStart => exact ⟨0, Nat.zero_le _, rfl, hid (by simpa using HS.out), hid (Below.refl _ _)⟩
  case round =>
    obtain ⟨k, hk, rfl, IN, BR⟩ := hrel
    by_cases hlt : k < len
    · obtain ⟨b, off, rfl, hcell⟩ := HC.out k hlt
      obtain ⟨e, he⟩ : ∃ e, B.getD k 0 = e := ⟨_, rfl⟩
      rw [he] at hcell
      have q0 := cell_below BR.out hcell
      have HE := hid he
      clear he hcell
      go_wp2_with fail
      refine (added_any _ _ e _ IN.out (sortU_lt _) (by have := sortU_len (xs ++ B.take k); rw [List.length_append, List.length_take] at this; omega)).mono ?_
      rintro e2 w2 ⟨R, v2, rfl, hi, hg, hb⟩
      have I2 := hid (show intsIn w2 (sortU (xs ++ B.take (k + 1))) v2 by
        rw [take_snoc B k (by have := HL.out; omega), HE.out, ← List.append_assoc, ← sortU_app _ _ _ hg]
        exact hi)
      have B2 := hid (below_step BR.out hb)
      clear hi hg hb q0
      go_wp2
      go_roundw
      case rel => exact ⟨k + 1, by omega, by go_num, I2, B2⟩
      case measure => simp [intOf]; omega
    · have I2 := hid (show intsIn wr (sortU (xs ++ B)) u0 by
        have h := IN.out
        rw [List.take_of_length_le (by have := HL.out; omega)] at h
        exact h)
      go_wp2
      go_ret
      exact ⟨_, rfl, I2.out, BR.out⟩
theorem sortU_two (xs ys : List Int) : sortU (xs ++ sortU ys) = sortU (xs ++ ys) :=
  sorted_ext _ _ (sortU_lt _) (sortU_lt _) (fun x => by rw [sortU_mem, sortU_mem, List.mem_append, List.mem_append, sortU_mem])
end Go.Proofs.Ytcjambgbbmffiaa

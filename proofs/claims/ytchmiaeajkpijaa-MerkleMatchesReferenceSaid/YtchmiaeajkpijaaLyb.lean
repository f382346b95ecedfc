import Derived.Test.YtchmiaeajkpijaaLya
import Derived.Deep.Cut
namespace Go.Proofs.Ytchmiaeajkpijaa
open Go.RowKit Go.Instr
set_option linter.unusedVariables false

/-! The reference's 'path' and 'Open'. -/
theorem rtop_b (v : Value) (l : List (BitVec 64)) (w : World) (h : U64At w v l) : Calls Try.prog 19 #[v] w fun e w' => e = .returned (.int .u64 ((topB l).toNat : Int)) ∧ Below w.heap.size w w' := (rtop_any v l w h).mono fun e w' ⟨h1, h2⟩ => ⟨h1, below_dn h2⟩
theorem sibs_shift (k : Nat) : ∀ f a b i, b - a ≤ f → a ≤ i → sibs (a + k) (b + k) (i + k) = (sibs a b i).map fun s => ⟨s.lo + k, s.hi + k, s.ahead⟩ := by
  intro f
  induction f with
  | zero =>
    intro a b i h1 h2
    rw [sibs_one (i + k) (by omega), sibs_one i (by omega)]
    rfl
  | succ f ih =>
    intro a b i h1 h2
    by_cases h : 2 ≤ b - a
    · obtain ⟨p1, p2, -⟩ := pw_bd h
      have e : b + k - (a + k) = b - a := by omega
      by_cases hi : i < a + pw (b - a)
      · rw [sibs_low h hi, sibs_low (a := a + k) (b := b + k) (i := i + k) (by omega) (by rw [e]; omega), e]
        rw [show a + k + pw (b - a) = a + pw (b - a) + k by omega, ih a (a + pw (b - a)) i (by omega) h2]
        simp
      · rw [sibs_high h hi, sibs_high (a := a + k) (b := b + k) (i := i + k) (by omega) (by rw [e]; omega), e]
        rw [show a + k + pw (b - a) = a + pw (b - a) + k by omega, ih (a + pw (b - a)) b i (by omega) (by omega)]
        simp
    · rw [sibs_one (i + k) (by omega), sibs_one i (by omega)]
      rfl
theorem path_12 {l : List (BitVec 64)} (i : Nat) (h : l.length ≤ 4096) : (pathB l i).length ≤ 12 := by simp only [pathB, List.length_map]; exact sibs_len12 i h
theorem path_low {l : List (BitVec 64)} {i : Nat} (h : 2 ≤ l.length) (hi : i < l.length) (hp : i < pw l.length) : pathB l i = pathB (l.take (pw l.length)) i ++ [topB (l.drop (pw l.length))] := by
  obtain ⟨p1, p2, -⟩ := pw_bd h
  have hl : (l.take (pw l.length)).length = pw l.length := by rw [List.length_take]; omega
  simp only [pathB]
  rw [hl, sibs_low (a := 0) (b := l.length) (by omega) (by simp only [Nat.sub_zero]; omega)]
  simp only [List.map_append, List.map_cons, List.map_nil, Nat.sub_zero, Nat.zero_add]
  congr 1
  · refine List.map_congr_left fun s hs => ?_
    have := sibs_in (pw l.length) 0 (pw l.length) i (by omega) (by omega) hp s hs
    simp only [partOf, List.take_take]
    rw [Nat.min_eq_left this.2.2]
  · simp [partOf]
theorem path_high {l : List (BitVec 64)} {i : Nat} (h : 2 ≤ l.length) (hi : i < l.length) (hp : ¬ i < pw l.length) : pathB l i = pathB (l.drop (pw l.length)) (i - pw l.length) ++ [topB (l.take (pw l.length))] := by
  obtain ⟨p1, p2, -⟩ := pw_bd h
  have hl : (l.drop (pw l.length)).length = l.length - pw l.length := List.length_drop
  have hs := sibs_shift (pw l.length) l.length 0 (l.length - pw l.length) (i - pw l.length) (by omega) (by omega)
  rw [Nat.zero_add, show l.length - pw l.length + pw l.length = l.length by omega, show i - pw l.length + pw l.length = i by omega] at hs
  simp only [pathB]
  rw [hl, sibs_high (a := 0) (b := l.length) (by omega) (by simp only [Nat.sub_zero]; omega)]
  simp only [List.map_append, List.map_cons, List.map_nil, Nat.sub_zero, Nat.zero_add]
  rw [hs, List.map_map]
  congr 1
  refine List.map_congr_left fun s _ => ?_
  simp only [partOf, Function.comp, List.take_drop, List.drop_drop]
  rw [Nat.add_comm (pw l.length) s.hi, Nat.add_comm (pw l.length) s.lo]
def PathOk (l : List (BitVec 64)) (i : Nat) (W : World) : Ending → World → Prop := fun e w' => ∃ v, e = .returned v ∧ w'.ownsRow W.heap.size 23 1 v (pathB l i).length (u64s (pathB l i)) ∧ Below W.heap.size W w'
theorem own_belowM {w w' : World} {base : Nat} {e : TypeId} {size : Nat} {v : Value} {n : Nat} {xs : List Value} (h : w.ownsRow base e size v n xs) (hb : Below w.heap.size w w') : w'.ownsRow base e size v n xs := by
  refine ⟨h.1, ?_⟩
  rcases h.2 with h1 | ⟨g, cap, cur, hv, hbg, hh, h1, h2, h3, h4⟩
  · exact .inl h1
  · exact .inr ⟨g, cap, cur, hv, hbg, (hb.block g (Array.getElem?_eq_some_iff.1 hh).1).trans hh, h1, h2, h3, h4⟩

theorem path_lo (f : Nat) (ih : ∀ (v : Value) (l : List (BitVec 64)) (i : Nat), l.length ≤ f → i < l.length → l.length ≤ 4096 → ∀ (w : World), U64At w v l → Calls Try.prog 17 #[v, .int .i64 (i : Int)] w (PathOk l i w)) (l : List (BitVec 64)) (i : Nat) (b o c : Nat) (hf : l.length ≤ f + 1) (h2 : 2 ≤ l.length) (hn : l.length ≤ 4096) (hi : i < l.length) (hp : i < pw l.length) (w : World) (c1 : l.length ≤ c) (c2 : c ≤ 9223372036854775807) (hc : ∀ i (hi : i < l.length), w.cell? ⟨b, o + i, none⟩ = some (.int .u64 (l[i].toNat : Int))) :
    Calls Try.prog 17 #[.slice (some ⟨b, o, none⟩) l.length c, .int .i64 (i : Int)] w (PathOk l i w) := by
  have hm : l.length ≤ 1000000 := by omega
  obtain ⟨p1, p2, -⟩ := pw_bd h2
  obtain ⟨i0, hi0, hz0, hz1, hz2⟩ := info_parts infoU64
  have PW := hid (fun W => half_any l.length h2 (by omega) W)
  have C := hid (fun (W : World) (hW : Below w.heap.size w W) => ih (.slice (some ⟨b, o, none⟩) (pw l.length) c) (l.take (pw l.length)) i (by simp; omega) (by simp; omega) (by simp; omega) W (U64At.take (pw l.length) c1 c2 hm (by omega) (fun i hi => cell_below hW (hc i hi))))
  have T := hid (fun (W : World) (hW : Below w.heap.size w W) => rtop_b (.slice (some ⟨b, o + pw l.length, none⟩) (l.length - pw l.length) (c - pw l.length)) (l.drop (pw l.length)) W (U64At.drop (pw l.length) c1 c2 hm (by omega) (fun i hi => cell_below hW (hc i hi))))
  have E := hid (path_low h2 hi hp)
  have L := hid (show (pathB (l.take (pw l.length)) i).length ≤ 12 from path_12 _ (by simp; omega))
  have t2 : ((l.length : Int) == 1) = false := by rw [beq_eq_false_iff_ne]; omega
  have d2 : decide ((i : Int) < (pw l.length : Int)) = true := by simp; omega
  
  have t3 : ¬ c = pw l.length := by omega
  have t5 : pw l.length ≤ c := by omega
  have t4 : (pw l.length : Int) ≤ (l.length : Int) := by omega
  obtain ⟨x, hx⟩ : ∃ x, topB (l.drop (pw l.length)) = x := ⟨_, rfl⟩
  obtain ⟨P, hP⟩ : ∃ P, pathB (l.take (pw l.length)) i = P := ⟨_, rfl⟩
  obtain ⟨Z, hZ⟩ : ∃ P, pathB l i = P := ⟨_, rfl⟩
  unfold PathOk at C ⊢
  rw [hP] at C E L
  rw [hx] at T E
  rw [hZ] at E ⊢
  clear ih hf hc hm hx hP hZ
  generalize hk : pw l.length = k at *
  generalize hN : l.length = N at *
  
  
  clear hk hN
  go_enter Try.func17, Try.ntmps17
  go_wp2_with fail
  refine (PW.out _).mono ?_
  rintro e w' ⟨rfl, rfl⟩
  go_upto_region 5 with fail
  have hsd := (Below.refl w.heap.size w).drew
  refine wp_region_held_drew (S := fun W' => Below w.heap.size w W') (by kernel_rfl) ?_ (fun hHeld => ?_)
  · exact hsd
  refine wpAnyH_take (i := 0) (oi := ({ dst := some 15, op := Op.move (Operand.tmp 0), type := 22, pos := "ref.go:46", after := #[], guard := none } : Oper)) (v := ?_) rfl (by kernel_rfl) (by kernel_rfl) (by kernel_rfl) (fun _ _ _ h => h) (Or.inl ⟨by rfl, ?_⟩) (by assumption) ?_
  rotate_left
  · intro w hSw; (try dsimp only at hSw); go_simp <;> with_reducible rfl
  (try simp only [Act.put, List.setIfInBounds_toArray, List.set_cons_zero, List.set_cons_succ])
  refine wpAnyH_take (i := 1) (oi := ({ dst := some 16, op := Op.move (Operand.tmp 5), type := 3, pos := "ref.go:46", after := #[], guard := none } : Oper)) (v := ?_) rfl (by kernel_rfl) (by kernel_rfl) (by kernel_rfl) (fun _ _ _ h => h) (Or.inl ⟨by rfl, ?_⟩) (by assumption) ?_
  rotate_left
  · intro w hSw; (try dsimp only at hSw); go_simp <;> with_reducible rfl
  (try simp only [Act.put, List.setIfInBounds_toArray, List.set_cons_zero, List.set_cons_succ])
  refine wpAnyH_take (i := 2) (oi := ({ dst := some 17, op := Op.slice 22 (Operand.tmp 15) none (some (Operand.tmp 16)) none, type := 22, pos := "ref.go:46", after := #[{ on := 0, ground := Ground.data }, { on := 1, ground := Ground.data }], guard := none } : Oper)) (v := ?_) rfl (by kernel_rfl) (by kernel_rfl) (by kernel_rfl) (fun _ _ _ h => h) (Or.inl ⟨by rfl, ?_⟩) (by assumption) ?_
  rotate_left
  · intro w hSw; (try dsimp only at hSw); go_simp <;> with_reducible rfl
  (try simp only [Act.put, List.setIfInBounds_toArray, List.set_cons_zero, List.set_cons_succ])
  refine wpAnyH_take (i := 3) (oi := ({ dst := some 18, op := Op.move (Operand.tmp 1), type := 3, pos := "ref.go:46", after := #[], guard := none } : Oper)) (v := ?_) rfl (by kernel_rfl) (by kernel_rfl) (by kernel_rfl) (fun _ _ _ h => h) (Or.inl ⟨by rfl, ?_⟩) (by assumption) ?_
  rotate_left
  · intro w hSw; (try dsimp only at hSw); go_simp <;> with_reducible rfl
  (try simp only [Act.put, List.setIfInBounds_toArray, List.set_cons_zero, List.set_cons_succ])
  refine wpAnyH_take (i := 5) (oi := ({ dst := some 20, op := Op.move (Operand.tmp 0), type := 22, pos := "ref.go:46", after := #[], guard := none } : Oper)) (v := ?_) rfl (by kernel_rfl) (by kernel_rfl) (by kernel_rfl) (fun _ _ _ h => h) (Or.inl ⟨by rfl, ?_⟩) (by assumption) ?_
  rotate_left
  · intro w hSw; (try dsimp only at hSw); go_simp <;> with_reducible rfl
  (try simp only [Act.put, List.setIfInBounds_toArray, List.set_cons_zero, List.set_cons_succ])
  refine wpAnyH_take (i := 6) (oi := ({ dst := some 21, op := Op.move (Operand.tmp 5), type := 3, pos := "ref.go:46", after := #[], guard := none } : Oper)) (v := ?_) rfl (by kernel_rfl) (by kernel_rfl) (by kernel_rfl) (fun _ _ _ h => h) (Or.inl ⟨by rfl, ?_⟩) (by assumption) ?_
  rotate_left
  · intro w hSw; (try dsimp only at hSw); go_simp <;> with_reducible rfl
  (try simp only [Act.put, List.setIfInBounds_toArray, List.set_cons_zero, List.set_cons_succ])
  refine wpAnyH_take (i := 7) (oi := ({ dst := some 22, op := Op.slice 22 (Operand.tmp 20) (some (Operand.tmp 21)) none none, type := 22, pos := "ref.go:46", after := #[{ on := 5, ground := Ground.data }, { on := 6, ground := Ground.data }], guard := none } : Oper)) (v := ?_) rfl (by kernel_rfl) (by kernel_rfl) (by kernel_rfl) (fun _ _ _ h => h) (Or.inl ⟨by rfl, ?_⟩) (by assumption) ?_
  rotate_left
  · intro w hSw; (try dsimp only at hSw); go_simp <;> with_reducible rfl
  (try simp only [Act.put, List.setIfInBounds_toArray, List.set_cons_zero, List.set_cons_succ])
  refine wpAnyH_ready (rs := [4]) (by kernel_rfl) (by simp) ?_
  refine AllReadyH.cons (o := ({ dst := some 19, op := Op.call { callee := Callee.value (Operand.func 17), args := #[Operand.tmp 17, Operand.tmp 18], argTypes := #[22, 3] }, type := 22, pos := "ref.go:46", after := #[{ on := 2, ground := Ground.data }, { on := 3, ground := Ground.data }], guard := none } : Oper)) rfl (fun K hK => ?_) ?_
  rotate_left
  · exact AllReadyH.nil
  go_simp
  go_at_call 17
  with_reducible refine (C.out _ hsd).mono ?_
  rintro e y0 ⟨v1, rfl, hown, hq0⟩
  have hB0 := below_step hsd hq0
  clear hHeld
  first | (with_reducible refine hK.out _ _ ?_ (fun hHeld => ?_)) | (go_wp2_with fail; with_reducible refine hK.out _ _ ?_ (fun hHeld => ?_))
  · exact hB0
  clear hK K
  (try simp only [Act.put, List.setIfInBounds_toArray, List.set_cons_zero, List.set_cons_succ])
  refine wpAnyH_ready (rs := [8]) (by kernel_rfl) (by simp) ?_
  refine AllReadyH.cons (o := ({ dst := some 23, op := Op.call { callee := Callee.value (Operand.func 19), args := #[Operand.tmp 22], argTypes := #[22] }, type := 23, pos := "ref.go:46", after := #[{ on := 7, ground := Ground.data }, { on := 4, ground := Ground.chain }], guard := none } : Oper)) rfl (fun K hK => ?_) ?_
  rotate_left
  · exact AllReadyH.nil
  go_simp
  go_at_call 19
  with_reducible refine (T.out _ hB0).mono ?_
  rintro e y1 ⟨rfl, hq1⟩
  have hB1 := below_step hB0 hq1
  clear hHeld
  first | (with_reducible refine hK.out _ _ ?_ (fun hHeld => ?_)) | (go_wp2_with fail; with_reducible refine hK.out _ _ ?_ (fun hHeld => ?_))
  · exact hB1
  clear hK K
  (try simp only [Act.put, List.setIfInBounds_toArray, List.set_cons_zero, List.set_cons_succ])
  refine wpAnyH_ready (rs := [9]) (by kernel_rfl) (by simp) ?_
  refine AllReadyH.cons (o := ({ dst := some 24, op := Op.buildSlice 22 1 #[(0, Operand.tmp 23)], type := 22, pos := "ref.go:46", after := #[{ on := 8, ground := Ground.data }], guard := none } : Oper)) rfl (fun K hK => ?_) ?_
  rotate_left
  · exact AllReadyH.nil
  go_simp
  have hM2 := below_a hB1 (.cells #[.int .u64 (x.toNat : Int)] 23)
  clear hHeld
  first | (with_reducible refine hK.out _ _ ?_ (fun hHeld => ?_)) | (go_wp2_with fail; with_reducible refine hK.out _ _ ?_ (fun hHeld => ?_))
  · exact hM2
  clear hK K
  (try simp only [Act.put, List.setIfInBounds_toArray, List.set_cons_zero, List.set_cons_succ])
  refine wpAnyH_ready (rs := [10]) (by kernel_rfl) (by simp) ?_
  refine AllReadyH.cons (o := ({ dst := some 25, op := Op.call { callee := Callee.builtin Builtin.append, args := #[Operand.tmp 19, Operand.tmp 24], argTypes := #[22, 22] }, type := 22, pos := "ref.go:46", after := #[{ on := 4, ground := Ground.data }, { on := 9, ground := Ground.data }, { on := 8, ground := Ground.chain }], guard := none } : Oper)) rfl (fun K hK => ?_) ?_
  rotate_left
  · exact AllReadyH.nil
  have OW := own_belowM hown hq1
  refine step_app1 (by rfl) (.tmp 19) (.tmp 24) 22 (by rfl) w.heap.size 23 i0 (.int .u64 0) 8 Try.underlying22 hi0 hz0 hz1 hz2 (by rfl) (by decide) v1 P.length (u64s P) (by rfl) (OW.alloc _) _ (.int .u64 (x.toNat : Int)) 1 (by rfl) (Boxed.cell (Boxed.new _ _ _)) (by rfl) (by have := L.out; omega) (hM2.size) ?_
  intro v6 w6 hown6 hg6
  have B6 : Below w.heap.size w w6 := hM2.grown hg6 hM2.size (fun k hk => (OW.lt k hk).1)
  have HO := hid (show w6.ownsRow w.heap.size 23 1 v6 Z.length (u64s Z) by
    rw [E.out]
    simp only [u64s, List.map_append, List.map_cons, List.map_nil, List.length_append, List.length_cons, List.length_nil, Nat.zero_add]
    exact hown6)
  clear OW hown hown6 hg6
  clear hHeld
  first | (with_reducible refine hK.out _ _ ?_ (fun hHeld => ?_)) | (go_wp2_with fail; with_reducible refine hK.out _ _ ?_ (fun hHeld => ?_))
  · exact B6
  clear hK K
  (try simp only [Act.put, List.setIfInBounds_toArray, List.set_cons_zero, List.set_cons_succ])
  refine wpAnyH_take (i := 11) (oi := ({ dst := some 4, op := Op.assign (Operand.tmp 25), type := 22, pos := "ref.go:46", after := #[{ on := 10, ground := Ground.data }, { on := 10, ground := Ground.chain }, { on := 0, ground := Ground.phase }, { on := 1, ground := Ground.phase }, { on := 2, ground := Ground.phase }, { on := 3, ground := Ground.phase }, { on := 4, ground := Ground.phase }, { on := 5, ground := Ground.phase }, { on := 6, ground := Ground.phase }, { on := 7, ground := Ground.phase }, { on := 8, ground := Ground.phase }, { on := 9, ground := Ground.phase }, { on := 10, ground := Ground.phase }], guard := none } : Oper)) (v := ?_) rfl (by kernel_rfl) (by kernel_rfl) (by kernel_rfl) (fun _ _ _ h => h) (Or.inl ⟨by rfl, ?_⟩) (by assumption) ?_
  rotate_left
  · intro w hSw; (try dsimp only at hSw); go_simp <;> with_reducible rfl
  (try simp only [Act.put, List.setIfInBounds_toArray, List.set_cons_zero, List.set_cons_succ])
  refine wpAnyH_done (by kernel_rfl) ?_ _
  have BB := hid B6
  clear hHeld
  go_wp2_with fail
  go_ret
  exact ⟨_, rfl, HO.out, BB.out⟩


theorem path_hi (f : Nat) (ih : ∀ (v : Value) (l : List (BitVec 64)) (i : Nat), l.length ≤ f → i < l.length → l.length ≤ 4096 → ∀ (w : World), U64At w v l → Calls Try.prog 17 #[v, .int .i64 (i : Int)] w (PathOk l i w)) (l : List (BitVec 64)) (i : Nat) (b o c : Nat) (hf : l.length ≤ f + 1) (h2 : 2 ≤ l.length) (hn : l.length ≤ 4096) (hi : i < l.length) (hp : ¬ i < pw l.length) (w : World) (c1 : l.length ≤ c) (c2 : c ≤ 9223372036854775807) (hc : ∀ i (hi : i < l.length), w.cell? ⟨b, o + i, none⟩ = some (.int .u64 (l[i].toNat : Int))) :
    Calls Try.prog 17 #[.slice (some ⟨b, o, none⟩) l.length c, .int .i64 (i : Int)] w (PathOk l i w) := by
  have hm : l.length ≤ 1000000 := by omega
  obtain ⟨p1, p2, -⟩ := pw_bd h2
  obtain ⟨i0, hi0, hz0, hz1, hz2⟩ := info_parts infoU64
  have PW := hid (fun W => half_any l.length h2 (by omega) W)
  have C := hid (fun (W : World) (hW : Below w.heap.size w W) => ih (.slice (some ⟨b, o + pw l.length, none⟩) (l.length - pw l.length) (c - pw l.length)) (l.drop (pw l.length)) (i - pw l.length) (by simp; omega) (by simp; omega) (by simp; omega) W (U64At.drop (pw l.length) c1 c2 hm (by omega) (fun i hi => cell_below hW (hc i hi))))
  have T := hid (fun (W : World) (hW : Below w.heap.size w W) => rtop_b (.slice (some ⟨b, o, none⟩) (pw l.length) c) (l.take (pw l.length)) W (U64At.take (pw l.length) c1 c2 hm (by omega) (fun i hi => cell_below hW (hc i hi))))
  have E := hid (path_high h2 hi hp)
  have L := hid (show (pathB (l.drop (pw l.length)) (i - pw l.length)).length ≤ 12 from path_12 _ (by simp; omega))
  have t2 : ((l.length : Int) == 1) = false := by rw [beq_eq_false_iff_ne]; omega
  have d2 : decide ((i : Int) < (pw l.length : Int)) = false := by simp; omega
  have s2 : IntKind.i64.wrap ((i : Int) - (pw l.length : Int)) = ((i - pw l.length : Nat) : Int) := by rw [IntKind.wrap_i64]; omega
  have t3 : ¬ c = pw l.length := by omega
  have t5 : pw l.length ≤ c := by omega
  have t4 : (pw l.length : Int) ≤ (l.length : Int) := by omega
  obtain ⟨x, hx⟩ : ∃ x, topB (l.take (pw l.length)) = x := ⟨_, rfl⟩
  obtain ⟨P, hP⟩ : ∃ P, pathB (l.drop (pw l.length)) (i - pw l.length) = P := ⟨_, rfl⟩
  obtain ⟨Z, hZ⟩ : ∃ P, pathB l i = P := ⟨_, rfl⟩
  unfold PathOk at C ⊢
  rw [hP] at C E L
  rw [hx] at T E
  rw [hZ] at E ⊢
  clear ih hf hc hm hx hP hZ
  generalize hk : pw l.length = k at *
  generalize hN : l.length = N at *
  obtain ⟨j, hj⟩ : ∃ j, i - k = j := ⟨_, rfl⟩
  rw [hj] at C s2
  clear hk hN hj
  go_enter Try.func17, Try.ntmps17
  go_wp2_with fail
  refine (PW.out _).mono ?_
  rintro e w' ⟨rfl, rfl⟩
  go_upto_region 6 with fail
  have hsd := (Below.refl w.heap.size w).drew
  refine wp_region_held_drew (S := fun W' => Below w.heap.size w W') (by kernel_rfl) ?_ (fun hHeld => ?_)
  · exact hsd
  refine wpAnyH_take (i := 0) (oi := ({ dst := some 26, op := Op.move (Operand.tmp 0), type := 22, pos := "ref.go:48", after := #[], guard := none } : Oper)) (v := ?_) rfl (by kernel_rfl) (by kernel_rfl) (by kernel_rfl) (fun _ _ _ h => h) (Or.inl ⟨by rfl, ?_⟩) (by assumption) ?_
  rotate_left
  · intro w hSw; (try dsimp only at hSw); go_simp <;> with_reducible rfl
  (try simp only [Act.put, List.setIfInBounds_toArray, List.set_cons_zero, List.set_cons_succ])
  refine wpAnyH_take (i := 1) (oi := ({ dst := some 27, op := Op.move (Operand.tmp 5), type := 3, pos := "ref.go:48", after := #[], guard := none } : Oper)) (v := ?_) rfl (by kernel_rfl) (by kernel_rfl) (by kernel_rfl) (fun _ _ _ h => h) (Or.inl ⟨by rfl, ?_⟩) (by assumption) ?_
  rotate_left
  · intro w hSw; (try dsimp only at hSw); go_simp <;> with_reducible rfl
  (try simp only [Act.put, List.setIfInBounds_toArray, List.set_cons_zero, List.set_cons_succ])
  refine wpAnyH_take (i := 2) (oi := ({ dst := some 28, op := Op.slice 22 (Operand.tmp 26) (some (Operand.tmp 27)) none none, type := 22, pos := "ref.go:48", after := #[{ on := 0, ground := Ground.data }, { on := 1, ground := Ground.data }], guard := none } : Oper)) (v := ?_) rfl (by kernel_rfl) (by kernel_rfl) (by kernel_rfl) (fun _ _ _ h => h) (Or.inl ⟨by rfl, ?_⟩) (by assumption) ?_
  rotate_left
  · intro w hSw; (try dsimp only at hSw); go_simp <;> with_reducible rfl
  (try simp only [Act.put, List.setIfInBounds_toArray, List.set_cons_zero, List.set_cons_succ])
  refine wpAnyH_take (i := 3) (oi := ({ dst := some 29, op := Op.move (Operand.tmp 1), type := 3, pos := "ref.go:48", after := #[], guard := none } : Oper)) (v := ?_) rfl (by kernel_rfl) (by kernel_rfl) (by kernel_rfl) (fun _ _ _ h => h) (Or.inl ⟨by rfl, ?_⟩) (by assumption) ?_
  rotate_left
  · intro w hSw; (try dsimp only at hSw); go_simp <;> with_reducible rfl
  (try simp only [Act.put, List.setIfInBounds_toArray, List.set_cons_zero, List.set_cons_succ])
  refine wpAnyH_take (i := 4) (oi := ({ dst := some 30, op := Op.move (Operand.tmp 5), type := 3, pos := "ref.go:48", after := #[], guard := none } : Oper)) (v := ?_) rfl (by kernel_rfl) (by kernel_rfl) (by kernel_rfl) (fun _ _ _ h => h) (Or.inl ⟨by rfl, ?_⟩) (by assumption) ?_
  rotate_left
  · intro w hSw; (try dsimp only at hSw); go_simp <;> with_reducible rfl
  (try simp only [Act.put, List.setIfInBounds_toArray, List.set_cons_zero, List.set_cons_succ])
  refine wpAnyH_take (i := 5) (oi := ({ dst := some 31, op := Op.binOp BinOp.sub 3 (Operand.tmp 29) (Operand.tmp 30) 3, type := 3, pos := "ref.go:48", after := #[{ on := 3, ground := Ground.data }, { on := 4, ground := Ground.data }], guard := none } : Oper)) (v := ?_) rfl (by kernel_rfl) (by kernel_rfl) (by kernel_rfl) (fun _ _ _ h => h) (Or.inl ⟨by rfl, ?_⟩) (by assumption) ?_
  rotate_left
  · intro w hSw; (try dsimp only at hSw); go_simp <;> with_reducible rfl
  (try simp only [Act.put, List.setIfInBounds_toArray, List.set_cons_zero, List.set_cons_succ])
  refine wpAnyH_take (i := 7) (oi := ({ dst := some 33, op := Op.move (Operand.tmp 0), type := 22, pos := "ref.go:48", after := #[], guard := none } : Oper)) (v := ?_) rfl (by kernel_rfl) (by kernel_rfl) (by kernel_rfl) (fun _ _ _ h => h) (Or.inl ⟨by rfl, ?_⟩) (by assumption) ?_
  rotate_left
  · intro w hSw; (try dsimp only at hSw); go_simp <;> with_reducible rfl
  (try simp only [Act.put, List.setIfInBounds_toArray, List.set_cons_zero, List.set_cons_succ])
  refine wpAnyH_take (i := 8) (oi := ({ dst := some 34, op := Op.move (Operand.tmp 5), type := 3, pos := "ref.go:48", after := #[], guard := none } : Oper)) (v := ?_) rfl (by kernel_rfl) (by kernel_rfl) (by kernel_rfl) (fun _ _ _ h => h) (Or.inl ⟨by rfl, ?_⟩) (by assumption) ?_
  rotate_left
  · intro w hSw; (try dsimp only at hSw); go_simp <;> with_reducible rfl
  (try simp only [Act.put, List.setIfInBounds_toArray, List.set_cons_zero, List.set_cons_succ])
  refine wpAnyH_take (i := 9) (oi := ({ dst := some 35, op := Op.slice 22 (Operand.tmp 33) none (some (Operand.tmp 34)) none, type := 22, pos := "ref.go:48", after := #[{ on := 7, ground := Ground.data }, { on := 8, ground := Ground.data }], guard := none } : Oper)) (v := ?_) rfl (by kernel_rfl) (by kernel_rfl) (by kernel_rfl) (fun _ _ _ h => h) (Or.inl ⟨by rfl, ?_⟩) (by assumption) ?_
  rotate_left
  · intro w hSw; (try dsimp only at hSw); go_simp <;> with_reducible rfl
  (try simp only [Act.put, List.setIfInBounds_toArray, List.set_cons_zero, List.set_cons_succ])
  refine wpAnyH_ready (rs := [6]) (by kernel_rfl) (by simp) ?_
  refine AllReadyH.cons (o := ({ dst := some 32, op := Op.call { callee := Callee.value (Operand.func 17), args := #[Operand.tmp 28, Operand.tmp 31], argTypes := #[22, 3] }, type := 22, pos := "ref.go:48", after := #[{ on := 2, ground := Ground.data }, { on := 5, ground := Ground.data }], guard := none } : Oper)) rfl (fun K hK => ?_) ?_
  rotate_left
  · exact AllReadyH.nil
  go_simp
  go_at_call 17
  with_reducible refine (C.out _ hsd).mono ?_
  rintro e y0 ⟨v1, rfl, hown, hq0⟩
  have hB0 := below_step hsd hq0
  clear hHeld
  first | (with_reducible refine hK.out _ _ ?_ (fun hHeld => ?_)) | (go_wp2_with fail; with_reducible refine hK.out _ _ ?_ (fun hHeld => ?_))
  · exact hB0
  clear hK K
  (try simp only [Act.put, List.setIfInBounds_toArray, List.set_cons_zero, List.set_cons_succ])
  refine wpAnyH_ready (rs := [10]) (by kernel_rfl) (by simp) ?_
  refine AllReadyH.cons (o := ({ dst := some 36, op := Op.call { callee := Callee.value (Operand.func 19), args := #[Operand.tmp 35], argTypes := #[22] }, type := 23, pos := "ref.go:48", after := #[{ on := 9, ground := Ground.data }, { on := 6, ground := Ground.chain }], guard := none } : Oper)) rfl (fun K hK => ?_) ?_
  rotate_left
  · exact AllReadyH.nil
  go_simp
  go_at_call 19
  with_reducible refine (T.out _ hB0).mono ?_
  rintro e y1 ⟨rfl, hq1⟩
  have hB1 := below_step hB0 hq1
  clear hHeld
  first | (with_reducible refine hK.out _ _ ?_ (fun hHeld => ?_)) | (go_wp2_with fail; with_reducible refine hK.out _ _ ?_ (fun hHeld => ?_))
  · exact hB1
  clear hK K
  (try simp only [Act.put, List.setIfInBounds_toArray, List.set_cons_zero, List.set_cons_succ])
  refine wpAnyH_ready (rs := [11]) (by kernel_rfl) (by simp) ?_
  refine AllReadyH.cons (o := ({ dst := some 37, op := Op.buildSlice 22 1 #[(0, Operand.tmp 36)], type := 22, pos := "ref.go:48", after := #[{ on := 10, ground := Ground.data }], guard := none } : Oper)) rfl (fun K hK => ?_) ?_
  rotate_left
  · exact AllReadyH.nil
  go_simp
  have hM2 := below_a hB1 (.cells #[.int .u64 (x.toNat : Int)] 23)
  clear hHeld
  first | (with_reducible refine hK.out _ _ ?_ (fun hHeld => ?_)) | (go_wp2_with fail; with_reducible refine hK.out _ _ ?_ (fun hHeld => ?_))
  · exact hM2
  clear hK K
  (try simp only [Act.put, List.setIfInBounds_toArray, List.set_cons_zero, List.set_cons_succ])
  refine wpAnyH_ready (rs := [12]) (by kernel_rfl) (by simp) ?_
  refine AllReadyH.cons (o := ({ dst := some 38, op := Op.call { callee := Callee.builtin Builtin.append, args := #[Operand.tmp 32, Operand.tmp 37], argTypes := #[22, 22] }, type := 22, pos := "ref.go:48", after := #[{ on := 6, ground := Ground.data }, { on := 11, ground := Ground.data }, { on := 10, ground := Ground.chain }], guard := none } : Oper)) rfl (fun K hK => ?_) ?_
  rotate_left
  · exact AllReadyH.nil
  have OW := own_belowM hown hq1
  refine step_app1 (by rfl) (.tmp 32) (.tmp 37) 22 (by rfl) w.heap.size 23 i0 (.int .u64 0) 8 Try.underlying22 hi0 hz0 hz1 hz2 (by rfl) (by decide) v1 P.length (u64s P) (by rfl) (OW.alloc _) _ (.int .u64 (x.toNat : Int)) 1 (by rfl) (Boxed.cell (Boxed.new _ _ _)) (by rfl) (by have := L.out; omega) (hM2.size) ?_
  intro v6 w6 hown6 hg6
  have B6 : Below w.heap.size w w6 := hM2.grown hg6 hM2.size (fun k hk => (OW.lt k hk).1)
  have HO := hid (show w6.ownsRow w.heap.size 23 1 v6 Z.length (u64s Z) by
    rw [E.out]
    simp only [u64s, List.map_append, List.map_cons, List.map_nil, List.length_append, List.length_cons, List.length_nil, Nat.zero_add]
    exact hown6)
  clear OW hown hown6 hg6
  clear hHeld
  first | (with_reducible refine hK.out _ _ ?_ (fun hHeld => ?_)) | (go_wp2_with fail; with_reducible refine hK.out _ _ ?_ (fun hHeld => ?_))
  · exact B6
  clear hK K
  (try simp only [Act.put, List.setIfInBounds_toArray, List.set_cons_zero, List.set_cons_succ])
  refine wpAnyH_take (i := 13) (oi := ({ dst := some 4, op := Op.assign (Operand.tmp 38), type := 22, pos := "ref.go:48", after := #[{ on := 12, ground := Ground.data }, { on := 12, ground := Ground.chain }, { on := 0, ground := Ground.phase }, { on := 1, ground := Ground.phase }, { on := 2, ground := Ground.phase }, { on := 3, ground := Ground.phase }, { on := 4, ground := Ground.phase }, { on := 5, ground := Ground.phase }, { on := 6, ground := Ground.phase }, { on := 7, ground := Ground.phase }, { on := 8, ground := Ground.phase }, { on := 9, ground := Ground.phase }, { on := 10, ground := Ground.phase }, { on := 11, ground := Ground.phase }, { on := 12, ground := Ground.phase }], guard := none } : Oper)) (v := ?_) rfl (by kernel_rfl) (by kernel_rfl) (by kernel_rfl) (fun _ _ _ h => h) (Or.inl ⟨by rfl, ?_⟩) (by assumption) ?_
  rotate_left
  · intro w hSw; (try dsimp only at hSw); go_simp <;> with_reducible rfl
  (try simp only [Act.put, List.setIfInBounds_toArray, List.set_cons_zero, List.set_cons_succ])
  refine wpAnyH_done (by kernel_rfl) ?_ _
  have BB := hid B6
  clear hHeld
  go_wp2_with fail
  go_ret
  exact ⟨_, rfl, HO.out, BB.out⟩


theorem rpath_fuel : ∀ (f : Nat) (v : Value) (l : List (BitVec 64)) (i : Nat), l.length ≤ f → i < l.length → l.length ≤ 4096 → ∀ (w : World), U64At w v l → Calls Try.prog 17 #[v, .int .i64 (i : Int)] w (PathOk l i w) := by
  intro f
  induction f with
  | zero => intro v l i h1 h2; omega
  | succ f ih =>
    intro v l i hf hi hn w hv
    obtain ⟨hm, p, c, rfl, c1, c2, hpn, hc0⟩ := hv
    by_cases h2 : 2 ≤ l.length
    · obtain ⟨b, o, rfl, hc⟩ := hc0 (by omega)
      by_cases hp : i < pw l.length
      · exact path_lo f ih l i b o c hf h2 hn hi hp w c1 c2 hc
      · exact path_hi f ih l i b o c hf h2 hn hi hp w c1 c2 hc
    · have h1 : l.length = 1 := by omega
      have e : pathB l i = [] := by simp [pathB, h1, sibs_one i (show 1 - 0 ≤ 1 by omega)]
      unfold PathOk
      rw [e, h1]
      clear ih hf hc0 e hpn
      go_enter Try.func17, Try.ntmps17
      go_wp2
      go_ret
      exact ⟨_, rfl, World.ownsRow_nil _ _ _ _, Below.refl _ _⟩
theorem rpath_any (l : List (BitVec 64)) (v : Value) (i : Nat) (hi : i < l.length) (hn : l.length ≤ 4096) (w : World) (hv : U64At w v l) : Calls Try.prog 17 #[v, .int .i64 (i : Int)] w (PathOk l i w) := rpath_fuel l.length v l i (Nat.le_refl _) hi hn w hv
end Go.Proofs.Ytchmiaeajkpijaa

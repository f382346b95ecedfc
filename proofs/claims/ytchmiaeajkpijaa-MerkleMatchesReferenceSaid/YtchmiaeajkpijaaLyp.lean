import Derived.Test.YtchmiaeajkpijaaLyo
namespace Go.Proofs.Ytchmiaeajkpijaa
open Go.RowKit Go.Instr
set_option linter.unusedVariables false

/-! The reference's 'Pairs'. -/
def stK (n i : Nat) (leaf : BitVec 64) (path : List (BitVec 64)) (k : Nat) : Pair := lastP ((aheads n i).take k) (0#64, leaf) (path.take k)
def outK (n i : Nat) (leaf : BitVec 64) (path : List (BitVec 64)) (k : Nat) : List Pair := (upP (aheads n i) (0#64, leaf) path).take (k + 1)
theorem stK_next {n i : Nat} {leaf : BitVec 64} {path : List (BitVec 64)} {k : Nat} (hlen : path.length = (aheads n i).length) (h : k < path.length) : stK n i leaf path (k + 1) = besideB (joinP (stK n i leaf path k)) path[k] ((aheads n i)[k]'(by omega)) := by
  unfold stK
  rw [List.take_succ_eq_append_getElem h, List.take_succ_eq_append_getElem (show k < (aheads n i).length by omega), lastP_app _ _ _ _ _ (by simp; omega)]
  rfl
theorem outK_next {n i : Nat} {leaf : BitVec 64} {path : List (BitVec 64)} {k : Nat} (hlen : path.length = (aheads n i).length) (h : k < path.length) : outK n i leaf path (k + 1) = outK n i leaf path k ++ [stK n i leaf path (k + 1)] := by
  unfold outK stK
  rw [List.take_add_one (i := k + 1), upP_get _ _ _ (k + 1) hlen.symm (by omega)]
  rfl
theorem outK_0 (n i : Nat) (leaf : BitVec 64) (path : List (BitVec 64)) (hlen : path.length = (aheads n i).length) : outK n i leaf path 0 = [(0#64, leaf)] := by
  unfold outK
  rw [List.take_add_one (i := 0), upP_get _ _ _ 0 hlen.symm (by omega)]
  rfl
theorem outK_end (n i : Nat) (leaf : BitVec 64) (path : List (BitVec 64)) (hlen : path.length = (aheads n i).length) : outK n i leaf path path.length ++ [(BitVec.ofNat 64 n, joinP (stK n i leaf path path.length))] = pairsB n i leaf path := by
  unfold outK stK pairsB
  rw [List.take_of_length_le (by rw [upP_len _ _ _ hlen.symm]; omega), List.take_of_length_le (by omega), List.take_length]
def BoolsAt (w : World) (v : Value) (l : List Bool) : Prop := ∃ p c, v = .slice p l.length c ∧ (l.length ≠ 0 → ∃ g cs fz, p = some ⟨g, 0, none⟩ ∧ w.heap[g]? = some (.cells cs 4 fz) ∧ ∀ j (hj : j < l.length), cs[j]? = some (.bool l[j]))
theorem BoolsAt.of_own {w : World} {base : Nat} {v : Value} {l : List Bool} (h : w.ownsRow base 4 1 v l.length (bools l)) : BoolsAt w v l := by
  rcases h.2 with ⟨rfl, h0⟩ | ⟨g, cap, cur, rfl, -, hh, h1, h2, h3, h4⟩
  · exact ⟨none, 0, by rw [h0], fun h => absurd h0 h⟩
  · refine ⟨_, cap, rfl, fun _ => ⟨g, cur, _, rfl, hh, fun j hj => ?_⟩⟩
    have h5 : (cur.toList.take (l.length * 1))[j]? = (bools l)[j]? := by rw [h4]
    rw [List.getElem?_take_of_lt (by omega), Array.getElem?_toList] at h5
    rw [h5]
    simp [bools, hj]
theorem BoolsAt.below {w w' : World} {v : Value} {l : List Bool} (h : BoolsAt w v l) (hb : Below w.heap.size w w') : BoolsAt w' v l := by
  obtain ⟨p, c, rfl, h1⟩ := h
  refine ⟨p, c, rfl, fun h0 => ?_⟩
  obtain ⟨g, cs, fz, rfl, h2, h3⟩ := h1 h0
  exact ⟨g, cs, fz, rfl, (hb.block g (Array.getElem?_eq_some_iff.1 h2).1).trans h2, h3⟩
theorem BoolsAt.grown {w w' : World} {v : Value} {l : List Bool} {g2 : Nat} {c2 : Array Value} {f2 : Nat × Nat} (h : BoolsAt w v l) (hh : w.heap[g2]? = some (.cells c2 36 f2)) (hg : w.grownBy w' (some g2)) : BoolsAt w' v l := by
  obtain ⟨p, c, rfl, h1⟩ := h
  refine ⟨p, c, rfl, fun h0 => ?_⟩
  obtain ⟨g, cs, fz, rfl, h2, h3⟩ := h1 h0
  refine ⟨g, cs, fz, rfl, (hg.block g (Array.getElem?_eq_some_iff.1 h2).1 (fun e => ?_)).trans h2, h3⟩
  obtain rfl := Option.some.inj e
  rw [h2] at hh
  simp at hh
theorem own_block {w : World} {base : Nat} {e : TypeId} {size n g cap : Nat} {xs : List Value} (h : w.ownsRow base e size (.slice (some ⟨g, 0, none⟩) n cap) n xs) : ∃ cur, w.heap[g]? = some (.cells cur e (0, 0)) ∧ base ≤ g ∧ g < w.heap.size := by
  rcases h.2 with ⟨e, -⟩ | ⟨g', cap', cur, e, hb, hh, -⟩
  · cases e
  · simp only [Value.slice.injEq, Option.some.injEq, Addr.mk.injEq, and_true, true_and] at e
    obtain ⟨rfl, -⟩ := e
    exact ⟨cur, hh, hb, (Array.getElem?_eq_some_iff.1 hh).1⟩
theorem blk_cellF {w : World} {b j : Nat} {cs : Array Value} {t : TypeId} {fz : Nat × Nat} (h : w.heap[b]? = some (.cells cs t fz)) {v : Value} (hj : cs[j]? = some v) : w.cell? ⟨b, j, none⟩ = some v := by simp [World.cell?, h, hj]
theorem pair_cells2 (W : World) (o : Obj) (p : Pair) : ∀ j u, [Value.int .u64 (p.1.toNat : Int), .int .u64 (p.2.toNat : Int)][j]? = some u → ((W.alloc o).alloc (.cells #[.int .u64 (p.1.toNat : Int), .int .u64 (p.2.toNat : Int)] 36)).cell? ((⟨W.heap.size + 1, 0, none⟩ : Addr).add j) = some u := by
  have h := pair_cells (W.alloc o) p
  rw [World.size_alloc] at h
  exact h
def opW (w : World) (leaf : BitVec 64) (v : Value) : World := w.alloc (.cells #[.int .u64 (leaf.toNat : Int), v] 25)
def PairsOk (ps : List Pair) (W : World) : Ending → World → Prop := fun e w' => ∃ g cap, e = .returned (.slice (some ⟨g, 0, none⟩) ps.length cap) ∧ w'.ownsRow (W.heap.size + 1) 36 2 (.slice (some ⟨g, 0, none⟩) ps.length cap) ps.length (flat ps) ∧ Below W.heap.size W w'
set_option maxRecDepth 100000 in
set_option maxHeartbeats 4000000 in
theorem rpairs_any (n i : Nat) (hi : i < n) (hn : n ≤ 4096) (leaf : BitVec 64) (path : List (BitVec 64)) (m : Nat) (hm : path.length = m) (hlen : m = (sibs 0 n i).length) (pa : Option Addr) (pc : Nat) (w : World) (hp : U64At w (.slice pa m pc) path) :
    Calls Try.prog 23 #[.int .i64 (n : Int), .int .i64 (i : Int), .agg #[.int .u64 (leaf.toNat : Int), .slice pa m pc]] w (PairsOk (pairsB n i leaf path) w) := by
  obtain ⟨i0, hi0, hz0, hz1, hz2⟩ := info_parts infoP2
  have ha : path.length = (aheads n i).length := by rw [aheads_len]; omega
  have hm12 : m ≤ 12 := by rw [hlen]; exact sibs_len12 i hn
  have hfl : (firsts n i).length = m := by rw [firsts_len, hlen]
  have ST := hid (fun (W : World) => rsteps_any n i hi hn W)
  obtain ⟨W1, hW1⟩ : ∃ W1, opW w leaf (.slice pa m pc) = W1 := ⟨_, rfl⟩
  have hz : W1.heap.size = w.heap.size + 1 := by rw [← hW1]; simp [opW]
  have B1 := hid (show Below w.heap.size w W1 from by rw [← hW1]; exact below_a (Below.refl _ _) _)
  have X0 : W1.cell? ⟨w.heap.size, 0, none⟩ = some (.int .u64 (leaf.toNat : Int)) := by rw [← hW1]; exact blk_cell (World.alloc_heap_new w _) rfl
  have X1 : W1.cell? ⟨w.heap.size, 1, none⟩ = some (.slice pa m pc) := by rw [← hW1]; exact blk_cell (World.alloc_heap_new w _) rfl
  have U1 := hid (hp.below B1.out)
  have EK := hid (outK_end n i leaf path ha)
  have E0 := hid (outK_0 n i leaf path ha)
  have S0 : stK n i leaf path 0 = (0#64, leaf) := rfl
  have NX := hid (fun k (h : k < path.length) => show ∃ b : Bool, (firsts n i)[k]? = some b ∧ stK n i leaf path (k + 1) = (if b then (joinP (stK n i leaf path k), path[k]) else (path[k], joinP (stK n i leaf path k))) from by
    refine ⟨!((aheads n i)[k]'(by omega)), by simp [firsts, show k < (aheads n i).length by omega], ?_⟩
    rw [stK_next ha h]
    cases (aheads n i)[k]'(by omega) <;> rfl)
  have ON := hid (fun k (h : k < path.length) => outK_next (leaf := leaf) ha h)
  obtain ⟨T0, hT0⟩ : ∃ T, joinB 0#64 leaf = T := ⟨_, rfl⟩
  have hTe : joinP (stK n i leaf path 0) = T0 := by rw [S0]; exact hT0
  have JT := hid (fun W => hT0 ▸ rjoin_v (x := 0) (y := (leaf.toNat : Int)) 0#64 leaf rfl rfl W)
  obtain ⟨N, hN⟩ : ∃ N : BitVec 64, BitVec.ofNat 64 n = N := ⟨_, rfl⟩
  have hNn : IntKind.u64.wrap (n : Int) = (N.toNat : Int) := by rw [← hN, ← lenV n (by omega), wrapU]; omega
  rw [hN] at EK
  unfold PairsOk
  obtain ⟨PS, hPS⟩ : ∃ PS, pairsB n i leaf path = PS := ⟨_, rfl⟩
  rw [hPS] at EK ⊢
  have HM := hid hm
  clear hp ha hlen hPS hN hT0 S0 hm hi
  go_enter Try.func23, Try.ntmps23
  go_wp2_with fail
  rw [show w.alloc (.cells #[.int .u64 (leaf.toNat : Int), .slice pa m pc] 25) = W1 from hW1]
  clear hW1
  refine (JT.out _).mono ?_
  rintro e w' ⟨rfl, rfl⟩
  go_wp2_with fail
  refine (ST.out _).mono ?_
  rintro e w2 ⟨vb, rfl, hbo, hb⟩
  have OB := hid (BoolsAt.of_own hbo)
  have hro := World.ownsRow_lit (base := w.heap.size + 1) (e := 36) (size := 2) W1 #[.int .u64 0, .int .u64 (leaf.toNat : Int)] 1 (by omega) (by unfold maxLen; omega) rfl
  rw [hz] at hro
  have OR := hid (own_belowM hro hb)
  have B2 := hid (below_step (below_a (Below.refl W1.heap.size W1) (.cells #[.int .u64 0, .int .u64 (leaf.toNat : Int)] 36)) hb)
  clear hbo hb hro
  obtain ⟨pb, cb, rfl, hbb⟩ := OB.out
  clear hbb
  rw [hfl] at OB ⊢
  have HFL := hid hfl
  have HZ := hid hz
  have HT := hid hTe
  clear hfl hz hTe
  go_wp2_with fail
  go_loopw [7, 8, 10] (fun v7 v8 v10 wr => ∃ k g cap : Nat, k ≤ m ∧ v10 = .int .i64 (k : Int) ∧ v8 = .int .u64 ((joinP (stK n i leaf path k)).toNat : Int) ∧ v7 = .slice (some ⟨g, 0, none⟩) (k + 1) cap ∧ Hid (wr.ownsRow (w.heap.size + 1) 36 2 (.slice (some ⟨g, 0, none⟩) (k + 1) cap) (k + 1) (flat (outK n i leaf path k))) ∧ Hid (BoolsAt wr (.slice pb m cb) (firsts n i)) ∧ Hid (Below W1.heap.size W1 wr)) (fun _ _ v10 _ => m + 1 - (intOf v10).toNat)
  case atStart => exact ⟨0, w.heap.size + 1, 1, by omega, rfl, by rw [HT.out], rfl, hid (by rw [E0.out]; exact OR.out), OB, B2⟩
  case round =>
    obtain ⟨k, g, cap, hk, rfl, rfl, rfl, RO, RB, RW⟩ := hrel
    clear OB OR B2 E0 HT
    have x0 := cell_below RW.out X0
    have x1 := cell_below RW.out X1
    by_cases hlt : k < m
    · obtain ⟨-, pa', c', e1, q1, q2, q3, q4⟩ := U1.out.below RW.out
      simp only [Value.slice.injEq] at e1
      obtain ⟨rfl, -, rfl⟩ := e1
      have hkl : k < path.length := by have := HM.out; omega
      obtain ⟨b, o, rfl, hc⟩ := q4 (by omega)
      have y0 := hc k hkl
      obtain ⟨pb', cb', e1, r1⟩ := RB.out
      simp only [Value.slice.injEq] at e1
      obtain ⟨rfl, -, rfl⟩ := e1
      obtain ⟨gb, cs, fz, rfl, r2, r3⟩ := r1 (by have := HFL.out; omega)
      obtain ⟨bk, hbk, hnx⟩ := NX.out k hkl
      have y1 := blk_cellF r2 (j := k) (v := .bool bk) (by rw [r3 k (by have := HFL.out; omega)]; rw [List.getElem?_eq_getElem (by have := HFL.out; omega)] at hbk; simpa using hbk)
      obtain ⟨T, hT⟩ : ∃ T, joinP (stK n i leaf path k) = T := ⟨_, rfl⟩
      obtain ⟨x, hx⟩ : ∃ x, path[k] = x := ⟨_, rfl⟩
      rw [hT] at hnx ⊢
      rw [hx] at hnx y0
      clear hT hx hbk q4 r1 hc r3
      have y0' := fun o => cell_alloc o y0
      have y1' := fun o => cell_alloc o y1
      have x0' := fun o => cell_alloc o x0
      have x1' := fun o => cell_alloc o x1
      cases bk
      · have hst : stK n i leaf path (k + 1) = (x, T) := by rw [hnx]; rfl
        have ON1 := hid (show outK n i leaf path (k + 1) = outK n i leaf path k ++ [(x, T)] from by rw [ON.out k hkl, hst])
        have ST1 := hid hst
        have J1 := hid (fun W => rjoin_any x T W)
        clear hst hnx
        go_wp2_with (at_builtin; go_must (with_reducible refine wpList_append_own _ rfl (.tmp 46) (.tmp 48) 52 rfl (w.heap.size + 1) 36 i0 (.agg #[.int .u64 0, .int .u64 0]) 2 16 Try.underlying52 hi0 hz0 hz1 hz2 rfl (by decide) (.slice (some ⟨g, 0, none⟩) (k + 1) cap) (k + 1) (flat (outK n i leaf path k)) rfl ((RO.out.alloc _).alloc _) ⟨wr.heap.size + 1, 0, none⟩ 1 1 [.int .u64 (x.toNat : Int), .int .u64 (T.toNat : Int)] rfl rfl (pair_cells2 _ _ (x, T)) (pair_one (x, T)) (by unfold maxLen; omega) (by omega) (by have := RW.out.size; have := HZ.out; simp; omega) ?_))
        intro v' w' hown' hg _
        obtain ⟨cur, hcur, hg1, hg2⟩ := own_block RO.out
        have RB2 := hid ((((RB.out.below (below_a0 wr _)).below (below_a0 _ _)).grown (((below_a0 wr (.cells #[.int .u64 (x.toNat : Int), .int .u64 (T.toNat : Int)] 36)).block g hg2).trans hcur |> fun h => ((below_a0 _ (.cells #[.int .u64 (x.toNat : Int), .int .u64 (T.toNat : Int)] 36)).block g (Array.getElem?_eq_some_iff.1 h).1).trans h) hg))
        have RW2 := hid ((below_a (below_a RW.out _) _).grown hg (by have := RW.out.size; simp; omega) (fun k hk => by have := (RO.out.lt k hk).1; have := HZ.out; omega))
        have RO2 := hid (show w'.ownsRow (w.heap.size + 1) 36 2 v' (k + 1 + 1) (flat (outK n i leaf path (k + 1))) by
          rw [ON1.out, flat_snoc]
          exact hown')
        have hne : ¬ g = wr.heap.size := by omega
        have C0 := hg.cell (cell_alloc (.cells #[.int .u64 (x.toNat : Int), .int .u64 (T.toNat : Int)] 36) (blk_cell (j := 0) (World.alloc_heap_new wr (.cells #[.int .u64 (x.toNat : Int), .int .u64 (T.toNat : Int)] 36)) rfl)) (fun e => hne (Option.some.inj e.symm))
        have C1 := hg.cell (cell_alloc (.cells #[.int .u64 (x.toNat : Int), .int .u64 (T.toNat : Int)] 36) (blk_cell (j := 1) (World.alloc_heap_new wr (.cells #[.int .u64 (x.toNat : Int), .int .u64 (T.toNat : Int)] 36)) rfl)) (fun e => hne (Option.some.inj e.symm))
        clear hown' hg hcur hg1 hg2 hne x0 x1 y0 y1 x0' x1' y0' y1' RO RB RW r2
        obtain ⟨g', cap', rfl⟩ := ownsRow_succ RO2.out
        go_wp2_with fail
        refine (J1.out _).mono ?_
        rintro e w3 ⟨rfl, rfl⟩
        go_wp2
        go_roundw
        case rel => exact ⟨k + 1, g', cap', by omega, by go_num, by rw [ST1.out]; rfl, rfl, RO2, RB2, RW2⟩
        case measure => simp [intOf]; omega
      · have hst : stK n i leaf path (k + 1) = (T, x) := by rw [hnx]; rfl
        have ON1 := hid (show outK n i leaf path (k + 1) = outK n i leaf path k ++ [(T, x)] from by rw [ON.out k hkl, hst])
        have ST1 := hid hst
        have J1 := hid (fun W => rjoin_any T x W)
        clear hst hnx
        go_wp2_with (at_builtin; go_must (with_reducible refine wpList_append_own _ rfl (.tmp 46) (.tmp 48) 52 rfl (w.heap.size + 1) 36 i0 (.agg #[.int .u64 0, .int .u64 0]) 2 16 Try.underlying52 hi0 hz0 hz1 hz2 rfl (by decide) (.slice (some ⟨g, 0, none⟩) (k + 1) cap) (k + 1) (flat (outK n i leaf path k)) rfl ((RO.out.alloc _).alloc _) ⟨wr.heap.size + 1, 0, none⟩ 1 1 [.int .u64 (T.toNat : Int), .int .u64 (x.toNat : Int)] rfl rfl (pair_cells2 _ _ (T, x)) (pair_one (T, x)) (by unfold maxLen; omega) (by omega) (by have := RW.out.size; have := HZ.out; simp; omega) ?_))
        intro v' w' hown' hg _
        obtain ⟨cur, hcur, hg1, hg2⟩ := own_block RO.out
        have RB2 := hid ((((RB.out.below (below_a0 wr _)).below (below_a0 _ _)).grown (((below_a0 wr (.cells #[.int .u64 (T.toNat : Int), .int .u64 (x.toNat : Int)] 36)).block g hg2).trans hcur |> fun h => ((below_a0 _ (.cells #[.int .u64 (T.toNat : Int), .int .u64 (x.toNat : Int)] 36)).block g (Array.getElem?_eq_some_iff.1 h).1).trans h) hg))
        have RW2 := hid ((below_a (below_a RW.out _) _).grown hg (by have := RW.out.size; simp; omega) (fun k hk => by have := (RO.out.lt k hk).1; have := HZ.out; omega))
        have RO2 := hid (show w'.ownsRow (w.heap.size + 1) 36 2 v' (k + 1 + 1) (flat (outK n i leaf path (k + 1))) by
          rw [ON1.out, flat_snoc]
          exact hown')
        have hne : ¬ g = wr.heap.size := by omega
        have C0 := hg.cell (cell_alloc (.cells #[.int .u64 (T.toNat : Int), .int .u64 (x.toNat : Int)] 36) (blk_cell (j := 0) (World.alloc_heap_new wr (.cells #[.int .u64 (T.toNat : Int), .int .u64 (x.toNat : Int)] 36)) rfl)) (fun e => hne (Option.some.inj e.symm))
        have C1 := hg.cell (cell_alloc (.cells #[.int .u64 (T.toNat : Int), .int .u64 (x.toNat : Int)] 36) (blk_cell (j := 1) (World.alloc_heap_new wr (.cells #[.int .u64 (T.toNat : Int), .int .u64 (x.toNat : Int)] 36)) rfl)) (fun e => hne (Option.some.inj e.symm))
        clear hown' hg hcur hg1 hg2 hne x0 x1 y0 y1 x0' x1' y0' y1' RO RB RW r2
        obtain ⟨g', cap', rfl⟩ := ownsRow_succ RO2.out
        go_wp2_with fail
        refine (J1.out _).mono ?_
        rintro e w3 ⟨rfl, rfl⟩
        go_wp2
        go_roundw
        case rel => exact ⟨k + 1, g', cap', by omega, by go_num, by rw [ST1.out]; rfl, rfl, RO2, RB2, RW2⟩
        case measure => simp [intOf]; omega
    · have hkm : k = m := by omega
      subst hkm
      have E1 := hid (show flat (outK n i leaf path k) ++ [.int .u64 (N.toNat : Int), .int .u64 ((joinP (stK n i leaf path k)).toNat : Int)] = flat PS from by rw [← EK.out, HM.out, flat_snoc])
      have L1 := hid (show k + 1 + 1 = PS.length from by rw [← EK.out, List.length_append, HM.out]; have h := RO.out.1; rw [flat_len] at h; simp; omega)
      obtain ⟨T, hT⟩ : ∃ T, joinP (stK n i leaf path k) = T := ⟨_, rfl⟩
      rw [hT] at E1 ⊢
      clear hT hlt
      go_wp2_with (at_builtin; go_must (with_reducible refine wpList_append_own _ rfl (.tmp 55) (.tmp 60) 52 rfl (w.heap.size + 1) 36 i0 (.agg #[.int .u64 0, .int .u64 0]) 2 16 Try.underlying52 hi0 hz0 hz1 hz2 rfl (by decide) (.slice (some ⟨g, 0, none⟩) (k + 1) cap) (k + 1) (flat (outK n i leaf path k)) rfl (RO.out.alloc _) _ 1 1 [.int .u64 (N.toNat : Int), .int .u64 (T.toNat : Int)] rfl rfl (pair_cells _ (N, T)) (pair_one (N, T)) (by unfold maxLen; omega) (by omega) (by have := RW.out.size; have := HZ.out; simp; omega) ?_))
      intro v' w' hown' hg _
      obtain ⟨g', cap', rfl⟩ := ownsRow_succ hown'
      have BE := hid (((B1.out.trans (RW.out.mono B1.out.size)).alloc (below_step B1.out RW.out).size _).grown hg (by have := RW.out.size; have := HZ.out; simp; omega) (fun k hk => by have := (RO.out.lt k hk).1; omega))
      have RO2 := hid hown'
      clear hown' hg RO RB RW x0 x1
      go_wp2
      go_ret
      rw [E1.out] at RO2
      rw [L1.out] at RO2
      exact ⟨_, _, ret_slice L1.out, RO2.out, BE.out⟩
end Go.Proofs.Ytchmiaeajkpijaa

import Derived.Test.YtchmiaeajkpijaaLr
namespace Go.Proofs.Ytchmiaeajkpijaa
open Go.RowKit Go.Shelf
attribute [local go_sem] Oper.semAt_some
set_option linter.unusedVariables false

/-! 'rootOf', 'Check'. -/
theorem pairW_facts (w : World) (n i : Int) (leaf pv : Value) : (pairW w n i leaf pv).heap.size = w.heap.size + 3 ∧ Boxed (pairW w n i leaf pv) w.heap.size 3 (.int .i64 n) ∧ Boxed (pairW w n i leaf pv) (w.heap.size + 1) 3 (.int .i64 i) ∧ (pairW w n i leaf pv).heap[w.heap.size + 1 + 1]? = some (.cells #[leaf, pv] 25 (0, 0)) ∧ Below w.heap.size w (pairW w n i leaf pv) := by
  have H := heap3 w (.cells #[.int .i64 n] 3) (.cells #[.int .i64 i] 3) (.cells #[leaf, pv] 25)
  exact ⟨H.2.2.2.2, H.1, H.2.1, H.2.2.1, H.2.2.2.1⟩
/-- The root of the pairs that have come. -/
def rootF (pre : List Pair) : BitVec 64 := match pre.getLast? with
  | none => 0#64
  | some p => joinP p
theorem rootF_snoc (pre : List Pair) (p : Pair) : rootF (pre ++ [p]) = joinP p := by simp [rootF]
theorem rootF_full (n i : Nat) (leaf : BitVec 64) (path : List (BitVec 64)) : rootF (pairsB n i leaf path) = rootP n i leaf path := by
  unfold pairsB
  rw [rootF_snoc]
  rfl

set_option maxRecDepth 100000 in
set_option maxHeartbeats 2000000 in
theorem rootOf_in (n i : Nat) (hi : i < n) (hn : n ≤ 4096) (leaf : BitVec 64) (path : List (BitVec 64)) (hlen : path.length = (sibs 0 n i).length) (pa : Option Addr) (pc : Nat) (m : Nat) (w : World) (hp : U64At w (.slice pa path.length pc) path) :
    CallsIn Fence.wide m Try.prog 34 #[.int .i64 (n : Int), .int .i64 (i : Int), .agg #[.int .u64 (leaf.toNat : Int), .slice pa path.length pc]] w fun e w' => e = .returned (.int .u64 ((rootP n i leaf path).toNat : Int)) ∧ Below w.heap.size w w' := by
  have hdd : ∀ k : Nat, (Fence.wide.depth.isSome = true → 1 ≤ k) := fun k h => by cases h
  have HLEN := hid hlen
  clear hlen
  refine callsIn_of_wp_marks Try.func34 rfl trivial ?_ rfl
  simp only [Try.ntmps34, List.size_toArray, List.length_cons, List.length_nil, Nat.reduceAdd, Nat.reduceSub, Array.replicate_succ, Array.replicate_zero, List.push_toArray, List.append_toArray, List.nil_append, List.cons_append]
  gi_wp2_with ((try refine ⟨trivial, ?_⟩); (try refine ⟨hdd _, ?_⟩); gi_at_call 27; refine (pairs_in _ _ _ _ _ _ _ _).mono ?_; rintro e W1 ⟨rfl, hW1⟩)
  obtain ⟨W0, hW0⟩ : ∃ W0, (w.alloc (.cells #[.int .u64 (leaf.toNat : Int), .slice pa path.length pc] 25)).alloc (.cells #[.int .u64 0] 23) = W0 := ⟨_, rfl⟩
  rw [hW0] at hW1
  have hs0 : W0.heap.size = w.heap.size + 1 + 1 := by rw [← hW0]; simp
  have hr0 : Boxed W0 (w.heap.size + 1) 23 (.int .u64 ((rootF []).toNat : Int)) := by
    rw [← hW0]
    have := Boxed.new (w.alloc (.cells #[.int .u64 (leaf.toNat : Int), .slice pa path.length pc] 25)) 23 (.int .u64 0)
    rw [World.size_alloc] at this
    exact this
  have hb0 : Below w.heap.size w W0 := by rw [← hW0]; exact ((Below.refl _ w).alloc (Nat.le_refl _) _).alloc (by simp) _
  have PF := pairW_facts W0 n i (.int .u64 (leaf.toNat : Int)) (.slice pa path.length pc)
  rw [hW1, hs0] at PF
  obtain ⟨hs1, hn1, hi1, ho1, hb1⟩ := PF
  have hb01 : Below w.heap.size w W1 := hb0.trans (hb1.mono (by omega))
  have hr1 : Boxed W1 (w.heap.size + 1) 23 (.int .u64 ((rootF []).toNat : Int)) := (hb1.block _ (by omega)).trans hr0
  have hp1 := hp.below hb01
  clear hW0 hW1 hr0 hb0 hb1
  refine range_law (gf := 36) (lb := #[.pointer (some ⟨w.heap.size + 1 + 1 + 1 + 1, 0, none⟩), .pointer (some ⟨w.heap.size + 1 + 1, 0, none⟩), .pointer (some ⟨w.heap.size + 1 + 1 + 1, 0, none⟩)]) rfl (enters_of Try.func36 (by kernel_rfl) rfl)
    (pair_seq n i hi hn leaf path HLEN.out _ _ _ (.slice pa path.length pc) W1 ho1 hn1 hi1 hp1) (pairG_lt (by omega) (by omega) (by omega) hp (by omega)) (fun _ _ _ h => h) (fun _ => rfl) (fun _ h => .inl h)
    (fun pre V => Boxed V (w.heap.size + 1) 23 (.int .u64 ((rootF pre).toNat : Int)) ∧ Below w.heap.size w V) (fun _ _ _ => False)
    (Bears.and (Bears.boxed _ _ (by omega)) (Bears.below (by omega) (by omega))) (fun _ => Bears.pure _ _ _) ⟨hr1, hb01⟩ ?round ?done ?stop
  case round =>
    rintro l' pre x V ⟨hb, hB⟩ hsz hpre
    unfold encP
    gi_wp2
    refine ⟨Kept.alloc _ _, ⟨hb.alloc _, below_a hB _⟩, fun W₂ hg2 ⟨hb2, hB2⟩ hs2 => ?_⟩
    have hsx : W₂.heap[V.heap.size]? = some (.cells #[.int .u64 (x.1.toNat : Int), .int .u64 (x.2.toNat : Int)] 36 (0, 0)) := (hg2.block V.heap.size (by simp) (fun e => by have := Option.some.inj e; omega)).trans (World.alloc_heap_new V _)
    have q0 : W₂.cell? ⟨V.heap.size, 0, none⟩ = some (.int .u64 (x.1.toNat : Int)) := blk_cell hsx rfl
    have q1 : W₂.cell? ⟨V.heap.size, 1, none⟩ = some (.int .u64 (x.2.toNat : Int)) := blk_cell hsx rfl
    have PG1 : ¬ pairG (w.heap.size + 1 + 1 + 1 + 1) (w.heap.size + 1 + 1) (w.heap.size + 1 + 1 + 1) (.slice pa path.length pc) (w.heap.size + 1) := by
      rintro (h | h | h | ⟨b, o, n', c, e, h0, h⟩)
      · omega
      · omega
      · omega
      · have := pairG_lt (bo := 0) (bn := 0) (bi := 0) (B := w.heap.size + 1) (by omega) (by omega) (by omega) hp (by omega) b (.inr (.inr (.inr ⟨b, o, n', c, e, h0, rfl⟩)))
        omega
    gi_wp2_with ((try refine ⟨trivial, ?_⟩); (try refine ⟨hdd _, ?_⟩); gi_at_call 28; refine (CallsIn.inRound l' ((callsIn_wide (n := m - 1)).2 (pjoin_any x _))).mono ?_; rintro e y1 ⟨rfl, hq1⟩; have hb3 : Boxed y1 (w.heap.size + 1) 23 (.int .u64 ((rootF pre).toNat : Int)) := (hq1.block _ hb2.lt).trans hb2; have hc3 := hb3.cell; have hf3 := hb3.frozen)
    refine ⟨(Kept.of_below hq1).trans (Kept.of_grownBy (grown_set y1 (w.heap.size + 1) 0 _) (fun r o e _ => ?_)), ?_, (below_step hB2 hq1).setCell (p := ⟨w.heap.size + 1, 0, none⟩) (by simp) _⟩
    · obtain rfl := Option.some.inj e
      exact ⟨fun h => by rcases h with h | h <;> first | exact PG1 h | omega, fun h => by omega⟩
    · rw [rootF_snoc]
      exact hb3.set _
  case done =>
    rintro V ⟨hb, hB⟩ hK _
    have hc := hb.cell
    gi_wp2
    refine ⟨by simp, .inl ⟨_, _, rfl, run_takeDeferred hK, ?_⟩⟩
    exact ⟨_, results_tmp rfl _ _ _, by rw [rootF_full]; rfl, hB.grown (putObj_grown V _ _) hB.size (fun k e => by cases e; omega)⟩
  case stop =>
    rintro c pre V _ h _
    exact h.elim

theorem rootOf_any (n i : Nat) (hi : i < n) (hn : n ≤ 4096) (leaf : BitVec 64) (path : List (BitVec 64)) (hlen : path.length = (sibs 0 n i).length) (pa : Option Addr) (pc : Nat) (w : World) (hp : U64At w (.slice pa path.length pc) path) :
    Calls Try.prog 34 #[.int .i64 (n : Int), .int .i64 (i : Int), .agg #[.int .u64 (leaf.toNat : Int), .slice pa path.length pc]] w fun e w' => e = .returned (.int .u64 ((rootP n i leaf path).toNat : Int)) ∧ Below w.heap.size w w' :=
  (callsIn_wide (n := 0)).1 (rootOf_in n i hi hn leaf path hlen pa pc 0 w hp)
theorem aheads_len (n i : Nat) : (aheads n i).length = (sibs 0 n i).length := by simp [aheads]
theorem bv_ne {a b : BitVec 64} (h : ¬ a = b) : ((a.toNat : Int) == (b.toNat : Int)) = false := by
  rw [beq_eq_false_iff_ne]
  exact fun k => h (BitVec.eq_of_toNat_eq (by omega))
set_option maxHeartbeats 1000000 in
theorem mcheck_any (root leaf : BitVec 64) (n i : Int) (path : List (BitVec 64)) (v : Value) (w : World) (hv : U64At w v path) :
    Calls Try.prog 20 #[.int .u64 (root.toNat : Int), .int .i64 n, .int .i64 i, .int .u64 (leaf.toNat : Int), v] w fun e w' => e = .returned (.int .i64 (checkE root n i leaf path)) ∧ Below w.heap.size w w' := by
  have PL := hid (fun W => place_any n i W)
  obtain ⟨pa, pc, rfl⟩ : ∃ pa pc, v = .slice pa path.length pc := by
    obtain ⟨_, p, c, h, _⟩ := hv
    exact ⟨p, c, h⟩
  have hm := hv.1
  by_cases he : placeE n i = 0
  · obtain ⟨h1, h2, h3⟩ := place_ok he
    obtain ⟨n, rfl⟩ : ∃ k : Nat, n = (k : Int) := ⟨n.toNat, by omega⟩
    obtain ⟨i, rfl⟩ : ∃ k : Nat, i = (k : Int) := ⟨i.toNat, by omega⟩
    rw [he] at PL
    have PP := hid (fun W => pathLen_any n i (by omega) (by omega) W)
    have hce : checkE root n i leaf path = if path.length = (sibs 0 n i).length ∧ rootP n i leaf path = root then 0 else 40 := by
      unfold checkE
      rw [if_neg (by simpa using he), aheads_len]
      simp
    by_cases hlen : path.length = (sibs 0 n i).length
    · have RO := hid (fun W (h : Below w.heap.size w W) => rootOf_any n i (by omega) (by omega) leaf path hlen pa pc W (hv.below h))
      rw [← hlen] at PP
      have HV := hid hv
      by_cases hr : rootP n i leaf path = root
      · rw [hce, if_pos ⟨hlen, hr⟩]
        rw [hr] at RO
        clear hlen hr hce he h1 h2 h3 hv
        go_enter Try.func20, Try.ntmps20
        go_wp2_with fail
        refine (PL.out _).mono ?_
        rintro e w1 ⟨rfl, rfl⟩
        go_wp2_with fail
        refine (PP.out _).mono ?_
        rintro e w2 ⟨rfl, hb2⟩
        have B2 := hid hb2; clear hb2
        go_wp2_with fail
        refine (RO.out _ B2.out).mono ?_
        rintro e w3 ⟨rfl, hb3⟩
        have B3 := hid (below_step B2.out hb3); clear hb3
        go_wp2_with fail
        go_ret
        exact ⟨rfl, B3.out⟩
      · rw [hce, if_neg (fun h => hr h.2)]
        have t1 := bv_ne hr
        generalize rootP n i leaf path = R at *
        clear hlen hr hce he h1 h2 h3 hv
        go_enter Try.func20, Try.ntmps20
        go_wp2_with fail
        refine (PL.out _).mono ?_
        rintro e w1 ⟨rfl, rfl⟩
        go_wp2_with fail
        refine (PP.out _).mono ?_
        rintro e w2 ⟨rfl, hb2⟩
        have B2 := hid hb2; clear hb2
        go_wp2_with fail
        refine (RO.out _ B2.out).mono ?_
        rintro e w3 ⟨rfl, hb3⟩
        have B3 := hid (below_step B2.out hb3); clear hb3
        go_wp2_with fail
        go_ret
        exact ⟨rfl, B3.out⟩
    · rw [hce, if_neg (fun h => hlen h.1)]
      have t1 : (path.length == (sibs 0 n i).length) = false := by simpa using hlen
      have t2 : ((path.length : Int) == ((sibs 0 n i).length : Int)) = false := by rw [beq_eq_false_iff_ne]; omega
      have t3 : ((path.length : Int) != ((sibs 0 n i).length : Int)) = true := by rw [bne, t2]; rfl
      generalize (sibs 0 n i).length = L at *
      clear hlen hce he h1 h2 h3 hv
      go_enter Try.func20, Try.ntmps20
      go_wp2_with fail
      refine (PL.out _).mono ?_
      rintro e w1 ⟨rfl, rfl⟩
      go_wp2_with fail
      refine (PP.out _).mono ?_
      rintro e w2 ⟨rfl, hb2⟩
      have B2 := hid hb2; clear hb2
      go_wp2_with fail
      go_ret
      exact ⟨rfl, B2.out⟩
  · have hce : checkE root n i leaf path = placeE n i := by
      unfold checkE
      rw [if_pos he]
    rw [hce]
    have t1 : (placeE n i == 0) = false := by simpa using he
    clear he hce hv
    generalize placeE n i = E at *
    go_enter Try.func20, Try.ntmps20
    go_wp2_with fail
    refine (PL.out _).mono ?_
    rintro e w1 ⟨rfl, rfl⟩
    go_wp2_with fail
    go_ret
    exact ⟨rfl, Below.refl _ _⟩
end Go.Proofs.Ytchmiaeajkpijaa

import Derived.Test.YtchmiaeajkpijaaLk
import Derived.Laws.StructEq
namespace Go.Proofs.Ytchmiaeajkpijaa
open Go.RowKit Go.Shelf
attribute [local go_sem] Oper.semAt_some
set_option linter.unusedVariables false

/-! 'Collide'. -/
theorem find_step {α : Type} (p : α → Bool) (Z : List α) (j : Nat) (z : α) (hz : Z[j]? = some z) (h : (Z.take j).find? p = none) : (p z = true → Z.find? p = some z) ∧ (p z = false → (Z.take (j + 1)).find? p = none) := by
  have e : Z.take (j + 1) = Z.take j ++ [z] := by rw [List.take_add_one, hz]; rfl
  refine ⟨fun hp => ?_, fun hp => ?_⟩
  · have e2 : Z = Z.take (j + 1) ++ Z.drop (j + 1) := (List.take_append_drop _ _).symm
    rw [e2, e, List.find?_append, List.find?_append, h]
    simp [hp]
  · rw [e, List.find?_append, h]
    simp [hp]
theorem row_cells {w : World} {base k g cap : Nat} {F : List Pair} (h : w.ownsRow base 36 2 (.slice (some ⟨g, 0, none⟩) k cap) k (flat F)) : k ≤ cap ∧ cap ≤ maxLen ∧ ∃ ro, w.heap[g]? = some ro ∧ g < w.heap.size ∧
    ∀ (V : World) (j : Nat) (y : Pair), V.heap[g]? = some ro → j < k → F[j]? = some y → V.cell? ⟨g, 2 * j, none⟩ = some (.int .u64 (y.1.toNat : Int)) ∧ V.cell? ⟨g, 2 * j + 1, none⟩ = some (.int .u64 (y.2.toNat : Int)) := by
  rcases h.2 with ⟨e, h0⟩ | ⟨g', cap', cur, e, hb, hh, hn, hm, hsz, ht⟩
  · cases e
  · simp only [Value.slice.injEq, Option.some.injEq, Addr.mk.injEq, and_true, true_and] at e
    obtain ⟨rfl, rfl⟩ := e
    refine ⟨hn, hm, _, hh, (Array.getElem?_eq_some_iff.1 hh).1, fun V j y hV hj hy => ?_⟩
    have hf := flat_at F j y hy
    rw [← ht, List.getElem?_take_of_lt (by omega), List.getElem?_take_of_lt (by omega), Array.getElem?_toList, Array.getElem?_toList] at hf
    exact ⟨blk_cell hV hf.1, blk_cell hV hf.2⟩
theorem bears_off {α : Type} {B K pb g n cap : Nat} {t : TypeId} (h : pb < B) : Bears B K (fun (s : List α) W => ∃ off, (s.length < cap → off = 2 * s.length) ∧ Boxed W pb t (.slice (some ⟨g, off, none⟩) (n - s.length) (cap - s.length))) :=
  fun s W W' row ⟨off, h1, h2⟩ hg ht => ⟨off, h1, h2.kept hg (fun e => by have := (ht pb e.symm).1; omega)⟩
/-- What Collide returns. -/
def collV : Option (Pair × Pair) → Value
  | none => .tuple #[.agg #[.int .u64 0, .int .u64 0, .int .u64 0, .int .u64 0], .bool false]
  | some (a, b) => .tuple #[.agg #[.int .u64 (a.1.toNat : Int), .int .u64 (a.2.toNat : Int), .int .u64 (b.1.toNat : Int), .int .u64 (b.2.toNat : Int)], .bool true]
theorem coll_results (tmps : Array Value) (w : World) (g gb : Nat) (cs : Array Value) (bv : Value) (hp : tmps[8]?.getD undef = .pointer (some ⟨g, 0, none⟩)) (hp' : tmps[9]?.getD undef = .pointer (some ⟨gb, 0, none⟩)) (hg : w.heap[g]? = some (.cells cs 37 (0, 0))) (hcs : cs.size = 4) (hb : Boxed w gb 4 bv) :
    (results Try.f12 tmps).run Try.prog w = .ok (.tuple #[.agg cs, bv]) w := by
  have h : Try.f12.results = #[.cell 8 37, .cell 9 4] := by kernel_rfl
  have e1 := run_loadVar_row (P := Try.prog) w g 37 37 cs (0, 0) _ hg Try.underlying37 rfl (by rw [hcs]; kernel_rfl)
  have e2 : (loadVar 4 ⟨gb, 0, none⟩).run Try.prog w = .ok bv w := by
    have hc := hb.cell
    simp [loadVar, go_sem, hc, Try.underlying4]
  simp [results, h, hp, hp', asAddr, e1, e2, Sem.run_bind, Result.andThen]
theorem pairs_len (n i : Nat) (leaf : BitVec 64) (path : List (BitVec 64)) (h : path.length = (sibs 0 n i).length) : (pairsB n i leaf path).length = (sibs 0 n i).length + 1 + 1 := by
  have h1 : (aheads n i).length = (sibs 0 n i).length := aheads_len n i
  unfold pairsB
  rw [List.length_append, upP_len _ _ _ (by omega), h1]
  rfl
def set5 (V : World) (r s : Nat) (a0 a1 a2 a3 bv : Value) : World := ((((V.setCell ⟨r, 0, none⟩ a0).setCell ⟨r, 1, none⟩ a1).setCell ⟨r, 2, none⟩ a2).setCell ⟨r, 3, none⟩ a3).setCell ⟨s, 0, none⟩ bv
theorem set5_facts {V : World} {r s : Nat} {x0 x1 x2 x3 b0 : Value} {t tb : TypeId} (a0 a1 a2 a3 bv : Value) (hz : V.heap[r]? = some (.cells #[x0, x1, x2, x3] t (0, 0))) (hb : Boxed V s tb b0) (hne : r ≠ s) :
    (set5 V r s a0 a1 a2 a3 bv).heap[r]? = some (.cells #[a0, a1, a2, a3] t (0, 0)) ∧ Boxed (set5 V r s a0 a1 a2 a3 bv) s tb bv ∧ (set5 V r s a0 a1 a2 a3 bv).heap.size = V.heap.size ∧ (∀ (k : Nat) (o : Obj), V.heap[k]? = some o → k ≠ r → k ≠ s → (set5 V r s a0 a1 a2 a3 bv).heap[k]? = some o) ∧
    ∀ n0 (w : World), Below n0 w V → n0 ≤ r → n0 ≤ s → Below n0 w (set5 V r s a0 a1 a2 a3 bv) := by
  have h1 := blk_set (blk_set (blk_set (blk_set hz (j := 0) a0) (j := 1) a1) (j := 2) a2) (j := 3) a3
  have hk : ∀ (X : World) (q j : Nat) (u : Value) (k : Nat) (o : Obj), X.heap[k]? = some o → k ≠ q → (X.setCell ⟨q, j, none⟩ u).heap[k]? = some o := fun X q j u k o h hkq => (Below.heap_setCell X ⟨q, j, none⟩ u k hkq).trans h
  have hs : ∀ (X : World) (q j : Nat) (u : Value), (X.setCell ⟨q, j, none⟩ u).heap.size = X.heap.size := fun X q j u => by simp [World.setCell]
  have h2 : Boxed ((((V.setCell ⟨r, 0, none⟩ a0).setCell ⟨r, 1, none⟩ a1).setCell ⟨r, 2, none⟩ a2).setCell ⟨r, 3, none⟩ a3) s tb b0 := hk _ _ _ _ _ _ (hk _ _ _ _ _ _ (hk _ _ _ _ _ _ (hk _ _ _ _ _ _ hb (Ne.symm hne)) (Ne.symm hne)) (Ne.symm hne)) (Ne.symm hne)
  refine ⟨hk _ _ _ _ _ _ h1 hne, h2.set bv, by unfold set5; rw [hs, hs, hs, hs, hs], fun k o h e1 e2 => hk _ _ _ _ _ _ (hk _ _ _ _ _ _ (hk _ _ _ _ _ _ (hk _ _ _ _ _ _ (hk _ _ _ _ _ _ h e1) e1) e1) e1) e2, fun n0 w h e1 e2 => ?_⟩
  exact ((((h.setCell (p := ⟨r, 0, none⟩) e1 _).setCell (p := ⟨r, 1, none⟩) e1 _).setCell (p := ⟨r, 2, none⟩) e1 _).setCell (p := ⟨r, 3, none⟩) e1 _).setCell (p := ⟨s, 0, none⟩) e2 _
theorem bears_hit {B K r q : Nat} {w : World} {n0 : Nat} {t tb : TypeId} {Z : List (Pair × Pair)} (c : Code) (h1 : r < B) (h2 : q < B) (h3 : n0 ≤ B) (h4 : n0 ≤ w.heap.size) : Bears B K (fun (_ : List Pair) V => (∃ a b : Pair, V.heap[r]? = some (.cells #[.int .u64 (a.1.toNat : Int), .int .u64 (a.2.toNat : Int), .int .u64 (b.1.toNat : Int), .int .u64 (b.2.toNat : Int)] t (0, 0)) ∧ Boxed V q tb (.bool true) ∧ Hid (c = .ret ∧ Z.find? hits = some (a, b))) ∧ Below n0 w V) :=
  fun s W W' row ⟨⟨a, b, k1, k2, k3⟩, k4⟩ hg ht => ⟨⟨a, b, (hg.block r (Array.getElem?_eq_some_iff.1 k1).1 (fun e => by have := (ht r e.symm).1; omega)).trans k1, k2.kept hg (fun e => by have := (ht q e.symm).1; omega), k3⟩, k4.grown hg (Nat.le_trans h4 k4.size) (fun k e => by have := (ht k e).1; omega)⟩
theorem equal_p2 (a b c d : Int) (w : World) : (Op.equalIn 10000 36 (.agg #[.int .u64 a, .int .u64 b]) (.agg #[.int .u64 c, .int .u64 d])).run Try.prog w = .ok (a == c && b == d) w := by
  have u3 := Try.underlying23
  have a3 := Try.isAgg23
  have z3 := Try.sizeOf23
  rw [show (10000 : Nat) = 9999 + 1 from rfl, Op.equalIn]
  simp only [Sem.run_bind, run_underlying Try.underlying36, Result.andThen_ok]
  simp only [Std.Legacy.Range.forIn_eq_forIn_range', Std.Legacy.Range.size, Nat.sub_zero, Nat.add_sub_cancel, Nat.div_one, List.range'_succ, List.range'_zero, List.forIn_cons, List.forIn_nil]
  go_simp
  by_cases h1 : a = c <;> by_cases h2 : b = d <;> simp [h1, h2]
attribute [local go_sem] equal_p2
theorem pairQ_p2 (cs : Array Value) (fz : Nat × Nat) : ¬ pairQ (.cells cs 36 fz) := by
  rintro (h | ⟨_, _, h⟩)
  · simp [Obj.isCells] at h
  · cases h
theorem pairQ_row (cs : Array Value) (fz : Nat × Nat) : ¬ pairQ (.cells cs 52 fz) := by
  rintro (h | ⟨_, _, h⟩)
  · simp [Obj.isCells] at h
  · cases h
def collW (w : World) (a b c d : Value) : World := (((w.alloc (.cells #[a, b] 25)).alloc (.cells #[c, d] 25)).alloc (.cells #[.int .u64 0, .int .u64 0, .int .u64 0, .int .u64 0] 37)).alloc (.cells #[.bool false] 4)
theorem collW_facts (w : World) (a b c d : Value) : (collW w a b c d).heap.size = w.heap.size + 4 ∧ (collW w a b c d).heap[w.heap.size]? = some (.cells #[a, b] 25 (0, 0)) ∧ (collW w a b c d).heap[w.heap.size + 1]? = some (.cells #[c, d] 25 (0, 0)) ∧
    (collW w a b c d).heap[w.heap.size + 1 + 1]? = some (.cells #[.int .u64 0, .int .u64 0, .int .u64 0, .int .u64 0] 37 (0, 0)) ∧ Boxed (collW w a b c d) (w.heap.size + 1 + 1 + 1) 4 (.bool false) ∧ Below w.heap.size w (collW w a b c d) := by
  obtain ⟨h1, h2, h3, h4, h5⟩ := heap3 w (.cells #[a, b] 25) (.cells #[c, d] 25) (.cells #[.int .u64 0, .int .u64 0, .int .u64 0, .int .u64 0] 37)
  unfold collW
  generalize (((w.alloc (.cells #[a, b] 25)).alloc (.cells #[c, d] 25)).alloc (.cells #[.int .u64 0, .int .u64 0, .int .u64 0, .int .u64 0] 37)) = V at *
  refine ⟨by simp; omega, (Below.heap_alloc _ _ _ (by omega)).trans h1, (Below.heap_alloc _ _ _ (by omega)).trans h2, (Below.heap_alloc _ _ _ (by omega)).trans h3, ?_, below_a h4 _⟩
  have := World.alloc_heap_new V (.cells #[.bool false] 4)
  rw [h5] at this
  exact this
set_option maxRecDepth 100000 in
set_option maxHeartbeats 2000000 in
theorem collide_bad (n i : Int) (lp lq : BitVec 64) (pa qa : Option Addr) (pl pc ql qc : Nat) (w : World) (he : placeE n i ≠ 0) :
    Calls Try.prog 12 #[.int .i64 n, .int .i64 i, .agg #[.int .u64 (lp.toNat : Int), .slice pa pl pc], .agg #[.int .u64 (lq.toNat : Int), .slice qa ql qc]] w fun e w' => e = .returned (collV none) ∧ Below w.heap.size w w' := by
  have PL := hid (fun W => place_any n i W)
  have t1 : (placeE n i == 0) = false := by simpa using he
  have t2 : (placeE n i != 0) = true := by simpa using he
  clear he
  generalize placeE n i = E at *
  go_enter Try.func12, Try.ntmps12
  go_wp2_with fail
  refine (PL.out _).mono ?_
  rintro e w1 ⟨rfl, rfl⟩
  go_wp2
  (try simp only [Exit.inBlock, Exit.then])
  refine bodyPost_ret (coll_results _ _ (w.heap.size + 1 + 1) (w.heap.size + 1 + 1 + 1) #[.int .u64 0, .int .u64 0, .int .u64 0, .int .u64 0] (.bool false) rfl rfl ?_ rfl ?_) rfl ⟨rfl, ?_⟩
  · exact (collW_facts w (.int .u64 (lp.toNat : Int)) (.slice pa pl pc) (.int .u64 (lq.toNat : Int)) (.slice qa ql qc)).2.2.2.1
  · exact (collW_facts w (.int .u64 (lp.toNat : Int)) (.slice pa pl pc) (.int .u64 (lq.toNat : Int)) (.slice qa ql qc)).2.2.2.2.1
  · exact (collW_facts w (.int .u64 (lp.toNat : Int)) (.slice pa pl pc) (.int .u64 (lq.toNat : Int)) (.slice qa ql qc)).2.2.2.2.2
set_option maxRecDepth 100000 in
set_option maxHeartbeats 2000000 in
theorem collide_in (n i : Nat) (hi : i < n) (hn : n ≤ 4096) (lp lq : BitVec 64) (pp pq : List (BitVec 64)) (k : Nat) (hk : (sibs 0 n i).length = k) (hlp : pp.length = k) (hlq : pq.length = k) (pa qa : Option Addr) (pc qc : Nat) (m : Nat) (w : World) (hp : U64At w (.slice pa k pc) pp) (hq : U64At w (.slice qa k qc) pq) :
    CallsIn Fence.wide m Try.prog 12 #[.int .i64 (n : Int), .int .i64 (i : Int), .agg #[.int .u64 (lp.toNat : Int), .slice pa k pc], .agg #[.int .u64 (lq.toNat : Int), .slice qa k qc]] w fun e w' => e = .returned (collV (((pairsB n i lp pp).zip (pairsB n i lq pq)).find? hits)) ∧ Below w.heap.size w w' := by
  have hdd : ∀ k : Nat, (Fence.wide.depth.isSome = true → 1 ≤ k) := fun k h => by cases h
  have pl : placeE n i = 0 := by
    rcases place_cases n i with h1 | h1 | h1 | h1 <;> omega
  have PL := hid (fun W => (callsIn_wide (n := m - 1)).2 (pl ▸ place_any n i W))
  have PP := hid (fun W => pathLen_in n i hi (by omega) (m - 1) W)
  rw [hk] at PP
  have HLP := hid hlp
  have HLQ := hid hlq
  have HKK := hid hk
  clear pl hlp hlq hk
  refine callsIn_of_wp_marks Try.func12 rfl trivial ?_ rfl
  simp only [Try.ntmps12, List.size_toArray, List.length_cons, List.length_nil, Nat.reduceAdd, Nat.reduceSub, Array.replicate_succ, Array.replicate_zero, List.push_toArray, List.append_toArray, List.nil_append, List.cons_append]
  gi_wp2_with ((try refine ⟨trivial, ?_⟩); (try refine ⟨hdd _, ?_⟩); gi_at_call 24; refine (PL.out _).mono ?_; clear PL; rintro e W0 ⟨rfl, hW0⟩)
  have F0 := collW_facts w (.int .u64 (lp.toNat : Int)) (.slice pa k pc) (.int .u64 (lq.toNat : Int)) (.slice qa k qc)
  rw [show collW w (.int .u64 (lp.toNat : Int)) (.slice pa k pc) (.int .u64 (lq.toNat : Int)) (.slice qa k qc) = W0 from hW0] at F0
  clear hW0
  refine ⟨trivial, hdd _, ?_⟩
  refine (PP.out _).mono ?_
  clear PP
  rintro e W1 ⟨rfl, hW1⟩
  obtain ⟨fs, fp, fq, fr, fb, fB⟩ := F0
  have gp := (hW1.block _ (by omega)).trans fp
  have gq := (hW1.block _ (by omega)).trans fq
  have GR := hid ((hW1.block _ (by omega)).trans fr)
  have GB := hid (show Boxed W1 (w.heap.size + 1 + 1 + 1) 4 (.bool false) from (hW1.block _ (by omega)).trans fb)
  have B1 := hid (show Below w.heap.size w W1 from fB.trans (hW1.mono (by omega)))
  have S1 := hid (show w.heap.size + 4 ≤ W1.heap.size by have := hW1.size; omega)
  clear fs fp fq fr fb fB hW1 W0
  have p0 := blk_cell gp (j := 0) (v := .int .u64 (lp.toNat : Int)) rfl
  have p1 := blk_cell gp (j := 1) (v := .slice pa k pc) rfl
  have q0 := blk_cell gq (j := 0) (v := .int .u64 (lq.toNat : Int)) rfl
  have q1 := blk_cell gq (j := 1) (v := .slice qa k qc) rfl
  have GP := hid gp
  have GQ := hid gq
  clear gp gq
  gi_wp2_with fail
  clear p0 p1 q0 q1
  refine ⟨trivial, hdd _, ?_⟩
  refine (pairs_in _ _ _ _ _ _ _ _).mono ?_
  rintro e W2 ⟨rfl, hW2⟩
  have F2 := pairW_facts W1 n i (.int .u64 (lq.toNat : Int)) (.slice qa k qc)
  rw [hW2] at F2
  obtain ⟨s2, n2, i2, o2, b2⟩ := F2
  clear hW2
  have B2 := hid (B1.out.trans (b2.mono B1.out.size))
  have hq2 := hq.below B2.out
  have CO := hid (collect_in (full := pairsB n i lq pq) (enters_of Try.func36 (by kernel_rfl) rfl) (pair_seq n i hi hn lq pq (HLQ.out.trans HKK.out.symm) _ _ _ (.slice qa k qc) W2 o2 n2 i2 hq2) W2
    (pairG_lt (by omega) (by omega) (by omega) hq2 (Nat.le_refl _)) (fun _ _ _ h => h) (fun _ h => .inl h) pairQ_p2 pairQ_row (by rw [pairs_len _ _ _ _ (HLQ.out.trans HKK.out.symm)]; have := sibs_len12 i hn; omega) (m - 1))
  have CL := hid (pairs_len n i lq pq (HLQ.out.trans HKK.out.symm))
  rw [HKK.out] at CL
  have LP := hid (pairs_len n i lp pp (HLP.out.trans HKK.out.symm))
  rw [HKK.out] at LP
  have B12 := hid b2
  have S2 := hid s2
  clear s2 n2 i2 o2 b2 hq2
  gi_wp2_with ((try refine ⟨trivial, ?_⟩); (try refine ⟨hdd _, ?_⟩); gi_at_call 26; refine (CO.out).mono ?_; clear CO; rintro e W3 ⟨v, rfl, hown, hb3⟩; rw [CL.out] at hown; obtain ⟨g, cap, rfl⟩ := ownsRow_succ hown; have HO := hid hown; have B3 := hid hb3; clear hown hb3; have B14 := hid (below_a (B12.out.trans (B3.out.mono B12.out.size)) (.cells #[.slice (some ⟨g, 0, none⟩) (k + 1 + 1) cap] 52)); have p0 := cell_below B14.out (blk_cell GP.out (j := 0) (v := .int .u64 (lp.toNat : Int)) rfl); have p1 := cell_below B14.out (blk_cell GP.out (j := 1) (v := .slice pa k pc) rfl))
  clear p0 p1
  refine ⟨trivial, hdd _, ?_⟩
  refine (pairs_in _ _ _ _ _ _ _ _).mono ?_
  rintro e W5 ⟨rfl, hW5⟩
  obtain ⟨W4, hW4⟩ : ∃ W4, W3.alloc (.cells #[.slice (some ⟨g, 0, none⟩) (k + 1 + 1) cap] 52) = W4 := ⟨_, rfl⟩
  rw [hW4] at hW5 B14 ⊢
  have s4 : W4.heap.size = W3.heap.size + 1 := by rw [← hW4]; simp
  have o4 : Boxed W4 W3.heap.size 52 (.slice (some ⟨g, 0, none⟩) (k + 1 + 1) cap) := by rw [← hW4]; exact Boxed.new W3 _ _
  obtain ⟨hc1, hc2, ro, hro, hgl, hcell⟩ := row_cells HO.out
  have r4 : W4.heap[g]? = some ro := by rw [← hW4]; exact (Below.heap_alloc _ _ _ (Array.getElem?_eq_some_iff.1 hro).1).trans hro
  have F5 := pairW_facts W4 n i (.int .u64 (lp.toNat : Int)) (.slice pa k pc)
  rw [hW5] at F5
  obtain ⟨s5, n5, i5, o5, b5⟩ := F5
  clear hW5
  have ho := (b5.block _ (by omega)).trans o4
  have hr := (b5.block _ (Array.getElem?_eq_some_iff.1 r4).1).trans r4
  have B15 := hid (B14.out.trans (b5.mono B14.out.size))
  have hg := (B15.out.block _ (by have := S1.out; omega)).trans GR.out
  have hgb := (B15.out.block _ (by have := S1.out; omega)).trans GB.out
  have B5 := hid (B1.out.trans (B15.out.mono B1.out.size))
  have S3 := hid (show W2.heap.size ≤ W3.heap.size from B3.out.size)
  clear r4 o4 b5 hW4
  have hp5 := hp.below B5.out
  have HCELL := hid hcell
  have z1 := S1.out
  have z2 := B14.out.size
  have z4 := B5.out.size
  have HCAP := hid hc1
  clear hcell hc1
  have S4 := hid s4
  have S5 := hid s5
  clear s4 s5
  gi_wp2
  have s4 := S4.out
  have s5 := S5.out
  refine range_law (gf := 36) (lb := #[.pointer (some ⟨W4.heap.size + 1 + 1, 0, none⟩), .pointer (some ⟨W4.heap.size, 0, none⟩), .pointer (some ⟨W4.heap.size + 1, 0, none⟩)]) rfl (enters_of Try.func36 (by kernel_rfl) rfl)
    (pair_seq n i hi hn lp pp (HLP.out.trans HKK.out.symm) _ _ _ (.slice pa k pc) W5 o5 n5 i5 hp5) (pairG_lt (by omega) (by omega) (by omega) hp5 (Nat.le_refl _)) (fun _ _ _ h => h) (fun _ => rfl) (fun _ h => .inl h)
    (fun pre V => ((((∃ off, (pre.length < cap → off = 2 * pre.length) ∧ Boxed V W3.heap.size 52 (.slice (some ⟨g, off, none⟩) (k + 1 + 1 - pre.length) (cap - pre.length))) ∧ V.heap[g]? = some ro) ∧
      (V.heap[w.heap.size + 1 + 1]? = some (.cells #[.int .u64 0, .int .u64 0, .int .u64 0, .int .u64 0] 37 (0, 0)) ∧ Boxed V (w.heap.size + 1 + 1 + 1) 4 (.bool false))) ∧ Below w.heap.size w V) ∧ Hid ((((pairsB n i lp pp).zip (pairsB n i lq pq)).take pre.length).find? hits = none))
    (fun c pre V => (∃ a b : Pair, V.heap[w.heap.size + 1 + 1]? = some (.cells #[.int .u64 (a.1.toNat : Int), .int .u64 (a.2.toNat : Int), .int .u64 (b.1.toNat : Int), .int .u64 (b.2.toNat : Int)] 37 (0, 0)) ∧ Boxed V (w.heap.size + 1 + 1 + 1) 4 (.bool true) ∧ Hid (c = .ret ∧ ((pairsB n i lp pp).zip (pairsB n i lq pq)).find? hits = some (a, b))) ∧ Below w.heap.size w V)
    (Bears.and (Bears.and (Bears.and (Bears.and (bears_off (by omega)) (Bears.block _ (by omega))) (Bears.and (Bears.block _ (by omega)) (Bears.boxed _ _ (by omega)))) (Bears.below (by omega) (by omega))) (Bears.pure _ _ _)) (fun c => bears_hit c (by omega) (by omega) (by omega) (Nat.le_refl _)) ⟨⟨⟨⟨⟨0, fun _ => rfl, ho⟩, hr⟩, ⟨hg, hgb⟩⟩, B5.out⟩, hid rfl⟩ ?round ?done ?stop
  case round =>
    rintro l' pre x V ⟨⟨⟨⟨⟨off, hoff, hbo⟩, hrow⟩, ⟨hz, hbz⟩⟩, hB⟩, hf⟩ hsz hpre
    have hplt : pre.length < k + 1 + 1 := by
      have h1 := hpre.length_le
      rw [LP.out, List.length_append] at h1
      simp at h1
      omega
    obtain ⟨y, hy⟩ : ∃ y, (pairsB n i lq pq)[pre.length]? = some y := ⟨_, List.getElem?_eq_getElem (by rw [CL.out]; exact hplt)⟩
    have hx : (pairsB n i lp pp)[pre.length]? = some x := by
      obtain ⟨tl, h1⟩ := hpre
      rw [← h1, List.append_assoc, List.getElem?_append_right (Nat.le_refl _)]
      simp
    have hzz : ((pairsB n i lp pp).zip (pairsB n i lq pq))[pre.length]? = some (x, y) := by rw [List.getElem?_zip_eq_some]; exact ⟨hx, hy⟩
    have FS := hid (find_step hits _ _ _ hzz hf.out)
    have HY := hid hy
    clear hx hzz hy hpre
    clear s4 s5
    unfold encP
    gi_wp2
    have s4 := S4.out
    have s5 := S5.out
    refine ⟨Kept.alloc _ _, ⟨⟨⟨⟨⟨off, hoff, hbo.alloc _⟩, (Below.heap_alloc _ _ _ (by omega)).trans hrow⟩, ⟨(Below.heap_alloc _ _ _ (by omega)).trans hz, hbz.alloc _⟩⟩, below_a hB _⟩, hf⟩, ?_⟩
    clear hoff hbo hrow hz hbz off
    rintro W₂ hg2 ⟨⟨⟨⟨⟨off, hoff, hbo⟩, hrow⟩, ⟨hz, hbz⟩⟩, hB2⟩, -⟩ hs2
    have hc1 := HCAP.out
    obtain rfl := hoff (by omega)
    have hsx : W₂.heap[V.heap.size]? = some (.cells #[.int .u64 (x.1.toNat : Int), .int .u64 (x.2.toNat : Int)] 36 (0, 0)) := (hg2.block V.heap.size (by simp) (fun e => by have := Option.some.inj e; omega)).trans (World.alloc_heap_new V _)
    have q0 : W₂.cell? ⟨V.heap.size, 0, none⟩ = some (.int .u64 (x.1.toNat : Int)) := blk_cell hsx rfl
    have q1 : W₂.cell? ⟨V.heap.size, 1, none⟩ = some (.int .u64 (x.2.toNat : Int)) := blk_cell hsx rfl
    obtain ⟨r0, r1⟩ := HCELL.out W₂ pre.length y hrow hplt HY.out
    have hbo' := hbo.alloc (.cells #[.int .u64 (y.1.toNat : Int), .int .u64 (y.2.toNat : Int)] 36)
    have k0 := hbo'.cell
    have f0 := hbo'.frozen
    have k1 := hbo.cell
    generalize hj : pre.length = j at *
    have HJE := hid hj
    clear hj
    have u1 : (1 : Int) ≤ ((k + 1 + 1 - j : Nat) : Int) := by omega
    have u2 : 1 ≤ k + 1 + 1 - j := by omega
    have PG : ¬ pairG (W4.heap.size + 1 + 1) W4.heap.size (W4.heap.size + 1) (.slice pa k pc) W3.heap.size := by
      rintro (h | h | h | ⟨b', o', n', c', e, h0, h⟩)
      · omega
      · omega
      · omega
      · have := pairG_lt (bo := 0) (bn := 0) (bi := 0) (B := W3.heap.size) (by omega) (by omega) (by omega) hp (by omega) b' (.inr (.inr (.inr ⟨b', o', n', c', e, h0, rfl⟩)))
        omega
    have z5 := S3.out
    have z6 := S2.out
    have d1 : V.heap.size ≠ W3.heap.size := by omega
    have d2 : W₂.heap.size ≠ W3.heap.size := by omega
    have PG2 : ¬ pairG (W4.heap.size + 1 + 1) W4.heap.size (W4.heap.size + 1) (.slice pa k pc) (w.heap.size + 1 + 1) := by
      rintro (h | h | h | ⟨b', o', n', c', e, h0, h⟩)
      · omega
      · omega
      · omega
      · have := pairG_lt (bo := 0) (bn := 0) (bi := 0) (B := w.heap.size + 1 + 1) (by omega) (by omega) (by omega) hp (by omega) b' (.inr (.inr (.inr ⟨b', o', n', c', e, h0, rfl⟩)))
        omega
    have PG3 : ¬ pairG (W4.heap.size + 1 + 1) W4.heap.size (W4.heap.size + 1) (.slice pa k pc) (w.heap.size + 1 + 1 + 1) := by
      rintro (h | h | h | ⟨b', o', n', c', e, h0, h⟩)
      · omega
      · omega
      · omega
      · have := pairG_lt (bo := 0) (bn := 0) (bi := 0) (B := w.heap.size + 1 + 1) (by omega) (by omega) (by omega) hp (by omega) b' (.inr (.inr (.inr ⟨b', o', n', c', e, h0, rfl⟩)))
        omega
    have FX := hid (fun (NV : Value) => show (((W₂.alloc (.cells #[.int .u64 (y.1.toNat : Int), .int .u64 (y.2.toNat : Int)] 36)).setCell ⟨W3.heap.size, 0, none⟩ NV).heap[V.heap.size]? = some (.cells #[.int .u64 (x.1.toNat : Int), .int .u64 (x.2.toNat : Int)] 36 (0, 0))) ∧
      (((W₂.alloc (.cells #[.int .u64 (y.1.toNat : Int), .int .u64 (y.2.toNat : Int)] 36)).setCell ⟨W3.heap.size, 0, none⟩ NV).heap[W₂.heap.size]? = some (.cells #[.int .u64 (y.1.toNat : Int), .int .u64 (y.2.toNat : Int)] 36 (0, 0))) ∧
      Boxed ((W₂.alloc (.cells #[.int .u64 (y.1.toNat : Int), .int .u64 (y.2.toNat : Int)] 36)).setCell ⟨W3.heap.size, 0, none⟩ NV) W3.heap.size 52 NV ∧
      (((W₂.alloc (.cells #[.int .u64 (y.1.toNat : Int), .int .u64 (y.2.toNat : Int)] 36)).setCell ⟨W3.heap.size, 0, none⟩ NV).heap[g]? = some ro) ∧
      (((W₂.alloc (.cells #[.int .u64 (y.1.toNat : Int), .int .u64 (y.2.toNat : Int)] 36)).setCell ⟨W3.heap.size, 0, none⟩ NV).heap[w.heap.size + 1 + 1]? = some (.cells #[.int .u64 0, .int .u64 0, .int .u64 0, .int .u64 0] 37 (0, 0))) ∧
      Boxed ((W₂.alloc (.cells #[.int .u64 (y.1.toNat : Int), .int .u64 (y.2.toNat : Int)] 36)).setCell ⟨W3.heap.size, 0, none⟩ NV) (w.heap.size + 1 + 1 + 1) 4 (.bool false) ∧
      Below w.heap.size w ((W₂.alloc (.cells #[.int .u64 (y.1.toNat : Int), .int .u64 (y.2.toNat : Int)] 36)).setCell ⟨W3.heap.size, 0, none⟩ NV) ∧
      Kept W5.heap.size (Hold (pairG (W4.heap.size + 1 + 1) W4.heap.size (W4.heap.size + 1) (.slice pa k pc)) W5.heap.size 9) pairQ W₂ ((W₂.alloc (.cells #[.int .u64 (y.1.toNat : Int), .int .u64 (y.2.toNat : Int)] 36)).setCell ⟨W3.heap.size, 0, none⟩ NV) from by
        have hk : ∀ (q : Nat) (o : Obj), W₂.heap[q]? = some o → q ≠ W3.heap.size → ((W₂.alloc (.cells #[.int .u64 (y.1.toNat : Int), .int .u64 (y.2.toNat : Int)] 36)).setCell ⟨W3.heap.size, 0, none⟩ NV).heap[q]? = some o := fun q o h hq => (Below.heap_setCell _ ⟨W3.heap.size, 0, none⟩ NV q hq).trans ((Below.heap_alloc _ _ _ (Array.getElem?_eq_some_iff.1 h).1).trans h)
        refine ⟨hk _ _ hsx d1, (Below.heap_setCell _ ⟨W3.heap.size, 0, none⟩ NV _ d2).trans (World.alloc_heap_new _ _), hbo'.set NV, hk _ _ hrow (by omega), hk _ _ hz (by omega), hk (w.heap.size + 1 + 1 + 1) _ hbz (by omega), (below_a hB2 _).setCell (p := ⟨W3.heap.size, 0, none⟩) (by simp only; omega) _, ?_⟩
        refine (Kept.alloc _ _).trans (Kept.of_grownBy (grownBy_setCell' _ _ _) (fun r o e _ => ?_))
        obtain rfl := Option.some.inj e
        exact ⟨fun h => by rcases h with h | h <;> first | exact PG h | omega, fun h => by omega⟩)
    have HJ := hid hplt
    clear hbo' hsx hrow hz hbz hB2 hbo
    clear s4 s5 z5 z6
    gi_wp2
    · skip
      have FY := FX.out (.slice (some ⟨g, 2 * j, none⟩) (k + 1 + 1 - j - 1) 0)
      clear FX
      obtain ⟨WX, hWX⟩ : ∃ WX, (W₂.alloc (.cells #[.int .u64 (y.1.toNat : Int), .int .u64 (y.2.toNat : Int)] 36)).setCell ⟨W3.heap.size, 0, none⟩ (.slice (some ⟨g, 2 * j, none⟩) (k + 1 + 1 - j - 1) 0) = WX := ⟨_, rfl⟩
      rw [hWX] at FY ⊢
      clear hWX
      obtain ⟨gA, gB, gN, gR, gZ, gF, gW, gK⟩ := FY
      have GN := hid gN
      have GR5 := hid gR
      have GZ := hid gZ
      have GF := hid gF
      have GW := hid gW
      have GK := hid gK
      have a0 := blk_cell gA (j := 0) (v := .int .u64 (x.1.toNat : Int)) rfl
      have a1 := blk_cell gA (j := 1) (v := .int .u64 (x.2.toNat : Int)) rfl
      have b0 := blk_cell gB (j := 0) (v := .int .u64 (y.1.toNat : Int)) rfl
      have b1 := blk_cell gB (j := 1) (v := .int .u64 (y.2.toNat : Int)) rfl
      clear gA gB gN gR gZ gF gW gK k0 f0 k1 q0 q1 r0 r1
      have hsd := (Below.refl WX.heap.size WX).drew
      by_cases hxy : x = y
      · have nh : hits (x, y) = false := by subst hxy; simp [hits]
        have t1 : ((x.1.toNat : Int) == (y.1.toNat : Int)) = true := by rw [hxy]; simp
        have t2 : ((x.2.toNat : Int) == (y.2.toNat : Int)) = true := by rw [hxy]; simp
        have NH := hid (FS.out.2 nh)
        clear hxy nh FS
        refine round_region (S := fun W' => (W'.cell? ⟨V.heap.size, 0, none⟩ = some (.int .u64 (x.1.toNat : Int)) ∧ W'.cell? ⟨V.heap.size, 1, none⟩ = some (.int .u64 (x.2.toNat : Int)) ∧ W'.cell? ⟨W₂.heap.size, 0, none⟩ = some (.int .u64 (y.1.toNat : Int)) ∧ W'.cell? ⟨W₂.heap.size, 1, none⟩ = some (.int .u64 (y.2.toNat : Int)) ∧ Below WX.heap.size WX W')) (by kernel_rfl) (by rfl) ?_ (fun hHeld => ?_)
        · exact ⟨a0, a1, b0, b1, hsd⟩
        refine wpAnyH_take (i := 0) (oi := ({ dst := some 50, op := Op.load 36 (Operand.tmp 12), type := 36, pos := "merkle.go:49", after := #[], guard := none } : Oper)) (v := ?_) rfl (by kernel_rfl) (by kernel_rfl) (by kernel_rfl) (fun _ _ _ h => h) (Or.inl ⟨by rfl, ?_⟩) (by assumption) ?_
        rotate_left
        · intro w hSw; (try dsimp only at hSw); go_simp <;> with_reducible rfl
        (try simp only [Act.put, List.setIfInBounds_toArray, List.set_cons_zero, List.set_cons_succ])
        refine wpAnyH_take (i := 1) (oi := ({ dst := some 51, op := Op.load 36 (Operand.tmp 13), type := 36, pos := "merkle.go:49", after := #[], guard := none } : Oper)) (v := ?_) rfl (by kernel_rfl) (by kernel_rfl) (by kernel_rfl) (fun _ _ _ h => h) (Or.inl ⟨by rfl, ?_⟩) (by assumption) ?_
        rotate_left
        · intro w hSw; (try dsimp only at hSw); go_simp <;> with_reducible rfl
        (try simp only [Act.put, List.setIfInBounds_toArray, List.set_cons_zero, List.set_cons_succ])
        refine wpAnyH_take (i := 2) (oi := ({ dst := some 52, op := Op.binOp BinOp.neq 36 (Operand.tmp 50) (Operand.tmp 51) 36, type := 4, pos := "merkle.go:49", after := #[{ on := 0, ground := Ground.data }, { on := 1, ground := Ground.data }], guard := none } : Oper)) (v := ?_) rfl (by kernel_rfl) (by kernel_rfl) (by kernel_rfl) (fun _ _ _ h => h) (Or.inl ⟨by rfl, ?_⟩) (by assumption) ?_
        rotate_left
        · intro w hSw; (try dsimp only at hSw); go_simp <;> with_reducible rfl
        (try simp only [Act.put, List.setIfInBounds_toArray, List.set_cons_zero, List.set_cons_succ])
        refine wpAnyH_take (i := 3) (oi := ({ dst := some 53, op := Op.move (Operand.tmp 52), type := 4, pos := "merkle.go:49", after := #[{ on := 2, ground := Ground.data }], guard := none } : Oper)) (v := ?_) rfl (by kernel_rfl) (by kernel_rfl) (by kernel_rfl) (fun _ _ _ h => h) (Or.inl ⟨by rfl, ?_⟩) (by assumption) ?_
        rotate_left
        · intro w hSw; (try dsimp only at hSw); go_simp <;> with_reducible rfl
        (try simp only [Act.put, List.setIfInBounds_toArray, List.set_cons_zero, List.set_cons_succ])
        refine wpAnyH_take (i := 4) (oi := ({ dst := some 54, op := Op.load 36 (Operand.tmp 12), type := 36, pos := "merkle.go:49", after := #[{ on := 3, ground := Ground.guard }], guard := some (3, true) } : Oper)) (v := undef) rfl (by kernel_rfl) (by kernel_rfl) (by kernel_rfl) (fun _ _ _ h => h) (Or.inr ⟨by rfl, rfl⟩) (by assumption) ?_
        (try simp only [Act.put, List.setIfInBounds_toArray, List.set_cons_zero, List.set_cons_succ])
        refine wpAnyH_take (i := 5) (oi := ({ dst := some 55, op := Op.call { callee := Callee.value (Operand.func 28), args := #[Operand.tmp 54], argTypes := #[36] }, type := 23, pos := "merkle.go:49", after := #[{ on := 4, ground := Ground.data }, { on := 3, ground := Ground.chain }, { on := 3, ground := Ground.guard }], guard := some (3, true) } : Oper)) (v := undef) rfl (by kernel_rfl) (by kernel_rfl) (by kernel_rfl) (fun _ _ _ h => h) (Or.inr ⟨by rfl, rfl⟩) (by assumption) ?_
        (try simp only [Act.put, List.setIfInBounds_toArray, List.set_cons_zero, List.set_cons_succ])
        refine wpAnyH_take (i := 6) (oi := ({ dst := some 56, op := Op.load 36 (Operand.tmp 13), type := 36, pos := "merkle.go:49", after := #[{ on := 3, ground := Ground.guard }], guard := some (3, true) } : Oper)) (v := undef) rfl (by kernel_rfl) (by kernel_rfl) (by kernel_rfl) (fun _ _ _ h => h) (Or.inr ⟨by rfl, rfl⟩) (by assumption) ?_
        (try simp only [Act.put, List.setIfInBounds_toArray, List.set_cons_zero, List.set_cons_succ])
        refine wpAnyH_take (i := 7) (oi := ({ dst := some 57, op := Op.call { callee := Callee.value (Operand.func 28), args := #[Operand.tmp 56], argTypes := #[36] }, type := 23, pos := "merkle.go:49", after := #[{ on := 6, ground := Ground.data }, { on := 5, ground := Ground.chain }, { on := 3, ground := Ground.guard }], guard := some (3, true) } : Oper)) (v := undef) rfl (by kernel_rfl) (by kernel_rfl) (by kernel_rfl) (fun _ _ _ h => h) (Or.inr ⟨by rfl, rfl⟩) (by assumption) ?_
        (try simp only [Act.put, List.setIfInBounds_toArray, List.set_cons_zero, List.set_cons_succ])
        refine wpAnyH_take (i := 8) (oi := ({ dst := some 58, op := Op.binOp BinOp.eql 23 (Operand.tmp 55) (Operand.tmp 57) 23, type := 4, pos := "merkle.go:49", after := #[{ on := 5, ground := Ground.data }, { on := 7, ground := Ground.data }, { on := 3, ground := Ground.guard }], guard := some (3, true) } : Oper)) (v := undef) rfl (by kernel_rfl) (by kernel_rfl) (by kernel_rfl) (fun _ _ _ h => h) (Or.inr ⟨by rfl, rfl⟩) (by assumption) ?_
        (try simp only [Act.put, List.setIfInBounds_toArray, List.set_cons_zero, List.set_cons_succ])
        refine wpAnyH_take (i := 9) (oi := ({ dst := some 59, op := Op.pick (Operand.tmp 53) (Operand.tmp 58) (Operand.const (Value.bool false)), type := 4, pos := "merkle.go:49", after := #[{ on := 3, ground := Ground.data }, { on := 8, ground := Ground.data }], guard := none } : Oper)) (v := ?_) rfl (by kernel_rfl) (by kernel_rfl) (by kernel_rfl) (fun _ _ _ h => h) (Or.inl ⟨by rfl, ?_⟩) (by assumption) ?_
        rotate_left
        · intro w hSw; (try dsimp only at hSw); go_simp <;> with_reducible rfl
        (try simp only [Act.put, List.setIfInBounds_toArray, List.set_cons_zero, List.set_cons_succ])
        refine wpAnyH_done (by kernel_rfl) ?_ _
        refine onlyN_mk ?_
        clear hHeld
        gi_wp2
        have s4 := S4.out
        have s5 := S5.out
        have hl1 : (pre ++ [x]).length = j + 1 := by rw [List.length_append, HJE.out]; rfl
        refine ⟨GK.out.trans (Kept.of_below hsd), ⟨⟨⟨⟨2 * j, fun h => by rw [hl1] at h ⊢; omega, ?_⟩, (hsd.block _ (Array.getElem?_eq_some_iff.1 GR5.out).1).trans GR5.out⟩, ⟨(hsd.block _ (Array.getElem?_eq_some_iff.1 GZ.out).1).trans GZ.out, (hsd.block _ GF.out.lt).trans GF.out⟩⟩, GW.out.trans (hsd.mono GW.out.size)⟩, hid (by rw [hl1]; exact NH.out)⟩
        have hN : Boxed _ W3.heap.size 52 (.slice (some ⟨g, 2 * j, none⟩) (k + 1 + 1 - j - 1) 0) := (hsd.block _ GN.out.lt).trans GN.out
        rw [hl1, show k + 1 + 1 - (j + 1) = k + 1 + 1 - j - 1 by omega, show cap - (j + 1) = 0 by omega]
        exact hN
      · by_cases h11 : x.1 = y.1
        · have t1 : ((x.1.toNat : Int) == (y.1.toNat : Int)) = true := by rw [h11]; simp
          have t2 := bv_ne (a := x.2) (b := y.2) (fun h => hxy (Prod.ext h11 h))
          clear h11
          by_cases hjn : joinP x = joinP y
          · have nh : hits (x, y) = true := by simp [hits, hxy, hjn]
            have t3 : (((joinP x).toNat : Int) == ((joinP y).toNat : Int)) = true := by rw [hjn]; simp
            have NH := hid (FS.out.1 nh)
            clear hxy nh FS hjn
            refine round_region (S := fun W' => (W'.cell? ⟨V.heap.size, 0, none⟩ = some (.int .u64 (x.1.toNat : Int)) ∧ W'.cell? ⟨V.heap.size, 1, none⟩ = some (.int .u64 (x.2.toNat : Int)) ∧ W'.cell? ⟨W₂.heap.size, 0, none⟩ = some (.int .u64 (y.1.toNat : Int)) ∧ W'.cell? ⟨W₂.heap.size, 1, none⟩ = some (.int .u64 (y.2.toNat : Int)) ∧ Below WX.heap.size WX W')) (by kernel_rfl) (by rfl) ?_ (fun hHeld => ?_)
            · exact ⟨a0, a1, b0, b1, hsd⟩
            refine wpAnyH_take (i := 0) (oi := ({ dst := some 50, op := Op.load 36 (Operand.tmp 12), type := 36, pos := "merkle.go:49", after := #[], guard := none } : Oper)) (v := ?_) rfl (by kernel_rfl) (by kernel_rfl) (by kernel_rfl) (fun _ _ _ h => h) (Or.inl ⟨by rfl, ?_⟩) (by assumption) ?_
            rotate_left
            · intro w hSw; (try dsimp only at hSw); go_simp <;> with_reducible rfl
            (try simp only [Act.put, List.setIfInBounds_toArray, List.set_cons_zero, List.set_cons_succ])
            refine wpAnyH_take (i := 1) (oi := ({ dst := some 51, op := Op.load 36 (Operand.tmp 13), type := 36, pos := "merkle.go:49", after := #[], guard := none } : Oper)) (v := ?_) rfl (by kernel_rfl) (by kernel_rfl) (by kernel_rfl) (fun _ _ _ h => h) (Or.inl ⟨by rfl, ?_⟩) (by assumption) ?_
            rotate_left
            · intro w hSw; (try dsimp only at hSw); go_simp <;> with_reducible rfl
            (try simp only [Act.put, List.setIfInBounds_toArray, List.set_cons_zero, List.set_cons_succ])
            refine wpAnyH_take (i := 2) (oi := ({ dst := some 52, op := Op.binOp BinOp.neq 36 (Operand.tmp 50) (Operand.tmp 51) 36, type := 4, pos := "merkle.go:49", after := #[{ on := 0, ground := Ground.data }, { on := 1, ground := Ground.data }], guard := none } : Oper)) (v := ?_) rfl (by kernel_rfl) (by kernel_rfl) (by kernel_rfl) (fun _ _ _ h => h) (Or.inl ⟨by rfl, ?_⟩) (by assumption) ?_
            rotate_left
            · intro w hSw; (try dsimp only at hSw); go_simp <;> with_reducible rfl
            (try simp only [Act.put, List.setIfInBounds_toArray, List.set_cons_zero, List.set_cons_succ])
            refine wpAnyH_take (i := 3) (oi := ({ dst := some 53, op := Op.move (Operand.tmp 52), type := 4, pos := "merkle.go:49", after := #[{ on := 2, ground := Ground.data }], guard := none } : Oper)) (v := ?_) rfl (by kernel_rfl) (by kernel_rfl) (by kernel_rfl) (fun _ _ _ h => h) (Or.inl ⟨by rfl, ?_⟩) (by assumption) ?_
            rotate_left
            · intro w hSw; (try dsimp only at hSw); go_simp <;> with_reducible rfl
            (try simp only [Act.put, List.setIfInBounds_toArray, List.set_cons_zero, List.set_cons_succ])
            refine wpAnyH_take (i := 4) (oi := ({ dst := some 54, op := Op.load 36 (Operand.tmp 12), type := 36, pos := "merkle.go:49", after := #[{ on := 3, ground := Ground.guard }], guard := some (3, true) } : Oper)) (v := ?_) rfl (by kernel_rfl) (by kernel_rfl) (by kernel_rfl) (fun _ _ _ h => h) (Or.inl ⟨by rfl, ?_⟩) (by assumption) ?_
            rotate_left
            · intro w hSw; (try dsimp only at hSw); go_simp <;> with_reducible rfl
            (try simp only [Act.put, List.setIfInBounds_toArray, List.set_cons_zero, List.set_cons_succ])
            refine wpAnyH_take (i := 6) (oi := ({ dst := some 56, op := Op.load 36 (Operand.tmp 13), type := 36, pos := "merkle.go:49", after := #[{ on := 3, ground := Ground.guard }], guard := some (3, true) } : Oper)) (v := ?_) rfl (by kernel_rfl) (by kernel_rfl) (by kernel_rfl) (fun _ _ _ h => h) (Or.inl ⟨by rfl, ?_⟩) (by assumption) ?_
            rotate_left
            · intro w hSw; (try dsimp only at hSw); go_simp <;> with_reducible rfl
            (try simp only [Act.put, List.setIfInBounds_toArray, List.set_cons_zero, List.set_cons_succ])
            refine wpAnyH_ready (rs := [5]) (by kernel_rfl) (by simp) ?_
            refine AllReadyH.cons (o := ({ dst := some 55, op := Op.call { callee := Callee.value (Operand.func 28), args := #[Operand.tmp 54], argTypes := #[36] }, type := 23, pos := "merkle.go:49", after := #[{ on := 4, ground := Ground.data }, { on := 3, ground := Ground.chain }, { on := 3, ground := Ground.guard }], guard := some (3, true) } : Oper)) rfl (fun K hK => ?_) ?_
            rotate_left
            · exact AllReadyH.nil
            go_simp
            go_at_call 28
            with_reducible refine (pjoin_any x _).mono ?_
            rintro e y0 ⟨rfl, hq0⟩
            have hB0 := below_step hsd hq0
            clear hHeld
            first | (with_reducible refine hK.out _ _ ?_ (fun hHeld => ?_)) | (go_wp2_with fail; with_reducible refine hK.out _ _ ?_ (fun hHeld => ?_))
            · exact ⟨cell_below hB0 a0, cell_below hB0 a1, cell_below hB0 b0, cell_below hB0 b1, hB0⟩
            clear hK K
            (try simp only [Act.put, List.setIfInBounds_toArray, List.set_cons_zero, List.set_cons_succ])
            refine wpAnyH_ready (rs := [7]) (by kernel_rfl) (by simp) ?_
            refine AllReadyH.cons (o := ({ dst := some 57, op := Op.call { callee := Callee.value (Operand.func 28), args := #[Operand.tmp 56], argTypes := #[36] }, type := 23, pos := "merkle.go:49", after := #[{ on := 6, ground := Ground.data }, { on := 5, ground := Ground.chain }, { on := 3, ground := Ground.guard }], guard := some (3, true) } : Oper)) rfl (fun K hK => ?_) ?_
            rotate_left
            · exact AllReadyH.nil
            go_simp
            go_at_call 28
            with_reducible refine (pjoin_any y _).mono ?_
            rintro e y1 ⟨rfl, hq1⟩
            have hB1 := below_step hB0 hq1
            clear hHeld
            first | (with_reducible refine hK.out _ _ ?_ (fun hHeld => ?_)) | (go_wp2_with fail; with_reducible refine hK.out _ _ ?_ (fun hHeld => ?_))
            · exact ⟨cell_below hB1 a0, cell_below hB1 a1, cell_below hB1 b0, cell_below hB1 b1, hB1⟩
            clear hK K
            (try simp only [Act.put, List.setIfInBounds_toArray, List.set_cons_zero, List.set_cons_succ])
            refine wpAnyH_take (i := 8) (oi := ({ dst := some 58, op := Op.binOp BinOp.eql 23 (Operand.tmp 55) (Operand.tmp 57) 23, type := 4, pos := "merkle.go:49", after := #[{ on := 5, ground := Ground.data }, { on := 7, ground := Ground.data }, { on := 3, ground := Ground.guard }], guard := some (3, true) } : Oper)) (v := ?_) rfl (by kernel_rfl) (by kernel_rfl) (by kernel_rfl) (fun _ _ _ h => h) (Or.inl ⟨by rfl, ?_⟩) (by assumption) ?_
            rotate_left
            · intro w hSw; (try dsimp only at hSw); go_simp <;> with_reducible rfl
            (try simp only [Act.put, List.setIfInBounds_toArray, List.set_cons_zero, List.set_cons_succ])
            refine wpAnyH_take (i := 9) (oi := ({ dst := some 59, op := Op.pick (Operand.tmp 53) (Operand.tmp 58) (Operand.const (Value.bool false)), type := 4, pos := "merkle.go:49", after := #[{ on := 3, ground := Ground.data }, { on := 8, ground := Ground.data }], guard := none } : Oper)) (v := ?_) rfl (by kernel_rfl) (by kernel_rfl) (by kernel_rfl) (fun _ _ _ h => h) (Or.inl ⟨by rfl, ?_⟩) (by assumption) ?_
            rotate_left
            · intro w hSw; (try dsimp only at hSw); go_simp <;> with_reducible rfl
            (try simp only [Act.put, List.setIfInBounds_toArray, List.set_cons_zero, List.set_cons_succ])
            refine wpAnyH_done (by kernel_rfl) ?_ _
            refine onlyN_mk ?_
            clear hHeld
            have c0 := cell_below hB1 a0
            have c1 := cell_below hB1 a1
            have c2 := cell_below hB1 b0
            have c3 := cell_below hB1 b1
            have hz := (hB1.block _ (Array.getElem?_eq_some_iff.1 GZ.out).1).trans GZ.out
            have hbz : Boxed _ (w.heap.size + 1 + 1 + 1) 4 (.bool false) := (hB1.block _ GF.out.lt).trans GF.out
            have d0 := blk_cell hz (j := 0) (v := .int .u64 0) rfl
            have d1 := blk_cell hz (j := 1) (v := .int .u64 0) rfl
            have d2 := blk_cell hz (j := 2) (v := .int .u64 0) rfl
            have d3 := blk_cell hz (j := 3) (v := .int .u64 0) rfl
            have e0 := blk_free hz 0
            have e1 := blk_free hz 1
            have e2 := blk_free hz 2
            have e3 := blk_free hz 3
            have kb := hbz.cell
            have fb := hbz.frozen
            have F := set5_facts (.int .u64 (x.1.toNat : Int)) (.int .u64 (x.2.toNat : Int)) (.int .u64 (y.1.toNat : Int)) (.int .u64 (y.2.toNat : Int)) (.bool true) hz hbz (by omega)
            have HF := hid F
            clear hz hbz F
            gi_wp2
            have s4 := S4.out
            have s5 := S5.out
            obtain ⟨g1, g2, g3, g4, g5⟩ := HF.out
            refine ⟨(GK.out.trans (Kept.of_below hB1)).trans ⟨Nat.le_of_eq g3.symm, fun q o hq hq' => g4 q o hq ?_ ?_⟩, ⟨⟨x, y, g1, g2, hid ⟨rfl, NH.out⟩⟩, g5 _ _ (GW.out.trans (hB1.mono GW.out.size)) (by omega) (by omega)⟩⟩
            · rintro rfl
              rcases hq' with (h | h) | h
              · exact PG2 h
              · omega
              · omega
            · rintro rfl
              rcases hq' with (h | h) | h
              · exact PG3 h
              · omega
              · omega
          · have nh : hits (x, y) = false := by simp [hits, hjn]
            have t3 := bv_ne hjn
            have NH := hid (FS.out.2 nh)
            clear hxy nh FS hjn
            refine round_region (S := fun W' => (W'.cell? ⟨V.heap.size, 0, none⟩ = some (.int .u64 (x.1.toNat : Int)) ∧ W'.cell? ⟨V.heap.size, 1, none⟩ = some (.int .u64 (x.2.toNat : Int)) ∧ W'.cell? ⟨W₂.heap.size, 0, none⟩ = some (.int .u64 (y.1.toNat : Int)) ∧ W'.cell? ⟨W₂.heap.size, 1, none⟩ = some (.int .u64 (y.2.toNat : Int)) ∧ Below WX.heap.size WX W')) (by kernel_rfl) (by rfl) ?_ (fun hHeld => ?_)
            · exact ⟨a0, a1, b0, b1, hsd⟩
            refine wpAnyH_take (i := 0) (oi := ({ dst := some 50, op := Op.load 36 (Operand.tmp 12), type := 36, pos := "merkle.go:49", after := #[], guard := none } : Oper)) (v := ?_) rfl (by kernel_rfl) (by kernel_rfl) (by kernel_rfl) (fun _ _ _ h => h) (Or.inl ⟨by rfl, ?_⟩) (by assumption) ?_
            rotate_left
            · intro w hSw; (try dsimp only at hSw); go_simp <;> with_reducible rfl
            (try simp only [Act.put, List.setIfInBounds_toArray, List.set_cons_zero, List.set_cons_succ])
            refine wpAnyH_take (i := 1) (oi := ({ dst := some 51, op := Op.load 36 (Operand.tmp 13), type := 36, pos := "merkle.go:49", after := #[], guard := none } : Oper)) (v := ?_) rfl (by kernel_rfl) (by kernel_rfl) (by kernel_rfl) (fun _ _ _ h => h) (Or.inl ⟨by rfl, ?_⟩) (by assumption) ?_
            rotate_left
            · intro w hSw; (try dsimp only at hSw); go_simp <;> with_reducible rfl
            (try simp only [Act.put, List.setIfInBounds_toArray, List.set_cons_zero, List.set_cons_succ])
            refine wpAnyH_take (i := 2) (oi := ({ dst := some 52, op := Op.binOp BinOp.neq 36 (Operand.tmp 50) (Operand.tmp 51) 36, type := 4, pos := "merkle.go:49", after := #[{ on := 0, ground := Ground.data }, { on := 1, ground := Ground.data }], guard := none } : Oper)) (v := ?_) rfl (by kernel_rfl) (by kernel_rfl) (by kernel_rfl) (fun _ _ _ h => h) (Or.inl ⟨by rfl, ?_⟩) (by assumption) ?_
            rotate_left
            · intro w hSw; (try dsimp only at hSw); go_simp <;> with_reducible rfl
            (try simp only [Act.put, List.setIfInBounds_toArray, List.set_cons_zero, List.set_cons_succ])
            refine wpAnyH_take (i := 3) (oi := ({ dst := some 53, op := Op.move (Operand.tmp 52), type := 4, pos := "merkle.go:49", after := #[{ on := 2, ground := Ground.data }], guard := none } : Oper)) (v := ?_) rfl (by kernel_rfl) (by kernel_rfl) (by kernel_rfl) (fun _ _ _ h => h) (Or.inl ⟨by rfl, ?_⟩) (by assumption) ?_
            rotate_left
            · intro w hSw; (try dsimp only at hSw); go_simp <;> with_reducible rfl
            (try simp only [Act.put, List.setIfInBounds_toArray, List.set_cons_zero, List.set_cons_succ])
            refine wpAnyH_take (i := 4) (oi := ({ dst := some 54, op := Op.load 36 (Operand.tmp 12), type := 36, pos := "merkle.go:49", after := #[{ on := 3, ground := Ground.guard }], guard := some (3, true) } : Oper)) (v := ?_) rfl (by kernel_rfl) (by kernel_rfl) (by kernel_rfl) (fun _ _ _ h => h) (Or.inl ⟨by rfl, ?_⟩) (by assumption) ?_
            rotate_left
            · intro w hSw; (try dsimp only at hSw); go_simp <;> with_reducible rfl
            (try simp only [Act.put, List.setIfInBounds_toArray, List.set_cons_zero, List.set_cons_succ])
            refine wpAnyH_take (i := 6) (oi := ({ dst := some 56, op := Op.load 36 (Operand.tmp 13), type := 36, pos := "merkle.go:49", after := #[{ on := 3, ground := Ground.guard }], guard := some (3, true) } : Oper)) (v := ?_) rfl (by kernel_rfl) (by kernel_rfl) (by kernel_rfl) (fun _ _ _ h => h) (Or.inl ⟨by rfl, ?_⟩) (by assumption) ?_
            rotate_left
            · intro w hSw; (try dsimp only at hSw); go_simp <;> with_reducible rfl
            (try simp only [Act.put, List.setIfInBounds_toArray, List.set_cons_zero, List.set_cons_succ])
            refine wpAnyH_ready (rs := [5]) (by kernel_rfl) (by simp) ?_
            refine AllReadyH.cons (o := ({ dst := some 55, op := Op.call { callee := Callee.value (Operand.func 28), args := #[Operand.tmp 54], argTypes := #[36] }, type := 23, pos := "merkle.go:49", after := #[{ on := 4, ground := Ground.data }, { on := 3, ground := Ground.chain }, { on := 3, ground := Ground.guard }], guard := some (3, true) } : Oper)) rfl (fun K hK => ?_) ?_
            rotate_left
            · exact AllReadyH.nil
            go_simp
            go_at_call 28
            with_reducible refine (pjoin_any x _).mono ?_
            rintro e y0 ⟨rfl, hq0⟩
            have hB0 := below_step hsd hq0
            clear hHeld
            first | (with_reducible refine hK.out _ _ ?_ (fun hHeld => ?_)) | (go_wp2_with fail; with_reducible refine hK.out _ _ ?_ (fun hHeld => ?_))
            · exact ⟨cell_below hB0 a0, cell_below hB0 a1, cell_below hB0 b0, cell_below hB0 b1, hB0⟩
            clear hK K
            (try simp only [Act.put, List.setIfInBounds_toArray, List.set_cons_zero, List.set_cons_succ])
            refine wpAnyH_ready (rs := [7]) (by kernel_rfl) (by simp) ?_
            refine AllReadyH.cons (o := ({ dst := some 57, op := Op.call { callee := Callee.value (Operand.func 28), args := #[Operand.tmp 56], argTypes := #[36] }, type := 23, pos := "merkle.go:49", after := #[{ on := 6, ground := Ground.data }, { on := 5, ground := Ground.chain }, { on := 3, ground := Ground.guard }], guard := some (3, true) } : Oper)) rfl (fun K hK => ?_) ?_
            rotate_left
            · exact AllReadyH.nil
            go_simp
            go_at_call 28
            with_reducible refine (pjoin_any y _).mono ?_
            rintro e y1 ⟨rfl, hq1⟩
            have hB1 := below_step hB0 hq1
            clear hHeld
            first | (with_reducible refine hK.out _ _ ?_ (fun hHeld => ?_)) | (go_wp2_with fail; with_reducible refine hK.out _ _ ?_ (fun hHeld => ?_))
            · exact ⟨cell_below hB1 a0, cell_below hB1 a1, cell_below hB1 b0, cell_below hB1 b1, hB1⟩
            clear hK K
            (try simp only [Act.put, List.setIfInBounds_toArray, List.set_cons_zero, List.set_cons_succ])
            refine wpAnyH_take (i := 8) (oi := ({ dst := some 58, op := Op.binOp BinOp.eql 23 (Operand.tmp 55) (Operand.tmp 57) 23, type := 4, pos := "merkle.go:49", after := #[{ on := 5, ground := Ground.data }, { on := 7, ground := Ground.data }, { on := 3, ground := Ground.guard }], guard := some (3, true) } : Oper)) (v := ?_) rfl (by kernel_rfl) (by kernel_rfl) (by kernel_rfl) (fun _ _ _ h => h) (Or.inl ⟨by rfl, ?_⟩) (by assumption) ?_
            rotate_left
            · intro w hSw; (try dsimp only at hSw); go_simp <;> with_reducible rfl
            (try simp only [Act.put, List.setIfInBounds_toArray, List.set_cons_zero, List.set_cons_succ])
            refine wpAnyH_take (i := 9) (oi := ({ dst := some 59, op := Op.pick (Operand.tmp 53) (Operand.tmp 58) (Operand.const (Value.bool false)), type := 4, pos := "merkle.go:49", after := #[{ on := 3, ground := Ground.data }, { on := 8, ground := Ground.data }], guard := none } : Oper)) (v := ?_) rfl (by kernel_rfl) (by kernel_rfl) (by kernel_rfl) (fun _ _ _ h => h) (Or.inl ⟨by rfl, ?_⟩) (by assumption) ?_
            rotate_left
            · intro w hSw; (try dsimp only at hSw); go_simp <;> with_reducible rfl
            (try simp only [Act.put, List.setIfInBounds_toArray, List.set_cons_zero, List.set_cons_succ])
            refine wpAnyH_done (by kernel_rfl) ?_ _
            refine onlyN_mk ?_
            clear hHeld
            gi_wp2
            have s4 := S4.out
            have s5 := S5.out
            have hl1 : (pre ++ [x]).length = j + 1 := by rw [List.length_append, HJE.out]; rfl
            refine ⟨GK.out.trans (Kept.of_below hB1), ⟨⟨⟨⟨2 * j, fun h => by rw [hl1] at h ⊢; omega, ?_⟩, (hB1.block _ (Array.getElem?_eq_some_iff.1 GR5.out).1).trans GR5.out⟩, ⟨(hB1.block _ (Array.getElem?_eq_some_iff.1 GZ.out).1).trans GZ.out, (hB1.block _ GF.out.lt).trans GF.out⟩⟩, GW.out.trans (hB1.mono GW.out.size)⟩, hid (by rw [hl1]; exact NH.out)⟩
            have hN : Boxed _ W3.heap.size 52 (.slice (some ⟨g, 2 * j, none⟩) (k + 1 + 1 - j - 1) 0) := (hB1.block _ GN.out.lt).trans GN.out
            rw [hl1, show k + 1 + 1 - (j + 1) = k + 1 + 1 - j - 1 by omega, show cap - (j + 1) = 0 by omega]
            exact hN
        · have t1 := bv_ne h11
          clear h11
          by_cases hjn : joinP x = joinP y
          · have nh : hits (x, y) = true := by simp [hits, hxy, hjn]
            have t3 : (((joinP x).toNat : Int) == ((joinP y).toNat : Int)) = true := by rw [hjn]; simp
            have NH := hid (FS.out.1 nh)
            clear hxy nh FS hjn
            refine round_region (S := fun W' => (W'.cell? ⟨V.heap.size, 0, none⟩ = some (.int .u64 (x.1.toNat : Int)) ∧ W'.cell? ⟨V.heap.size, 1, none⟩ = some (.int .u64 (x.2.toNat : Int)) ∧ W'.cell? ⟨W₂.heap.size, 0, none⟩ = some (.int .u64 (y.1.toNat : Int)) ∧ W'.cell? ⟨W₂.heap.size, 1, none⟩ = some (.int .u64 (y.2.toNat : Int)) ∧ Below WX.heap.size WX W')) (by kernel_rfl) (by rfl) ?_ (fun hHeld => ?_)
            · exact ⟨a0, a1, b0, b1, hsd⟩
            refine wpAnyH_take (i := 0) (oi := ({ dst := some 50, op := Op.load 36 (Operand.tmp 12), type := 36, pos := "merkle.go:49", after := #[], guard := none } : Oper)) (v := ?_) rfl (by kernel_rfl) (by kernel_rfl) (by kernel_rfl) (fun _ _ _ h => h) (Or.inl ⟨by rfl, ?_⟩) (by assumption) ?_
            rotate_left
            · intro w hSw; (try dsimp only at hSw); go_simp <;> with_reducible rfl
            (try simp only [Act.put, List.setIfInBounds_toArray, List.set_cons_zero, List.set_cons_succ])
            refine wpAnyH_take (i := 1) (oi := ({ dst := some 51, op := Op.load 36 (Operand.tmp 13), type := 36, pos := "merkle.go:49", after := #[], guard := none } : Oper)) (v := ?_) rfl (by kernel_rfl) (by kernel_rfl) (by kernel_rfl) (fun _ _ _ h => h) (Or.inl ⟨by rfl, ?_⟩) (by assumption) ?_
            rotate_left
            · intro w hSw; (try dsimp only at hSw); go_simp <;> with_reducible rfl
            (try simp only [Act.put, List.setIfInBounds_toArray, List.set_cons_zero, List.set_cons_succ])
            refine wpAnyH_take (i := 2) (oi := ({ dst := some 52, op := Op.binOp BinOp.neq 36 (Operand.tmp 50) (Operand.tmp 51) 36, type := 4, pos := "merkle.go:49", after := #[{ on := 0, ground := Ground.data }, { on := 1, ground := Ground.data }], guard := none } : Oper)) (v := ?_) rfl (by kernel_rfl) (by kernel_rfl) (by kernel_rfl) (fun _ _ _ h => h) (Or.inl ⟨by rfl, ?_⟩) (by assumption) ?_
            rotate_left
            · intro w hSw; (try dsimp only at hSw); go_simp <;> with_reducible rfl
            (try simp only [Act.put, List.setIfInBounds_toArray, List.set_cons_zero, List.set_cons_succ])
            refine wpAnyH_take (i := 3) (oi := ({ dst := some 53, op := Op.move (Operand.tmp 52), type := 4, pos := "merkle.go:49", after := #[{ on := 2, ground := Ground.data }], guard := none } : Oper)) (v := ?_) rfl (by kernel_rfl) (by kernel_rfl) (by kernel_rfl) (fun _ _ _ h => h) (Or.inl ⟨by rfl, ?_⟩) (by assumption) ?_
            rotate_left
            · intro w hSw; (try dsimp only at hSw); go_simp <;> with_reducible rfl
            (try simp only [Act.put, List.setIfInBounds_toArray, List.set_cons_zero, List.set_cons_succ])
            refine wpAnyH_take (i := 4) (oi := ({ dst := some 54, op := Op.load 36 (Operand.tmp 12), type := 36, pos := "merkle.go:49", after := #[{ on := 3, ground := Ground.guard }], guard := some (3, true) } : Oper)) (v := ?_) rfl (by kernel_rfl) (by kernel_rfl) (by kernel_rfl) (fun _ _ _ h => h) (Or.inl ⟨by rfl, ?_⟩) (by assumption) ?_
            rotate_left
            · intro w hSw; (try dsimp only at hSw); go_simp <;> with_reducible rfl
            (try simp only [Act.put, List.setIfInBounds_toArray, List.set_cons_zero, List.set_cons_succ])
            refine wpAnyH_take (i := 6) (oi := ({ dst := some 56, op := Op.load 36 (Operand.tmp 13), type := 36, pos := "merkle.go:49", after := #[{ on := 3, ground := Ground.guard }], guard := some (3, true) } : Oper)) (v := ?_) rfl (by kernel_rfl) (by kernel_rfl) (by kernel_rfl) (fun _ _ _ h => h) (Or.inl ⟨by rfl, ?_⟩) (by assumption) ?_
            rotate_left
            · intro w hSw; (try dsimp only at hSw); go_simp <;> with_reducible rfl
            (try simp only [Act.put, List.setIfInBounds_toArray, List.set_cons_zero, List.set_cons_succ])
            refine wpAnyH_ready (rs := [5]) (by kernel_rfl) (by simp) ?_
            refine AllReadyH.cons (o := ({ dst := some 55, op := Op.call { callee := Callee.value (Operand.func 28), args := #[Operand.tmp 54], argTypes := #[36] }, type := 23, pos := "merkle.go:49", after := #[{ on := 4, ground := Ground.data }, { on := 3, ground := Ground.chain }, { on := 3, ground := Ground.guard }], guard := some (3, true) } : Oper)) rfl (fun K hK => ?_) ?_
            rotate_left
            · exact AllReadyH.nil
            go_simp
            go_at_call 28
            with_reducible refine (pjoin_any x _).mono ?_
            rintro e y0 ⟨rfl, hq0⟩
            have hB0 := below_step hsd hq0
            clear hHeld
            first | (with_reducible refine hK.out _ _ ?_ (fun hHeld => ?_)) | (go_wp2_with fail; with_reducible refine hK.out _ _ ?_ (fun hHeld => ?_))
            · exact ⟨cell_below hB0 a0, cell_below hB0 a1, cell_below hB0 b0, cell_below hB0 b1, hB0⟩
            clear hK K
            (try simp only [Act.put, List.setIfInBounds_toArray, List.set_cons_zero, List.set_cons_succ])
            refine wpAnyH_ready (rs := [7]) (by kernel_rfl) (by simp) ?_
            refine AllReadyH.cons (o := ({ dst := some 57, op := Op.call { callee := Callee.value (Operand.func 28), args := #[Operand.tmp 56], argTypes := #[36] }, type := 23, pos := "merkle.go:49", after := #[{ on := 6, ground := Ground.data }, { on := 5, ground := Ground.chain }, { on := 3, ground := Ground.guard }], guard := some (3, true) } : Oper)) rfl (fun K hK => ?_) ?_
            rotate_left
            · exact AllReadyH.nil
            go_simp
            go_at_call 28
            with_reducible refine (pjoin_any y _).mono ?_
            rintro e y1 ⟨rfl, hq1⟩
            have hB1 := below_step hB0 hq1
            clear hHeld
            first | (with_reducible refine hK.out _ _ ?_ (fun hHeld => ?_)) | (go_wp2_with fail; with_reducible refine hK.out _ _ ?_ (fun hHeld => ?_))
            · exact ⟨cell_below hB1 a0, cell_below hB1 a1, cell_below hB1 b0, cell_below hB1 b1, hB1⟩
            clear hK K
            (try simp only [Act.put, List.setIfInBounds_toArray, List.set_cons_zero, List.set_cons_succ])
            refine wpAnyH_take (i := 8) (oi := ({ dst := some 58, op := Op.binOp BinOp.eql 23 (Operand.tmp 55) (Operand.tmp 57) 23, type := 4, pos := "merkle.go:49", after := #[{ on := 5, ground := Ground.data }, { on := 7, ground := Ground.data }, { on := 3, ground := Ground.guard }], guard := some (3, true) } : Oper)) (v := ?_) rfl (by kernel_rfl) (by kernel_rfl) (by kernel_rfl) (fun _ _ _ h => h) (Or.inl ⟨by rfl, ?_⟩) (by assumption) ?_
            rotate_left
            · intro w hSw; (try dsimp only at hSw); go_simp <;> with_reducible rfl
            (try simp only [Act.put, List.setIfInBounds_toArray, List.set_cons_zero, List.set_cons_succ])
            refine wpAnyH_take (i := 9) (oi := ({ dst := some 59, op := Op.pick (Operand.tmp 53) (Operand.tmp 58) (Operand.const (Value.bool false)), type := 4, pos := "merkle.go:49", after := #[{ on := 3, ground := Ground.data }, { on := 8, ground := Ground.data }], guard := none } : Oper)) (v := ?_) rfl (by kernel_rfl) (by kernel_rfl) (by kernel_rfl) (fun _ _ _ h => h) (Or.inl ⟨by rfl, ?_⟩) (by assumption) ?_
            rotate_left
            · intro w hSw; (try dsimp only at hSw); go_simp <;> with_reducible rfl
            (try simp only [Act.put, List.setIfInBounds_toArray, List.set_cons_zero, List.set_cons_succ])
            refine wpAnyH_done (by kernel_rfl) ?_ _
            refine onlyN_mk ?_
            clear hHeld
            have c0 := cell_below hB1 a0
            have c1 := cell_below hB1 a1
            have c2 := cell_below hB1 b0
            have c3 := cell_below hB1 b1
            have hz := (hB1.block _ (Array.getElem?_eq_some_iff.1 GZ.out).1).trans GZ.out
            have hbz : Boxed _ (w.heap.size + 1 + 1 + 1) 4 (.bool false) := (hB1.block _ GF.out.lt).trans GF.out
            have d0 := blk_cell hz (j := 0) (v := .int .u64 0) rfl
            have d1 := blk_cell hz (j := 1) (v := .int .u64 0) rfl
            have d2 := blk_cell hz (j := 2) (v := .int .u64 0) rfl
            have d3 := blk_cell hz (j := 3) (v := .int .u64 0) rfl
            have e0 := blk_free hz 0
            have e1 := blk_free hz 1
            have e2 := blk_free hz 2
            have e3 := blk_free hz 3
            have kb := hbz.cell
            have fb := hbz.frozen
            have F := set5_facts (.int .u64 (x.1.toNat : Int)) (.int .u64 (x.2.toNat : Int)) (.int .u64 (y.1.toNat : Int)) (.int .u64 (y.2.toNat : Int)) (.bool true) hz hbz (by omega)
            have HF := hid F
            clear hz hbz F
            gi_wp2
            have s4 := S4.out
            have s5 := S5.out
            obtain ⟨g1, g2, g3, g4, g5⟩ := HF.out
            refine ⟨(GK.out.trans (Kept.of_below hB1)).trans ⟨Nat.le_of_eq g3.symm, fun q o hq hq' => g4 q o hq ?_ ?_⟩, ⟨⟨x, y, g1, g2, hid ⟨rfl, NH.out⟩⟩, g5 _ _ (GW.out.trans (hB1.mono GW.out.size)) (by omega) (by omega)⟩⟩
            · rintro rfl
              rcases hq' with (h | h) | h
              · exact PG2 h
              · omega
              · omega
            · rintro rfl
              rcases hq' with (h | h) | h
              · exact PG3 h
              · omega
              · omega
          · have nh : hits (x, y) = false := by simp [hits, hjn]
            have t3 := bv_ne hjn
            have NH := hid (FS.out.2 nh)
            clear hxy nh FS hjn
            refine round_region (S := fun W' => (W'.cell? ⟨V.heap.size, 0, none⟩ = some (.int .u64 (x.1.toNat : Int)) ∧ W'.cell? ⟨V.heap.size, 1, none⟩ = some (.int .u64 (x.2.toNat : Int)) ∧ W'.cell? ⟨W₂.heap.size, 0, none⟩ = some (.int .u64 (y.1.toNat : Int)) ∧ W'.cell? ⟨W₂.heap.size, 1, none⟩ = some (.int .u64 (y.2.toNat : Int)) ∧ Below WX.heap.size WX W')) (by kernel_rfl) (by rfl) ?_ (fun hHeld => ?_)
            · exact ⟨a0, a1, b0, b1, hsd⟩
            refine wpAnyH_take (i := 0) (oi := ({ dst := some 50, op := Op.load 36 (Operand.tmp 12), type := 36, pos := "merkle.go:49", after := #[], guard := none } : Oper)) (v := ?_) rfl (by kernel_rfl) (by kernel_rfl) (by kernel_rfl) (fun _ _ _ h => h) (Or.inl ⟨by rfl, ?_⟩) (by assumption) ?_
            rotate_left
            · intro w hSw; (try dsimp only at hSw); go_simp <;> with_reducible rfl
            (try simp only [Act.put, List.setIfInBounds_toArray, List.set_cons_zero, List.set_cons_succ])
            refine wpAnyH_take (i := 1) (oi := ({ dst := some 51, op := Op.load 36 (Operand.tmp 13), type := 36, pos := "merkle.go:49", after := #[], guard := none } : Oper)) (v := ?_) rfl (by kernel_rfl) (by kernel_rfl) (by kernel_rfl) (fun _ _ _ h => h) (Or.inl ⟨by rfl, ?_⟩) (by assumption) ?_
            rotate_left
            · intro w hSw; (try dsimp only at hSw); go_simp <;> with_reducible rfl
            (try simp only [Act.put, List.setIfInBounds_toArray, List.set_cons_zero, List.set_cons_succ])
            refine wpAnyH_take (i := 2) (oi := ({ dst := some 52, op := Op.binOp BinOp.neq 36 (Operand.tmp 50) (Operand.tmp 51) 36, type := 4, pos := "merkle.go:49", after := #[{ on := 0, ground := Ground.data }, { on := 1, ground := Ground.data }], guard := none } : Oper)) (v := ?_) rfl (by kernel_rfl) (by kernel_rfl) (by kernel_rfl) (fun _ _ _ h => h) (Or.inl ⟨by rfl, ?_⟩) (by assumption) ?_
            rotate_left
            · intro w hSw; (try dsimp only at hSw); go_simp <;> with_reducible rfl
            (try simp only [Act.put, List.setIfInBounds_toArray, List.set_cons_zero, List.set_cons_succ])
            refine wpAnyH_take (i := 3) (oi := ({ dst := some 53, op := Op.move (Operand.tmp 52), type := 4, pos := "merkle.go:49", after := #[{ on := 2, ground := Ground.data }], guard := none } : Oper)) (v := ?_) rfl (by kernel_rfl) (by kernel_rfl) (by kernel_rfl) (fun _ _ _ h => h) (Or.inl ⟨by rfl, ?_⟩) (by assumption) ?_
            rotate_left
            · intro w hSw; (try dsimp only at hSw); go_simp <;> with_reducible rfl
            (try simp only [Act.put, List.setIfInBounds_toArray, List.set_cons_zero, List.set_cons_succ])
            refine wpAnyH_take (i := 4) (oi := ({ dst := some 54, op := Op.load 36 (Operand.tmp 12), type := 36, pos := "merkle.go:49", after := #[{ on := 3, ground := Ground.guard }], guard := some (3, true) } : Oper)) (v := ?_) rfl (by kernel_rfl) (by kernel_rfl) (by kernel_rfl) (fun _ _ _ h => h) (Or.inl ⟨by rfl, ?_⟩) (by assumption) ?_
            rotate_left
            · intro w hSw; (try dsimp only at hSw); go_simp <;> with_reducible rfl
            (try simp only [Act.put, List.setIfInBounds_toArray, List.set_cons_zero, List.set_cons_succ])
            refine wpAnyH_take (i := 6) (oi := ({ dst := some 56, op := Op.load 36 (Operand.tmp 13), type := 36, pos := "merkle.go:49", after := #[{ on := 3, ground := Ground.guard }], guard := some (3, true) } : Oper)) (v := ?_) rfl (by kernel_rfl) (by kernel_rfl) (by kernel_rfl) (fun _ _ _ h => h) (Or.inl ⟨by rfl, ?_⟩) (by assumption) ?_
            rotate_left
            · intro w hSw; (try dsimp only at hSw); go_simp <;> with_reducible rfl
            (try simp only [Act.put, List.setIfInBounds_toArray, List.set_cons_zero, List.set_cons_succ])
            refine wpAnyH_ready (rs := [5]) (by kernel_rfl) (by simp) ?_
            refine AllReadyH.cons (o := ({ dst := some 55, op := Op.call { callee := Callee.value (Operand.func 28), args := #[Operand.tmp 54], argTypes := #[36] }, type := 23, pos := "merkle.go:49", after := #[{ on := 4, ground := Ground.data }, { on := 3, ground := Ground.chain }, { on := 3, ground := Ground.guard }], guard := some (3, true) } : Oper)) rfl (fun K hK => ?_) ?_
            rotate_left
            · exact AllReadyH.nil
            go_simp
            go_at_call 28
            with_reducible refine (pjoin_any x _).mono ?_
            rintro e y0 ⟨rfl, hq0⟩
            have hB0 := below_step hsd hq0
            clear hHeld
            first | (with_reducible refine hK.out _ _ ?_ (fun hHeld => ?_)) | (go_wp2_with fail; with_reducible refine hK.out _ _ ?_ (fun hHeld => ?_))
            · exact ⟨cell_below hB0 a0, cell_below hB0 a1, cell_below hB0 b0, cell_below hB0 b1, hB0⟩
            clear hK K
            (try simp only [Act.put, List.setIfInBounds_toArray, List.set_cons_zero, List.set_cons_succ])
            refine wpAnyH_ready (rs := [7]) (by kernel_rfl) (by simp) ?_
            refine AllReadyH.cons (o := ({ dst := some 57, op := Op.call { callee := Callee.value (Operand.func 28), args := #[Operand.tmp 56], argTypes := #[36] }, type := 23, pos := "merkle.go:49", after := #[{ on := 6, ground := Ground.data }, { on := 5, ground := Ground.chain }, { on := 3, ground := Ground.guard }], guard := some (3, true) } : Oper)) rfl (fun K hK => ?_) ?_
            rotate_left
            · exact AllReadyH.nil
            go_simp
            go_at_call 28
            with_reducible refine (pjoin_any y _).mono ?_
            rintro e y1 ⟨rfl, hq1⟩
            have hB1 := below_step hB0 hq1
            clear hHeld
            first | (with_reducible refine hK.out _ _ ?_ (fun hHeld => ?_)) | (go_wp2_with fail; with_reducible refine hK.out _ _ ?_ (fun hHeld => ?_))
            · exact ⟨cell_below hB1 a0, cell_below hB1 a1, cell_below hB1 b0, cell_below hB1 b1, hB1⟩
            clear hK K
            (try simp only [Act.put, List.setIfInBounds_toArray, List.set_cons_zero, List.set_cons_succ])
            refine wpAnyH_take (i := 8) (oi := ({ dst := some 58, op := Op.binOp BinOp.eql 23 (Operand.tmp 55) (Operand.tmp 57) 23, type := 4, pos := "merkle.go:49", after := #[{ on := 5, ground := Ground.data }, { on := 7, ground := Ground.data }, { on := 3, ground := Ground.guard }], guard := some (3, true) } : Oper)) (v := ?_) rfl (by kernel_rfl) (by kernel_rfl) (by kernel_rfl) (fun _ _ _ h => h) (Or.inl ⟨by rfl, ?_⟩) (by assumption) ?_
            rotate_left
            · intro w hSw; (try dsimp only at hSw); go_simp <;> with_reducible rfl
            (try simp only [Act.put, List.setIfInBounds_toArray, List.set_cons_zero, List.set_cons_succ])
            refine wpAnyH_take (i := 9) (oi := ({ dst := some 59, op := Op.pick (Operand.tmp 53) (Operand.tmp 58) (Operand.const (Value.bool false)), type := 4, pos := "merkle.go:49", after := #[{ on := 3, ground := Ground.data }, { on := 8, ground := Ground.data }], guard := none } : Oper)) (v := ?_) rfl (by kernel_rfl) (by kernel_rfl) (by kernel_rfl) (fun _ _ _ h => h) (Or.inl ⟨by rfl, ?_⟩) (by assumption) ?_
            rotate_left
            · intro w hSw; (try dsimp only at hSw); go_simp <;> with_reducible rfl
            (try simp only [Act.put, List.setIfInBounds_toArray, List.set_cons_zero, List.set_cons_succ])
            refine wpAnyH_done (by kernel_rfl) ?_ _
            refine onlyN_mk ?_
            clear hHeld
            gi_wp2
            have s4 := S4.out
            have s5 := S5.out
            have hl1 : (pre ++ [x]).length = j + 1 := by rw [List.length_append, HJE.out]; rfl
            refine ⟨GK.out.trans (Kept.of_below hB1), ⟨⟨⟨⟨2 * j, fun h => by rw [hl1] at h ⊢; omega, ?_⟩, (hB1.block _ (Array.getElem?_eq_some_iff.1 GR5.out).1).trans GR5.out⟩, ⟨(hB1.block _ (Array.getElem?_eq_some_iff.1 GZ.out).1).trans GZ.out, (hB1.block _ GF.out.lt).trans GF.out⟩⟩, GW.out.trans (hB1.mono GW.out.size)⟩, hid (by rw [hl1]; exact NH.out)⟩
            have hN : Boxed _ W3.heap.size 52 (.slice (some ⟨g, 2 * j, none⟩) (k + 1 + 1 - j - 1) 0) := (hB1.block _ GN.out.lt).trans GN.out
            rw [hl1, show k + 1 + 1 - (j + 1) = k + 1 + 1 - j - 1 by omega, show cap - (j + 1) = 0 by omega]
            exact hN
    · skip
      have FY := FX.out (.slice (some ⟨g, 2 * j + 2, none⟩) (k + 1 + 1 - j - 1) (cap - j - 1))
      clear FX
      obtain ⟨WX, hWX⟩ : ∃ WX, (W₂.alloc (.cells #[.int .u64 (y.1.toNat : Int), .int .u64 (y.2.toNat : Int)] 36)).setCell ⟨W3.heap.size, 0, none⟩ (.slice (some ⟨g, 2 * j + 2, none⟩) (k + 1 + 1 - j - 1) (cap - j - 1)) = WX := ⟨_, rfl⟩
      rw [hWX] at FY ⊢
      clear hWX
      obtain ⟨gA, gB, gN, gR, gZ, gF, gW, gK⟩ := FY
      have GN := hid gN
      have GR5 := hid gR
      have GZ := hid gZ
      have GF := hid gF
      have GW := hid gW
      have GK := hid gK
      have a0 := blk_cell gA (j := 0) (v := .int .u64 (x.1.toNat : Int)) rfl
      have a1 := blk_cell gA (j := 1) (v := .int .u64 (x.2.toNat : Int)) rfl
      have b0 := blk_cell gB (j := 0) (v := .int .u64 (y.1.toNat : Int)) rfl
      have b1 := blk_cell gB (j := 1) (v := .int .u64 (y.2.toNat : Int)) rfl
      clear gA gB gN gR gZ gF gW gK k0 f0 k1 q0 q1 r0 r1
      have hsd := (Below.refl WX.heap.size WX).drew
      by_cases hxy : x = y
      · have nh : hits (x, y) = false := by subst hxy; simp [hits]
        have t1 : ((x.1.toNat : Int) == (y.1.toNat : Int)) = true := by rw [hxy]; simp
        have t2 : ((x.2.toNat : Int) == (y.2.toNat : Int)) = true := by rw [hxy]; simp
        have NH := hid (FS.out.2 nh)
        clear hxy nh FS
        refine round_region (S := fun W' => (W'.cell? ⟨V.heap.size, 0, none⟩ = some (.int .u64 (x.1.toNat : Int)) ∧ W'.cell? ⟨V.heap.size, 1, none⟩ = some (.int .u64 (x.2.toNat : Int)) ∧ W'.cell? ⟨W₂.heap.size, 0, none⟩ = some (.int .u64 (y.1.toNat : Int)) ∧ W'.cell? ⟨W₂.heap.size, 1, none⟩ = some (.int .u64 (y.2.toNat : Int)) ∧ Below WX.heap.size WX W')) (by kernel_rfl) (by rfl) ?_ (fun hHeld => ?_)
        · exact ⟨a0, a1, b0, b1, hsd⟩
        refine wpAnyH_take (i := 0) (oi := ({ dst := some 50, op := Op.load 36 (Operand.tmp 12), type := 36, pos := "merkle.go:49", after := #[], guard := none } : Oper)) (v := ?_) rfl (by kernel_rfl) (by kernel_rfl) (by kernel_rfl) (fun _ _ _ h => h) (Or.inl ⟨by rfl, ?_⟩) (by assumption) ?_
        rotate_left
        · intro w hSw; (try dsimp only at hSw); go_simp <;> with_reducible rfl
        (try simp only [Act.put, List.setIfInBounds_toArray, List.set_cons_zero, List.set_cons_succ])
        refine wpAnyH_take (i := 1) (oi := ({ dst := some 51, op := Op.load 36 (Operand.tmp 13), type := 36, pos := "merkle.go:49", after := #[], guard := none } : Oper)) (v := ?_) rfl (by kernel_rfl) (by kernel_rfl) (by kernel_rfl) (fun _ _ _ h => h) (Or.inl ⟨by rfl, ?_⟩) (by assumption) ?_
        rotate_left
        · intro w hSw; (try dsimp only at hSw); go_simp <;> with_reducible rfl
        (try simp only [Act.put, List.setIfInBounds_toArray, List.set_cons_zero, List.set_cons_succ])
        refine wpAnyH_take (i := 2) (oi := ({ dst := some 52, op := Op.binOp BinOp.neq 36 (Operand.tmp 50) (Operand.tmp 51) 36, type := 4, pos := "merkle.go:49", after := #[{ on := 0, ground := Ground.data }, { on := 1, ground := Ground.data }], guard := none } : Oper)) (v := ?_) rfl (by kernel_rfl) (by kernel_rfl) (by kernel_rfl) (fun _ _ _ h => h) (Or.inl ⟨by rfl, ?_⟩) (by assumption) ?_
        rotate_left
        · intro w hSw; (try dsimp only at hSw); go_simp <;> with_reducible rfl
        (try simp only [Act.put, List.setIfInBounds_toArray, List.set_cons_zero, List.set_cons_succ])
        refine wpAnyH_take (i := 3) (oi := ({ dst := some 53, op := Op.move (Operand.tmp 52), type := 4, pos := "merkle.go:49", after := #[{ on := 2, ground := Ground.data }], guard := none } : Oper)) (v := ?_) rfl (by kernel_rfl) (by kernel_rfl) (by kernel_rfl) (fun _ _ _ h => h) (Or.inl ⟨by rfl, ?_⟩) (by assumption) ?_
        rotate_left
        · intro w hSw; (try dsimp only at hSw); go_simp <;> with_reducible rfl
        (try simp only [Act.put, List.setIfInBounds_toArray, List.set_cons_zero, List.set_cons_succ])
        refine wpAnyH_take (i := 4) (oi := ({ dst := some 54, op := Op.load 36 (Operand.tmp 12), type := 36, pos := "merkle.go:49", after := #[{ on := 3, ground := Ground.guard }], guard := some (3, true) } : Oper)) (v := undef) rfl (by kernel_rfl) (by kernel_rfl) (by kernel_rfl) (fun _ _ _ h => h) (Or.inr ⟨by rfl, rfl⟩) (by assumption) ?_
        (try simp only [Act.put, List.setIfInBounds_toArray, List.set_cons_zero, List.set_cons_succ])
        refine wpAnyH_take (i := 5) (oi := ({ dst := some 55, op := Op.call { callee := Callee.value (Operand.func 28), args := #[Operand.tmp 54], argTypes := #[36] }, type := 23, pos := "merkle.go:49", after := #[{ on := 4, ground := Ground.data }, { on := 3, ground := Ground.chain }, { on := 3, ground := Ground.guard }], guard := some (3, true) } : Oper)) (v := undef) rfl (by kernel_rfl) (by kernel_rfl) (by kernel_rfl) (fun _ _ _ h => h) (Or.inr ⟨by rfl, rfl⟩) (by assumption) ?_
        (try simp only [Act.put, List.setIfInBounds_toArray, List.set_cons_zero, List.set_cons_succ])
        refine wpAnyH_take (i := 6) (oi := ({ dst := some 56, op := Op.load 36 (Operand.tmp 13), type := 36, pos := "merkle.go:49", after := #[{ on := 3, ground := Ground.guard }], guard := some (3, true) } : Oper)) (v := undef) rfl (by kernel_rfl) (by kernel_rfl) (by kernel_rfl) (fun _ _ _ h => h) (Or.inr ⟨by rfl, rfl⟩) (by assumption) ?_
        (try simp only [Act.put, List.setIfInBounds_toArray, List.set_cons_zero, List.set_cons_succ])
        refine wpAnyH_take (i := 7) (oi := ({ dst := some 57, op := Op.call { callee := Callee.value (Operand.func 28), args := #[Operand.tmp 56], argTypes := #[36] }, type := 23, pos := "merkle.go:49", after := #[{ on := 6, ground := Ground.data }, { on := 5, ground := Ground.chain }, { on := 3, ground := Ground.guard }], guard := some (3, true) } : Oper)) (v := undef) rfl (by kernel_rfl) (by kernel_rfl) (by kernel_rfl) (fun _ _ _ h => h) (Or.inr ⟨by rfl, rfl⟩) (by assumption) ?_
        (try simp only [Act.put, List.setIfInBounds_toArray, List.set_cons_zero, List.set_cons_succ])
        refine wpAnyH_take (i := 8) (oi := ({ dst := some 58, op := Op.binOp BinOp.eql 23 (Operand.tmp 55) (Operand.tmp 57) 23, type := 4, pos := "merkle.go:49", after := #[{ on := 5, ground := Ground.data }, { on := 7, ground := Ground.data }, { on := 3, ground := Ground.guard }], guard := some (3, true) } : Oper)) (v := undef) rfl (by kernel_rfl) (by kernel_rfl) (by kernel_rfl) (fun _ _ _ h => h) (Or.inr ⟨by rfl, rfl⟩) (by assumption) ?_
        (try simp only [Act.put, List.setIfInBounds_toArray, List.set_cons_zero, List.set_cons_succ])
        refine wpAnyH_take (i := 9) (oi := ({ dst := some 59, op := Op.pick (Operand.tmp 53) (Operand.tmp 58) (Operand.const (Value.bool false)), type := 4, pos := "merkle.go:49", after := #[{ on := 3, ground := Ground.data }, { on := 8, ground := Ground.data }], guard := none } : Oper)) (v := ?_) rfl (by kernel_rfl) (by kernel_rfl) (by kernel_rfl) (fun _ _ _ h => h) (Or.inl ⟨by rfl, ?_⟩) (by assumption) ?_
        rotate_left
        · intro w hSw; (try dsimp only at hSw); go_simp <;> with_reducible rfl
        (try simp only [Act.put, List.setIfInBounds_toArray, List.set_cons_zero, List.set_cons_succ])
        refine wpAnyH_done (by kernel_rfl) ?_ _
        refine onlyN_mk ?_
        clear hHeld
        gi_wp2
        have s4 := S4.out
        have s5 := S5.out
        have hl1 : (pre ++ [x]).length = j + 1 := by rw [List.length_append, HJE.out]; rfl
        refine ⟨GK.out.trans (Kept.of_below hsd), ⟨⟨⟨⟨2 * j + 2, fun h => by rw [hl1] at h ⊢; omega, ?_⟩, (hsd.block _ (Array.getElem?_eq_some_iff.1 GR5.out).1).trans GR5.out⟩, ⟨(hsd.block _ (Array.getElem?_eq_some_iff.1 GZ.out).1).trans GZ.out, (hsd.block _ GF.out.lt).trans GF.out⟩⟩, GW.out.trans (hsd.mono GW.out.size)⟩, hid (by rw [hl1]; exact NH.out)⟩
        have hN : Boxed _ W3.heap.size 52 (.slice (some ⟨g, 2 * j + 2, none⟩) (k + 1 + 1 - j - 1) (cap - j - 1)) := (hsd.block _ GN.out.lt).trans GN.out
        rw [hl1, show k + 1 + 1 - (j + 1) = k + 1 + 1 - j - 1 by omega, show cap - (j + 1) = cap - j - 1 by omega]
        exact hN
      · by_cases h11 : x.1 = y.1
        · have t1 : ((x.1.toNat : Int) == (y.1.toNat : Int)) = true := by rw [h11]; simp
          have t2 := bv_ne (a := x.2) (b := y.2) (fun h => hxy (Prod.ext h11 h))
          clear h11
          by_cases hjn : joinP x = joinP y
          · have nh : hits (x, y) = true := by simp [hits, hxy, hjn]
            have t3 : (((joinP x).toNat : Int) == ((joinP y).toNat : Int)) = true := by rw [hjn]; simp
            have NH := hid (FS.out.1 nh)
            clear hxy nh FS hjn
            refine round_region (S := fun W' => (W'.cell? ⟨V.heap.size, 0, none⟩ = some (.int .u64 (x.1.toNat : Int)) ∧ W'.cell? ⟨V.heap.size, 1, none⟩ = some (.int .u64 (x.2.toNat : Int)) ∧ W'.cell? ⟨W₂.heap.size, 0, none⟩ = some (.int .u64 (y.1.toNat : Int)) ∧ W'.cell? ⟨W₂.heap.size, 1, none⟩ = some (.int .u64 (y.2.toNat : Int)) ∧ Below WX.heap.size WX W')) (by kernel_rfl) (by rfl) ?_ (fun hHeld => ?_)
            · exact ⟨a0, a1, b0, b1, hsd⟩
            refine wpAnyH_take (i := 0) (oi := ({ dst := some 50, op := Op.load 36 (Operand.tmp 12), type := 36, pos := "merkle.go:49", after := #[], guard := none } : Oper)) (v := ?_) rfl (by kernel_rfl) (by kernel_rfl) (by kernel_rfl) (fun _ _ _ h => h) (Or.inl ⟨by rfl, ?_⟩) (by assumption) ?_
            rotate_left
            · intro w hSw; (try dsimp only at hSw); go_simp <;> with_reducible rfl
            (try simp only [Act.put, List.setIfInBounds_toArray, List.set_cons_zero, List.set_cons_succ])
            refine wpAnyH_take (i := 1) (oi := ({ dst := some 51, op := Op.load 36 (Operand.tmp 13), type := 36, pos := "merkle.go:49", after := #[], guard := none } : Oper)) (v := ?_) rfl (by kernel_rfl) (by kernel_rfl) (by kernel_rfl) (fun _ _ _ h => h) (Or.inl ⟨by rfl, ?_⟩) (by assumption) ?_
            rotate_left
            · intro w hSw; (try dsimp only at hSw); go_simp <;> with_reducible rfl
            (try simp only [Act.put, List.setIfInBounds_toArray, List.set_cons_zero, List.set_cons_succ])
            refine wpAnyH_take (i := 2) (oi := ({ dst := some 52, op := Op.binOp BinOp.neq 36 (Operand.tmp 50) (Operand.tmp 51) 36, type := 4, pos := "merkle.go:49", after := #[{ on := 0, ground := Ground.data }, { on := 1, ground := Ground.data }], guard := none } : Oper)) (v := ?_) rfl (by kernel_rfl) (by kernel_rfl) (by kernel_rfl) (fun _ _ _ h => h) (Or.inl ⟨by rfl, ?_⟩) (by assumption) ?_
            rotate_left
            · intro w hSw; (try dsimp only at hSw); go_simp <;> with_reducible rfl
            (try simp only [Act.put, List.setIfInBounds_toArray, List.set_cons_zero, List.set_cons_succ])
            refine wpAnyH_take (i := 3) (oi := ({ dst := some 53, op := Op.move (Operand.tmp 52), type := 4, pos := "merkle.go:49", after := #[{ on := 2, ground := Ground.data }], guard := none } : Oper)) (v := ?_) rfl (by kernel_rfl) (by kernel_rfl) (by kernel_rfl) (fun _ _ _ h => h) (Or.inl ⟨by rfl, ?_⟩) (by assumption) ?_
            rotate_left
            · intro w hSw; (try dsimp only at hSw); go_simp <;> with_reducible rfl
            (try simp only [Act.put, List.setIfInBounds_toArray, List.set_cons_zero, List.set_cons_succ])
            refine wpAnyH_take (i := 4) (oi := ({ dst := some 54, op := Op.load 36 (Operand.tmp 12), type := 36, pos := "merkle.go:49", after := #[{ on := 3, ground := Ground.guard }], guard := some (3, true) } : Oper)) (v := ?_) rfl (by kernel_rfl) (by kernel_rfl) (by kernel_rfl) (fun _ _ _ h => h) (Or.inl ⟨by rfl, ?_⟩) (by assumption) ?_
            rotate_left
            · intro w hSw; (try dsimp only at hSw); go_simp <;> with_reducible rfl
            (try simp only [Act.put, List.setIfInBounds_toArray, List.set_cons_zero, List.set_cons_succ])
            refine wpAnyH_take (i := 6) (oi := ({ dst := some 56, op := Op.load 36 (Operand.tmp 13), type := 36, pos := "merkle.go:49", after := #[{ on := 3, ground := Ground.guard }], guard := some (3, true) } : Oper)) (v := ?_) rfl (by kernel_rfl) (by kernel_rfl) (by kernel_rfl) (fun _ _ _ h => h) (Or.inl ⟨by rfl, ?_⟩) (by assumption) ?_
            rotate_left
            · intro w hSw; (try dsimp only at hSw); go_simp <;> with_reducible rfl
            (try simp only [Act.put, List.setIfInBounds_toArray, List.set_cons_zero, List.set_cons_succ])
            refine wpAnyH_ready (rs := [5]) (by kernel_rfl) (by simp) ?_
            refine AllReadyH.cons (o := ({ dst := some 55, op := Op.call { callee := Callee.value (Operand.func 28), args := #[Operand.tmp 54], argTypes := #[36] }, type := 23, pos := "merkle.go:49", after := #[{ on := 4, ground := Ground.data }, { on := 3, ground := Ground.chain }, { on := 3, ground := Ground.guard }], guard := some (3, true) } : Oper)) rfl (fun K hK => ?_) ?_
            rotate_left
            · exact AllReadyH.nil
            go_simp
            go_at_call 28
            with_reducible refine (pjoin_any x _).mono ?_
            rintro e y0 ⟨rfl, hq0⟩
            have hB0 := below_step hsd hq0
            clear hHeld
            first | (with_reducible refine hK.out _ _ ?_ (fun hHeld => ?_)) | (go_wp2_with fail; with_reducible refine hK.out _ _ ?_ (fun hHeld => ?_))
            · exact ⟨cell_below hB0 a0, cell_below hB0 a1, cell_below hB0 b0, cell_below hB0 b1, hB0⟩
            clear hK K
            (try simp only [Act.put, List.setIfInBounds_toArray, List.set_cons_zero, List.set_cons_succ])
            refine wpAnyH_ready (rs := [7]) (by kernel_rfl) (by simp) ?_
            refine AllReadyH.cons (o := ({ dst := some 57, op := Op.call { callee := Callee.value (Operand.func 28), args := #[Operand.tmp 56], argTypes := #[36] }, type := 23, pos := "merkle.go:49", after := #[{ on := 6, ground := Ground.data }, { on := 5, ground := Ground.chain }, { on := 3, ground := Ground.guard }], guard := some (3, true) } : Oper)) rfl (fun K hK => ?_) ?_
            rotate_left
            · exact AllReadyH.nil
            go_simp
            go_at_call 28
            with_reducible refine (pjoin_any y _).mono ?_
            rintro e y1 ⟨rfl, hq1⟩
            have hB1 := below_step hB0 hq1
            clear hHeld
            first | (with_reducible refine hK.out _ _ ?_ (fun hHeld => ?_)) | (go_wp2_with fail; with_reducible refine hK.out _ _ ?_ (fun hHeld => ?_))
            · exact ⟨cell_below hB1 a0, cell_below hB1 a1, cell_below hB1 b0, cell_below hB1 b1, hB1⟩
            clear hK K
            (try simp only [Act.put, List.setIfInBounds_toArray, List.set_cons_zero, List.set_cons_succ])
            refine wpAnyH_take (i := 8) (oi := ({ dst := some 58, op := Op.binOp BinOp.eql 23 (Operand.tmp 55) (Operand.tmp 57) 23, type := 4, pos := "merkle.go:49", after := #[{ on := 5, ground := Ground.data }, { on := 7, ground := Ground.data }, { on := 3, ground := Ground.guard }], guard := some (3, true) } : Oper)) (v := ?_) rfl (by kernel_rfl) (by kernel_rfl) (by kernel_rfl) (fun _ _ _ h => h) (Or.inl ⟨by rfl, ?_⟩) (by assumption) ?_
            rotate_left
            · intro w hSw; (try dsimp only at hSw); go_simp <;> with_reducible rfl
            (try simp only [Act.put, List.setIfInBounds_toArray, List.set_cons_zero, List.set_cons_succ])
            refine wpAnyH_take (i := 9) (oi := ({ dst := some 59, op := Op.pick (Operand.tmp 53) (Operand.tmp 58) (Operand.const (Value.bool false)), type := 4, pos := "merkle.go:49", after := #[{ on := 3, ground := Ground.data }, { on := 8, ground := Ground.data }], guard := none } : Oper)) (v := ?_) rfl (by kernel_rfl) (by kernel_rfl) (by kernel_rfl) (fun _ _ _ h => h) (Or.inl ⟨by rfl, ?_⟩) (by assumption) ?_
            rotate_left
            · intro w hSw; (try dsimp only at hSw); go_simp <;> with_reducible rfl
            (try simp only [Act.put, List.setIfInBounds_toArray, List.set_cons_zero, List.set_cons_succ])
            refine wpAnyH_done (by kernel_rfl) ?_ _
            refine onlyN_mk ?_
            clear hHeld
            have c0 := cell_below hB1 a0
            have c1 := cell_below hB1 a1
            have c2 := cell_below hB1 b0
            have c3 := cell_below hB1 b1
            have hz := (hB1.block _ (Array.getElem?_eq_some_iff.1 GZ.out).1).trans GZ.out
            have hbz : Boxed _ (w.heap.size + 1 + 1 + 1) 4 (.bool false) := (hB1.block _ GF.out.lt).trans GF.out
            have d0 := blk_cell hz (j := 0) (v := .int .u64 0) rfl
            have d1 := blk_cell hz (j := 1) (v := .int .u64 0) rfl
            have d2 := blk_cell hz (j := 2) (v := .int .u64 0) rfl
            have d3 := blk_cell hz (j := 3) (v := .int .u64 0) rfl
            have e0 := blk_free hz 0
            have e1 := blk_free hz 1
            have e2 := blk_free hz 2
            have e3 := blk_free hz 3
            have kb := hbz.cell
            have fb := hbz.frozen
            have F := set5_facts (.int .u64 (x.1.toNat : Int)) (.int .u64 (x.2.toNat : Int)) (.int .u64 (y.1.toNat : Int)) (.int .u64 (y.2.toNat : Int)) (.bool true) hz hbz (by omega)
            have HF := hid F
            clear hz hbz F
            gi_wp2
            have s4 := S4.out
            have s5 := S5.out
            obtain ⟨g1, g2, g3, g4, g5⟩ := HF.out
            refine ⟨(GK.out.trans (Kept.of_below hB1)).trans ⟨Nat.le_of_eq g3.symm, fun q o hq hq' => g4 q o hq ?_ ?_⟩, ⟨⟨x, y, g1, g2, hid ⟨rfl, NH.out⟩⟩, g5 _ _ (GW.out.trans (hB1.mono GW.out.size)) (by omega) (by omega)⟩⟩
            · rintro rfl
              rcases hq' with (h | h) | h
              · exact PG2 h
              · omega
              · omega
            · rintro rfl
              rcases hq' with (h | h) | h
              · exact PG3 h
              · omega
              · omega
          · have nh : hits (x, y) = false := by simp [hits, hjn]
            have t3 := bv_ne hjn
            have NH := hid (FS.out.2 nh)
            clear hxy nh FS hjn
            refine round_region (S := fun W' => (W'.cell? ⟨V.heap.size, 0, none⟩ = some (.int .u64 (x.1.toNat : Int)) ∧ W'.cell? ⟨V.heap.size, 1, none⟩ = some (.int .u64 (x.2.toNat : Int)) ∧ W'.cell? ⟨W₂.heap.size, 0, none⟩ = some (.int .u64 (y.1.toNat : Int)) ∧ W'.cell? ⟨W₂.heap.size, 1, none⟩ = some (.int .u64 (y.2.toNat : Int)) ∧ Below WX.heap.size WX W')) (by kernel_rfl) (by rfl) ?_ (fun hHeld => ?_)
            · exact ⟨a0, a1, b0, b1, hsd⟩
            refine wpAnyH_take (i := 0) (oi := ({ dst := some 50, op := Op.load 36 (Operand.tmp 12), type := 36, pos := "merkle.go:49", after := #[], guard := none } : Oper)) (v := ?_) rfl (by kernel_rfl) (by kernel_rfl) (by kernel_rfl) (fun _ _ _ h => h) (Or.inl ⟨by rfl, ?_⟩) (by assumption) ?_
            rotate_left
            · intro w hSw; (try dsimp only at hSw); go_simp <;> with_reducible rfl
            (try simp only [Act.put, List.setIfInBounds_toArray, List.set_cons_zero, List.set_cons_succ])
            refine wpAnyH_take (i := 1) (oi := ({ dst := some 51, op := Op.load 36 (Operand.tmp 13), type := 36, pos := "merkle.go:49", after := #[], guard := none } : Oper)) (v := ?_) rfl (by kernel_rfl) (by kernel_rfl) (by kernel_rfl) (fun _ _ _ h => h) (Or.inl ⟨by rfl, ?_⟩) (by assumption) ?_
            rotate_left
            · intro w hSw; (try dsimp only at hSw); go_simp <;> with_reducible rfl
            (try simp only [Act.put, List.setIfInBounds_toArray, List.set_cons_zero, List.set_cons_succ])
            refine wpAnyH_take (i := 2) (oi := ({ dst := some 52, op := Op.binOp BinOp.neq 36 (Operand.tmp 50) (Operand.tmp 51) 36, type := 4, pos := "merkle.go:49", after := #[{ on := 0, ground := Ground.data }, { on := 1, ground := Ground.data }], guard := none } : Oper)) (v := ?_) rfl (by kernel_rfl) (by kernel_rfl) (by kernel_rfl) (fun _ _ _ h => h) (Or.inl ⟨by rfl, ?_⟩) (by assumption) ?_
            rotate_left
            · intro w hSw; (try dsimp only at hSw); go_simp <;> with_reducible rfl
            (try simp only [Act.put, List.setIfInBounds_toArray, List.set_cons_zero, List.set_cons_succ])
            refine wpAnyH_take (i := 3) (oi := ({ dst := some 53, op := Op.move (Operand.tmp 52), type := 4, pos := "merkle.go:49", after := #[{ on := 2, ground := Ground.data }], guard := none } : Oper)) (v := ?_) rfl (by kernel_rfl) (by kernel_rfl) (by kernel_rfl) (fun _ _ _ h => h) (Or.inl ⟨by rfl, ?_⟩) (by assumption) ?_
            rotate_left
            · intro w hSw; (try dsimp only at hSw); go_simp <;> with_reducible rfl
            (try simp only [Act.put, List.setIfInBounds_toArray, List.set_cons_zero, List.set_cons_succ])
            refine wpAnyH_take (i := 4) (oi := ({ dst := some 54, op := Op.load 36 (Operand.tmp 12), type := 36, pos := "merkle.go:49", after := #[{ on := 3, ground := Ground.guard }], guard := some (3, true) } : Oper)) (v := ?_) rfl (by kernel_rfl) (by kernel_rfl) (by kernel_rfl) (fun _ _ _ h => h) (Or.inl ⟨by rfl, ?_⟩) (by assumption) ?_
            rotate_left
            · intro w hSw; (try dsimp only at hSw); go_simp <;> with_reducible rfl
            (try simp only [Act.put, List.setIfInBounds_toArray, List.set_cons_zero, List.set_cons_succ])
            refine wpAnyH_take (i := 6) (oi := ({ dst := some 56, op := Op.load 36 (Operand.tmp 13), type := 36, pos := "merkle.go:49", after := #[{ on := 3, ground := Ground.guard }], guard := some (3, true) } : Oper)) (v := ?_) rfl (by kernel_rfl) (by kernel_rfl) (by kernel_rfl) (fun _ _ _ h => h) (Or.inl ⟨by rfl, ?_⟩) (by assumption) ?_
            rotate_left
            · intro w hSw; (try dsimp only at hSw); go_simp <;> with_reducible rfl
            (try simp only [Act.put, List.setIfInBounds_toArray, List.set_cons_zero, List.set_cons_succ])
            refine wpAnyH_ready (rs := [5]) (by kernel_rfl) (by simp) ?_
            refine AllReadyH.cons (o := ({ dst := some 55, op := Op.call { callee := Callee.value (Operand.func 28), args := #[Operand.tmp 54], argTypes := #[36] }, type := 23, pos := "merkle.go:49", after := #[{ on := 4, ground := Ground.data }, { on := 3, ground := Ground.chain }, { on := 3, ground := Ground.guard }], guard := some (3, true) } : Oper)) rfl (fun K hK => ?_) ?_
            rotate_left
            · exact AllReadyH.nil
            go_simp
            go_at_call 28
            with_reducible refine (pjoin_any x _).mono ?_
            rintro e y0 ⟨rfl, hq0⟩
            have hB0 := below_step hsd hq0
            clear hHeld
            first | (with_reducible refine hK.out _ _ ?_ (fun hHeld => ?_)) | (go_wp2_with fail; with_reducible refine hK.out _ _ ?_ (fun hHeld => ?_))
            · exact ⟨cell_below hB0 a0, cell_below hB0 a1, cell_below hB0 b0, cell_below hB0 b1, hB0⟩
            clear hK K
            (try simp only [Act.put, List.setIfInBounds_toArray, List.set_cons_zero, List.set_cons_succ])
            refine wpAnyH_ready (rs := [7]) (by kernel_rfl) (by simp) ?_
            refine AllReadyH.cons (o := ({ dst := some 57, op := Op.call { callee := Callee.value (Operand.func 28), args := #[Operand.tmp 56], argTypes := #[36] }, type := 23, pos := "merkle.go:49", after := #[{ on := 6, ground := Ground.data }, { on := 5, ground := Ground.chain }, { on := 3, ground := Ground.guard }], guard := some (3, true) } : Oper)) rfl (fun K hK => ?_) ?_
            rotate_left
            · exact AllReadyH.nil
            go_simp
            go_at_call 28
            with_reducible refine (pjoin_any y _).mono ?_
            rintro e y1 ⟨rfl, hq1⟩
            have hB1 := below_step hB0 hq1
            clear hHeld
            first | (with_reducible refine hK.out _ _ ?_ (fun hHeld => ?_)) | (go_wp2_with fail; with_reducible refine hK.out _ _ ?_ (fun hHeld => ?_))
            · exact ⟨cell_below hB1 a0, cell_below hB1 a1, cell_below hB1 b0, cell_below hB1 b1, hB1⟩
            clear hK K
            (try simp only [Act.put, List.setIfInBounds_toArray, List.set_cons_zero, List.set_cons_succ])
            refine wpAnyH_take (i := 8) (oi := ({ dst := some 58, op := Op.binOp BinOp.eql 23 (Operand.tmp 55) (Operand.tmp 57) 23, type := 4, pos := "merkle.go:49", after := #[{ on := 5, ground := Ground.data }, { on := 7, ground := Ground.data }, { on := 3, ground := Ground.guard }], guard := some (3, true) } : Oper)) (v := ?_) rfl (by kernel_rfl) (by kernel_rfl) (by kernel_rfl) (fun _ _ _ h => h) (Or.inl ⟨by rfl, ?_⟩) (by assumption) ?_
            rotate_left
            · intro w hSw; (try dsimp only at hSw); go_simp <;> with_reducible rfl
            (try simp only [Act.put, List.setIfInBounds_toArray, List.set_cons_zero, List.set_cons_succ])
            refine wpAnyH_take (i := 9) (oi := ({ dst := some 59, op := Op.pick (Operand.tmp 53) (Operand.tmp 58) (Operand.const (Value.bool false)), type := 4, pos := "merkle.go:49", after := #[{ on := 3, ground := Ground.data }, { on := 8, ground := Ground.data }], guard := none } : Oper)) (v := ?_) rfl (by kernel_rfl) (by kernel_rfl) (by kernel_rfl) (fun _ _ _ h => h) (Or.inl ⟨by rfl, ?_⟩) (by assumption) ?_
            rotate_left
            · intro w hSw; (try dsimp only at hSw); go_simp <;> with_reducible rfl
            (try simp only [Act.put, List.setIfInBounds_toArray, List.set_cons_zero, List.set_cons_succ])
            refine wpAnyH_done (by kernel_rfl) ?_ _
            refine onlyN_mk ?_
            clear hHeld
            gi_wp2
            have s4 := S4.out
            have s5 := S5.out
            have hl1 : (pre ++ [x]).length = j + 1 := by rw [List.length_append, HJE.out]; rfl
            refine ⟨GK.out.trans (Kept.of_below hB1), ⟨⟨⟨⟨2 * j + 2, fun h => by rw [hl1] at h ⊢; omega, ?_⟩, (hB1.block _ (Array.getElem?_eq_some_iff.1 GR5.out).1).trans GR5.out⟩, ⟨(hB1.block _ (Array.getElem?_eq_some_iff.1 GZ.out).1).trans GZ.out, (hB1.block _ GF.out.lt).trans GF.out⟩⟩, GW.out.trans (hB1.mono GW.out.size)⟩, hid (by rw [hl1]; exact NH.out)⟩
            have hN : Boxed _ W3.heap.size 52 (.slice (some ⟨g, 2 * j + 2, none⟩) (k + 1 + 1 - j - 1) (cap - j - 1)) := (hB1.block _ GN.out.lt).trans GN.out
            rw [hl1, show k + 1 + 1 - (j + 1) = k + 1 + 1 - j - 1 by omega, show cap - (j + 1) = cap - j - 1 by omega]
            exact hN
        · have t1 := bv_ne h11
          clear h11
          by_cases hjn : joinP x = joinP y
          · have nh : hits (x, y) = true := by simp [hits, hxy, hjn]
            have t3 : (((joinP x).toNat : Int) == ((joinP y).toNat : Int)) = true := by rw [hjn]; simp
            have NH := hid (FS.out.1 nh)
            clear hxy nh FS hjn
            refine round_region (S := fun W' => (W'.cell? ⟨V.heap.size, 0, none⟩ = some (.int .u64 (x.1.toNat : Int)) ∧ W'.cell? ⟨V.heap.size, 1, none⟩ = some (.int .u64 (x.2.toNat : Int)) ∧ W'.cell? ⟨W₂.heap.size, 0, none⟩ = some (.int .u64 (y.1.toNat : Int)) ∧ W'.cell? ⟨W₂.heap.size, 1, none⟩ = some (.int .u64 (y.2.toNat : Int)) ∧ Below WX.heap.size WX W')) (by kernel_rfl) (by rfl) ?_ (fun hHeld => ?_)
            · exact ⟨a0, a1, b0, b1, hsd⟩
            refine wpAnyH_take (i := 0) (oi := ({ dst := some 50, op := Op.load 36 (Operand.tmp 12), type := 36, pos := "merkle.go:49", after := #[], guard := none } : Oper)) (v := ?_) rfl (by kernel_rfl) (by kernel_rfl) (by kernel_rfl) (fun _ _ _ h => h) (Or.inl ⟨by rfl, ?_⟩) (by assumption) ?_
            rotate_left
            · intro w hSw; (try dsimp only at hSw); go_simp <;> with_reducible rfl
            (try simp only [Act.put, List.setIfInBounds_toArray, List.set_cons_zero, List.set_cons_succ])
            refine wpAnyH_take (i := 1) (oi := ({ dst := some 51, op := Op.load 36 (Operand.tmp 13), type := 36, pos := "merkle.go:49", after := #[], guard := none } : Oper)) (v := ?_) rfl (by kernel_rfl) (by kernel_rfl) (by kernel_rfl) (fun _ _ _ h => h) (Or.inl ⟨by rfl, ?_⟩) (by assumption) ?_
            rotate_left
            · intro w hSw; (try dsimp only at hSw); go_simp <;> with_reducible rfl
            (try simp only [Act.put, List.setIfInBounds_toArray, List.set_cons_zero, List.set_cons_succ])
            refine wpAnyH_take (i := 2) (oi := ({ dst := some 52, op := Op.binOp BinOp.neq 36 (Operand.tmp 50) (Operand.tmp 51) 36, type := 4, pos := "merkle.go:49", after := #[{ on := 0, ground := Ground.data }, { on := 1, ground := Ground.data }], guard := none } : Oper)) (v := ?_) rfl (by kernel_rfl) (by kernel_rfl) (by kernel_rfl) (fun _ _ _ h => h) (Or.inl ⟨by rfl, ?_⟩) (by assumption) ?_
            rotate_left
            · intro w hSw; (try dsimp only at hSw); go_simp <;> with_reducible rfl
            (try simp only [Act.put, List.setIfInBounds_toArray, List.set_cons_zero, List.set_cons_succ])
            refine wpAnyH_take (i := 3) (oi := ({ dst := some 53, op := Op.move (Operand.tmp 52), type := 4, pos := "merkle.go:49", after := #[{ on := 2, ground := Ground.data }], guard := none } : Oper)) (v := ?_) rfl (by kernel_rfl) (by kernel_rfl) (by kernel_rfl) (fun _ _ _ h => h) (Or.inl ⟨by rfl, ?_⟩) (by assumption) ?_
            rotate_left
            · intro w hSw; (try dsimp only at hSw); go_simp <;> with_reducible rfl
            (try simp only [Act.put, List.setIfInBounds_toArray, List.set_cons_zero, List.set_cons_succ])
            refine wpAnyH_take (i := 4) (oi := ({ dst := some 54, op := Op.load 36 (Operand.tmp 12), type := 36, pos := "merkle.go:49", after := #[{ on := 3, ground := Ground.guard }], guard := some (3, true) } : Oper)) (v := ?_) rfl (by kernel_rfl) (by kernel_rfl) (by kernel_rfl) (fun _ _ _ h => h) (Or.inl ⟨by rfl, ?_⟩) (by assumption) ?_
            rotate_left
            · intro w hSw; (try dsimp only at hSw); go_simp <;> with_reducible rfl
            (try simp only [Act.put, List.setIfInBounds_toArray, List.set_cons_zero, List.set_cons_succ])
            refine wpAnyH_take (i := 6) (oi := ({ dst := some 56, op := Op.load 36 (Operand.tmp 13), type := 36, pos := "merkle.go:49", after := #[{ on := 3, ground := Ground.guard }], guard := some (3, true) } : Oper)) (v := ?_) rfl (by kernel_rfl) (by kernel_rfl) (by kernel_rfl) (fun _ _ _ h => h) (Or.inl ⟨by rfl, ?_⟩) (by assumption) ?_
            rotate_left
            · intro w hSw; (try dsimp only at hSw); go_simp <;> with_reducible rfl
            (try simp only [Act.put, List.setIfInBounds_toArray, List.set_cons_zero, List.set_cons_succ])
            refine wpAnyH_ready (rs := [5]) (by kernel_rfl) (by simp) ?_
            refine AllReadyH.cons (o := ({ dst := some 55, op := Op.call { callee := Callee.value (Operand.func 28), args := #[Operand.tmp 54], argTypes := #[36] }, type := 23, pos := "merkle.go:49", after := #[{ on := 4, ground := Ground.data }, { on := 3, ground := Ground.chain }, { on := 3, ground := Ground.guard }], guard := some (3, true) } : Oper)) rfl (fun K hK => ?_) ?_
            rotate_left
            · exact AllReadyH.nil
            go_simp
            go_at_call 28
            with_reducible refine (pjoin_any x _).mono ?_
            rintro e y0 ⟨rfl, hq0⟩
            have hB0 := below_step hsd hq0
            clear hHeld
            first | (with_reducible refine hK.out _ _ ?_ (fun hHeld => ?_)) | (go_wp2_with fail; with_reducible refine hK.out _ _ ?_ (fun hHeld => ?_))
            · exact ⟨cell_below hB0 a0, cell_below hB0 a1, cell_below hB0 b0, cell_below hB0 b1, hB0⟩
            clear hK K
            (try simp only [Act.put, List.setIfInBounds_toArray, List.set_cons_zero, List.set_cons_succ])
            refine wpAnyH_ready (rs := [7]) (by kernel_rfl) (by simp) ?_
            refine AllReadyH.cons (o := ({ dst := some 57, op := Op.call { callee := Callee.value (Operand.func 28), args := #[Operand.tmp 56], argTypes := #[36] }, type := 23, pos := "merkle.go:49", after := #[{ on := 6, ground := Ground.data }, { on := 5, ground := Ground.chain }, { on := 3, ground := Ground.guard }], guard := some (3, true) } : Oper)) rfl (fun K hK => ?_) ?_
            rotate_left
            · exact AllReadyH.nil
            go_simp
            go_at_call 28
            with_reducible refine (pjoin_any y _).mono ?_
            rintro e y1 ⟨rfl, hq1⟩
            have hB1 := below_step hB0 hq1
            clear hHeld
            first | (with_reducible refine hK.out _ _ ?_ (fun hHeld => ?_)) | (go_wp2_with fail; with_reducible refine hK.out _ _ ?_ (fun hHeld => ?_))
            · exact ⟨cell_below hB1 a0, cell_below hB1 a1, cell_below hB1 b0, cell_below hB1 b1, hB1⟩
            clear hK K
            (try simp only [Act.put, List.setIfInBounds_toArray, List.set_cons_zero, List.set_cons_succ])
            refine wpAnyH_take (i := 8) (oi := ({ dst := some 58, op := Op.binOp BinOp.eql 23 (Operand.tmp 55) (Operand.tmp 57) 23, type := 4, pos := "merkle.go:49", after := #[{ on := 5, ground := Ground.data }, { on := 7, ground := Ground.data }, { on := 3, ground := Ground.guard }], guard := some (3, true) } : Oper)) (v := ?_) rfl (by kernel_rfl) (by kernel_rfl) (by kernel_rfl) (fun _ _ _ h => h) (Or.inl ⟨by rfl, ?_⟩) (by assumption) ?_
            rotate_left
            · intro w hSw; (try dsimp only at hSw); go_simp <;> with_reducible rfl
            (try simp only [Act.put, List.setIfInBounds_toArray, List.set_cons_zero, List.set_cons_succ])
            refine wpAnyH_take (i := 9) (oi := ({ dst := some 59, op := Op.pick (Operand.tmp 53) (Operand.tmp 58) (Operand.const (Value.bool false)), type := 4, pos := "merkle.go:49", after := #[{ on := 3, ground := Ground.data }, { on := 8, ground := Ground.data }], guard := none } : Oper)) (v := ?_) rfl (by kernel_rfl) (by kernel_rfl) (by kernel_rfl) (fun _ _ _ h => h) (Or.inl ⟨by rfl, ?_⟩) (by assumption) ?_
            rotate_left
            · intro w hSw; (try dsimp only at hSw); go_simp <;> with_reducible rfl
            (try simp only [Act.put, List.setIfInBounds_toArray, List.set_cons_zero, List.set_cons_succ])
            refine wpAnyH_done (by kernel_rfl) ?_ _
            refine onlyN_mk ?_
            clear hHeld
            have c0 := cell_below hB1 a0
            have c1 := cell_below hB1 a1
            have c2 := cell_below hB1 b0
            have c3 := cell_below hB1 b1
            have hz := (hB1.block _ (Array.getElem?_eq_some_iff.1 GZ.out).1).trans GZ.out
            have hbz : Boxed _ (w.heap.size + 1 + 1 + 1) 4 (.bool false) := (hB1.block _ GF.out.lt).trans GF.out
            have d0 := blk_cell hz (j := 0) (v := .int .u64 0) rfl
            have d1 := blk_cell hz (j := 1) (v := .int .u64 0) rfl
            have d2 := blk_cell hz (j := 2) (v := .int .u64 0) rfl
            have d3 := blk_cell hz (j := 3) (v := .int .u64 0) rfl
            have e0 := blk_free hz 0
            have e1 := blk_free hz 1
            have e2 := blk_free hz 2
            have e3 := blk_free hz 3
            have kb := hbz.cell
            have fb := hbz.frozen
            have F := set5_facts (.int .u64 (x.1.toNat : Int)) (.int .u64 (x.2.toNat : Int)) (.int .u64 (y.1.toNat : Int)) (.int .u64 (y.2.toNat : Int)) (.bool true) hz hbz (by omega)
            have HF := hid F
            clear hz hbz F
            gi_wp2
            have s4 := S4.out
            have s5 := S5.out
            obtain ⟨g1, g2, g3, g4, g5⟩ := HF.out
            refine ⟨(GK.out.trans (Kept.of_below hB1)).trans ⟨Nat.le_of_eq g3.symm, fun q o hq hq' => g4 q o hq ?_ ?_⟩, ⟨⟨x, y, g1, g2, hid ⟨rfl, NH.out⟩⟩, g5 _ _ (GW.out.trans (hB1.mono GW.out.size)) (by omega) (by omega)⟩⟩
            · rintro rfl
              rcases hq' with (h | h) | h
              · exact PG2 h
              · omega
              · omega
            · rintro rfl
              rcases hq' with (h | h) | h
              · exact PG3 h
              · omega
              · omega
          · have nh : hits (x, y) = false := by simp [hits, hjn]
            have t3 := bv_ne hjn
            have NH := hid (FS.out.2 nh)
            clear hxy nh FS hjn
            refine round_region (S := fun W' => (W'.cell? ⟨V.heap.size, 0, none⟩ = some (.int .u64 (x.1.toNat : Int)) ∧ W'.cell? ⟨V.heap.size, 1, none⟩ = some (.int .u64 (x.2.toNat : Int)) ∧ W'.cell? ⟨W₂.heap.size, 0, none⟩ = some (.int .u64 (y.1.toNat : Int)) ∧ W'.cell? ⟨W₂.heap.size, 1, none⟩ = some (.int .u64 (y.2.toNat : Int)) ∧ Below WX.heap.size WX W')) (by kernel_rfl) (by rfl) ?_ (fun hHeld => ?_)
            · exact ⟨a0, a1, b0, b1, hsd⟩
            refine wpAnyH_take (i := 0) (oi := ({ dst := some 50, op := Op.load 36 (Operand.tmp 12), type := 36, pos := "merkle.go:49", after := #[], guard := none } : Oper)) (v := ?_) rfl (by kernel_rfl) (by kernel_rfl) (by kernel_rfl) (fun _ _ _ h => h) (Or.inl ⟨by rfl, ?_⟩) (by assumption) ?_
            rotate_left
            · intro w hSw; (try dsimp only at hSw); go_simp <;> with_reducible rfl
            (try simp only [Act.put, List.setIfInBounds_toArray, List.set_cons_zero, List.set_cons_succ])
            refine wpAnyH_take (i := 1) (oi := ({ dst := some 51, op := Op.load 36 (Operand.tmp 13), type := 36, pos := "merkle.go:49", after := #[], guard := none } : Oper)) (v := ?_) rfl (by kernel_rfl) (by kernel_rfl) (by kernel_rfl) (fun _ _ _ h => h) (Or.inl ⟨by rfl, ?_⟩) (by assumption) ?_
            rotate_left
            · intro w hSw; (try dsimp only at hSw); go_simp <;> with_reducible rfl
            (try simp only [Act.put, List.setIfInBounds_toArray, List.set_cons_zero, List.set_cons_succ])
            refine wpAnyH_take (i := 2) (oi := ({ dst := some 52, op := Op.binOp BinOp.neq 36 (Operand.tmp 50) (Operand.tmp 51) 36, type := 4, pos := "merkle.go:49", after := #[{ on := 0, ground := Ground.data }, { on := 1, ground := Ground.data }], guard := none } : Oper)) (v := ?_) rfl (by kernel_rfl) (by kernel_rfl) (by kernel_rfl) (fun _ _ _ h => h) (Or.inl ⟨by rfl, ?_⟩) (by assumption) ?_
            rotate_left
            · intro w hSw; (try dsimp only at hSw); go_simp <;> with_reducible rfl
            (try simp only [Act.put, List.setIfInBounds_toArray, List.set_cons_zero, List.set_cons_succ])
            refine wpAnyH_take (i := 3) (oi := ({ dst := some 53, op := Op.move (Operand.tmp 52), type := 4, pos := "merkle.go:49", after := #[{ on := 2, ground := Ground.data }], guard := none } : Oper)) (v := ?_) rfl (by kernel_rfl) (by kernel_rfl) (by kernel_rfl) (fun _ _ _ h => h) (Or.inl ⟨by rfl, ?_⟩) (by assumption) ?_
            rotate_left
            · intro w hSw; (try dsimp only at hSw); go_simp <;> with_reducible rfl
            (try simp only [Act.put, List.setIfInBounds_toArray, List.set_cons_zero, List.set_cons_succ])
            refine wpAnyH_take (i := 4) (oi := ({ dst := some 54, op := Op.load 36 (Operand.tmp 12), type := 36, pos := "merkle.go:49", after := #[{ on := 3, ground := Ground.guard }], guard := some (3, true) } : Oper)) (v := ?_) rfl (by kernel_rfl) (by kernel_rfl) (by kernel_rfl) (fun _ _ _ h => h) (Or.inl ⟨by rfl, ?_⟩) (by assumption) ?_
            rotate_left
            · intro w hSw; (try dsimp only at hSw); go_simp <;> with_reducible rfl
            (try simp only [Act.put, List.setIfInBounds_toArray, List.set_cons_zero, List.set_cons_succ])
            refine wpAnyH_take (i := 6) (oi := ({ dst := some 56, op := Op.load 36 (Operand.tmp 13), type := 36, pos := "merkle.go:49", after := #[{ on := 3, ground := Ground.guard }], guard := some (3, true) } : Oper)) (v := ?_) rfl (by kernel_rfl) (by kernel_rfl) (by kernel_rfl) (fun _ _ _ h => h) (Or.inl ⟨by rfl, ?_⟩) (by assumption) ?_
            rotate_left
            · intro w hSw; (try dsimp only at hSw); go_simp <;> with_reducible rfl
            (try simp only [Act.put, List.setIfInBounds_toArray, List.set_cons_zero, List.set_cons_succ])
            refine wpAnyH_ready (rs := [5]) (by kernel_rfl) (by simp) ?_
            refine AllReadyH.cons (o := ({ dst := some 55, op := Op.call { callee := Callee.value (Operand.func 28), args := #[Operand.tmp 54], argTypes := #[36] }, type := 23, pos := "merkle.go:49", after := #[{ on := 4, ground := Ground.data }, { on := 3, ground := Ground.chain }, { on := 3, ground := Ground.guard }], guard := some (3, true) } : Oper)) rfl (fun K hK => ?_) ?_
            rotate_left
            · exact AllReadyH.nil
            go_simp
            go_at_call 28
            with_reducible refine (pjoin_any x _).mono ?_
            rintro e y0 ⟨rfl, hq0⟩
            have hB0 := below_step hsd hq0
            clear hHeld
            first | (with_reducible refine hK.out _ _ ?_ (fun hHeld => ?_)) | (go_wp2_with fail; with_reducible refine hK.out _ _ ?_ (fun hHeld => ?_))
            · exact ⟨cell_below hB0 a0, cell_below hB0 a1, cell_below hB0 b0, cell_below hB0 b1, hB0⟩
            clear hK K
            (try simp only [Act.put, List.setIfInBounds_toArray, List.set_cons_zero, List.set_cons_succ])
            refine wpAnyH_ready (rs := [7]) (by kernel_rfl) (by simp) ?_
            refine AllReadyH.cons (o := ({ dst := some 57, op := Op.call { callee := Callee.value (Operand.func 28), args := #[Operand.tmp 56], argTypes := #[36] }, type := 23, pos := "merkle.go:49", after := #[{ on := 6, ground := Ground.data }, { on := 5, ground := Ground.chain }, { on := 3, ground := Ground.guard }], guard := some (3, true) } : Oper)) rfl (fun K hK => ?_) ?_
            rotate_left
            · exact AllReadyH.nil
            go_simp
            go_at_call 28
            with_reducible refine (pjoin_any y _).mono ?_
            rintro e y1 ⟨rfl, hq1⟩
            have hB1 := below_step hB0 hq1
            clear hHeld
            first | (with_reducible refine hK.out _ _ ?_ (fun hHeld => ?_)) | (go_wp2_with fail; with_reducible refine hK.out _ _ ?_ (fun hHeld => ?_))
            · exact ⟨cell_below hB1 a0, cell_below hB1 a1, cell_below hB1 b0, cell_below hB1 b1, hB1⟩
            clear hK K
            (try simp only [Act.put, List.setIfInBounds_toArray, List.set_cons_zero, List.set_cons_succ])
            refine wpAnyH_take (i := 8) (oi := ({ dst := some 58, op := Op.binOp BinOp.eql 23 (Operand.tmp 55) (Operand.tmp 57) 23, type := 4, pos := "merkle.go:49", after := #[{ on := 5, ground := Ground.data }, { on := 7, ground := Ground.data }, { on := 3, ground := Ground.guard }], guard := some (3, true) } : Oper)) (v := ?_) rfl (by kernel_rfl) (by kernel_rfl) (by kernel_rfl) (fun _ _ _ h => h) (Or.inl ⟨by rfl, ?_⟩) (by assumption) ?_
            rotate_left
            · intro w hSw; (try dsimp only at hSw); go_simp <;> with_reducible rfl
            (try simp only [Act.put, List.setIfInBounds_toArray, List.set_cons_zero, List.set_cons_succ])
            refine wpAnyH_take (i := 9) (oi := ({ dst := some 59, op := Op.pick (Operand.tmp 53) (Operand.tmp 58) (Operand.const (Value.bool false)), type := 4, pos := "merkle.go:49", after := #[{ on := 3, ground := Ground.data }, { on := 8, ground := Ground.data }], guard := none } : Oper)) (v := ?_) rfl (by kernel_rfl) (by kernel_rfl) (by kernel_rfl) (fun _ _ _ h => h) (Or.inl ⟨by rfl, ?_⟩) (by assumption) ?_
            rotate_left
            · intro w hSw; (try dsimp only at hSw); go_simp <;> with_reducible rfl
            (try simp only [Act.put, List.setIfInBounds_toArray, List.set_cons_zero, List.set_cons_succ])
            refine wpAnyH_done (by kernel_rfl) ?_ _
            refine onlyN_mk ?_
            clear hHeld
            gi_wp2
            have s4 := S4.out
            have s5 := S5.out
            have hl1 : (pre ++ [x]).length = j + 1 := by rw [List.length_append, HJE.out]; rfl
            refine ⟨GK.out.trans (Kept.of_below hB1), ⟨⟨⟨⟨2 * j + 2, fun h => by rw [hl1] at h ⊢; omega, ?_⟩, (hB1.block _ (Array.getElem?_eq_some_iff.1 GR5.out).1).trans GR5.out⟩, ⟨(hB1.block _ (Array.getElem?_eq_some_iff.1 GZ.out).1).trans GZ.out, (hB1.block _ GF.out.lt).trans GF.out⟩⟩, GW.out.trans (hB1.mono GW.out.size)⟩, hid (by rw [hl1]; exact NH.out)⟩
            have hN : Boxed _ W3.heap.size 52 (.slice (some ⟨g, 2 * j + 2, none⟩) (k + 1 + 1 - j - 1) (cap - j - 1)) := (hB1.block _ GN.out.lt).trans GN.out
            rw [hl1, show k + 1 + 1 - (j + 1) = k + 1 + 1 - j - 1 by omega, show cap - (j + 1) = cap - j - 1 by omega]
            exact hN
  case done =>
    rintro V ⟨⟨⟨⟨⟨off, hoff, hbo⟩, hrow⟩, ⟨hz, hbz⟩⟩, hB⟩, hf⟩ hK _
    have k0 := blk_cell hz (j := 0) (v := .int .u64 0) rfl
    have k1 := blk_cell hz (j := 1) (v := .int .u64 0) rfl
    have k2 := blk_cell hz (j := 2) (v := .int .u64 0) rfl
    have k3 := blk_cell hz (j := 3) (v := .int .u64 0) rfl
    have e0 := blk_free hz 0
    have e1 := blk_free hz 1
    have e2 := blk_free hz 2
    have e3 := blk_free hz 3
    have kb := hbz.cell
    have fb := hbz.frozen
    clear s4 s5
    gi_wp2
    have s4 := S4.out
    have s5 := S5.out
    have F := set5_facts (.int .u64 0) (.int .u64 0) (.int .u64 0) (.int .u64 0) (.bool false) hz hbz (by omega)
    obtain ⟨g1, g2, g3, g4, g5⟩ := F
    have hK' := g4 _ _ hK (by omega) (by omega)
    have hBe := g5 _ _ hB (by omega) (by omega)
    obtain ⟨U, hU⟩ : ∃ U, set5 V (w.heap.size + 1 + 1) (w.heap.size + 1 + 1 + 1) (.int .u64 0) (.int .u64 0) (.int .u64 0) (.int .u64 0) (.bool false) = U := ⟨_, rfl⟩
    unfold set5 at hU
    rw [show set5 V (w.heap.size + 1 + 1) (w.heap.size + 1 + 1 + 1) (.int .u64 0) (.int .u64 0) (.int .u64 0) (.int .u64 0) (.bool false) = U from hU] at g1 g2 hK' hBe
    rw [hU]
    clear hU g4 g5
    have hpo := fun o' => putObj_grown U W5.heap.size o'
    refine ⟨by simp, .inl ⟨_, _, rfl, run_takeDeferred hK', ?_⟩⟩
    refine ⟨_, coll_results _ _ (w.heap.size + 1 + 1) (w.heap.size + 1 + 1 + 1) #[.int .u64 0, .int .u64 0, .int .u64 0, .int .u64 0] (.bool false) rfl rfl (((hpo _).block _ (Array.getElem?_eq_some_iff.1 g1).1 (fun e => by have := Option.some.inj e; omega)).trans g1) rfl (((hpo _).block _ g2.lt (fun e => by have := Option.some.inj e; omega)).trans g2), ?_, hBe.grown (hpo _) hBe.size (fun k e => by cases e; omega)⟩
    have hlz : ((pairsB n i lp pp).zip (pairsB n i lq pq)).length ≤ (pairsB n i lp pp).length := by rw [List.length_zip]; omega
    have hf' := hf.out
    rw [List.take_of_length_le hlz] at hf'
    rw [hf']
    rfl
  case stop =>
    rintro c pre V _ ⟨⟨a, b, h1, h2, h3⟩, hB⟩ hK
    obtain ⟨rfl, hf⟩ := h3.out
    clear s4 s5
    gi_wp2
    have s4 := S4.out
    have s5 := S5.out
    have hpo := fun o' => putObj_grown V W5.heap.size o'
    refine ⟨by simp, .inl ⟨_, _, rfl, run_takeDeferred hK, ?_⟩⟩
    refine ⟨_, coll_results _ _ (w.heap.size + 1 + 1) (w.heap.size + 1 + 1 + 1) _ (.bool true) rfl rfl (((hpo _).block _ (Array.getElem?_eq_some_iff.1 h1).1 (fun e => by have := Option.some.inj e; omega)).trans h1) rfl (((hpo _).block _ h2.lt (fun e => by have := Option.some.inj e; omega)).trans h2), ?_, hB.grown (hpo _) hB.size (fun k e => by cases e; omega)⟩
    first | rfl | (rw [hf]; rfl)
end Go.Proofs.Ytchmiaeajkpijaa

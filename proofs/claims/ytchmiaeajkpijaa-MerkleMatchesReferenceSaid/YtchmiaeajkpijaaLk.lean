import Derived.Test.YtchmiaeajkpijaaLv
namespace Go.Proofs.Ytchmiaeajkpijaa
open Go.RowKit Go.Shelf
attribute [local go_sem] Oper.semAt_some
set_option linter.unusedVariables false

/-! 'slices.AppendSeq' and 'slices.Collect' of pairs. -/
/-- The cells of pairs, one behind the other. -/
def flat (ps : List Pair) : List Value := ps.flatMap fun p => [.int .u64 (p.1.toNat : Int), .int .u64 (p.2.toNat : Int)]
theorem flat_snoc (ps : List Pair) (p : Pair) : flat (ps ++ [p]) = flat ps ++ [.int .u64 (p.1.toNat : Int), .int .u64 (p.2.toNat : Int)] := by simp [flat]
theorem flat_len (ps : List Pair) : (flat ps).length = 2 * ps.length := by
  induction ps with
  | nil => rfl
  | cons p ps ih => simp only [flat, List.flatMap_cons, List.length_append, List.length_cons, List.length_nil] at ih ⊢; omega
theorem flat_at : ∀ (ps : List Pair) (k : Nat) (p : Pair), ps[k]? = some p → (flat ps)[2 * k]? = some (.int .u64 (p.1.toNat : Int)) ∧ (flat ps)[2 * k + 1]? = some (.int .u64 (p.2.toNat : Int)) := by
  intro ps
  induction ps with
  | nil => intro k p h; simp at h
  | cons a ps ih =>
    intro k p h
    have e : flat (a :: ps) = .int .u64 (a.1.toNat : Int) :: .int .u64 (a.2.toNat : Int) :: flat ps := rfl
    rw [e]
    cases k with
    | zero =>
      obtain rfl : a = p := by simpa using h
      exact ⟨rfl, rfl⟩
    | succ k =>
      have h2 := ih k p (by simpa using h)
      rw [show 2 * (k + 1) = 2 * k + 1 + 1 by omega]
      simpa using h2
theorem infoP2 : (Try.prog.info? 36).map (fun i => (i.zero, i.size, i.bytes)) = some (some (.agg #[.int .u64 0, .int .u64 0]), 2, 16) := by kernel_rfl
theorem bears_row2 {α : Type} {B K pb base size : Nat} {t e : TypeId} {k : List α → Nat} (f : List α → List Value) (h : pb < B) (h2 : B + K ≤ base := by omega) : Bears B K (fun s W => ∃ v, Boxed W pb t v ∧ W.ownsRow base e size v (k s) (f s)) := by
  rintro s W W' row ⟨v, h1, h3⟩ hg ht
  refine ⟨v, h1.kept hg (fun e => by have := (ht pb e.symm).1; omega), h3.kept hg ?_⟩
  rcases h3.2 with ⟨rfl, -⟩ | ⟨g, cap, cur, rfl, hb, hh, -⟩
  · exact .inl rfl
  · refine .inr fun e => ?_
    rcases (ht g e.symm).2 with ⟨o, ho, hc⟩ | h4
    · rw [hh] at ho; cases ho; cases hc
    · omega
theorem pair_cells (W : World) (p : Pair) : ∀ j u, [Value.int .u64 (p.1.toNat : Int), .int .u64 (p.2.toNat : Int)][j]? = some u → (W.alloc (.cells #[.int .u64 (p.1.toNat : Int), .int .u64 (p.2.toNat : Int)] 36)).cell? ((⟨W.heap.size, 0, none⟩ : Addr).add j) = some u := by
  intro j u h
  have hn := World.alloc_heap_new W (.cells #[.int .u64 (p.1.toNat : Int), .int .u64 (p.2.toNat : Int)] 36)
  match j, h with
  | 0, h => obtain rfl := Option.some.inj h; exact blk_cell (j := 0) hn rfl
  | 1, h => obtain rfl := Option.some.inj h; exact blk_cell (j := 1) hn rfl
  | j + 2, h => simp at h
theorem pair_one (p : Pair) : ∀ u ∈ [Value.int .u64 (p.1.toNat : Int), .int .u64 (p.2.toNat : Int)], u.oneCell' = true := by
  intro u hu
  rcases List.mem_cons.1 hu with rfl | hu
  · rfl
  · obtain rfl := List.mem_singleton.1 hu
    rfl
set_option maxRecDepth 100000 in
set_option maxHeartbeats 2000000 in
theorem appendSeq_in {gf K : Nat} {lb : Array Value} {full : List Pair} {G : Nat → Prop} {q : Obj → Prop} {w0 : World} (eg : ∀ args w, (callFunc gf args).run Try.prog w = .ok (.enter gf args) w)
    (hseq : SeqG Try.prog gf lb (fun x : Pair => #[encP x]) full G K q w0) (w : World) (hG : ∀ k, G k → k < w.heap.size) (hw : ∀ k o, G k → w0.heap[k]? = some o → w.heap[k]? = some o)
    (hq : ∀ o : Obj, o.isCells = false → q o) (hq2 : ∀ cs fz, ¬ q (.cells cs 36 fz)) (hq3 : ∀ cs fz, ¬ q (.cells cs 52 fz)) (hlen : full.length ≤ 1000) (m : Nat) :
    CallsIn Fence.wide m Try.prog 35 #[.slice none 0 0, .func (.func gf) #[] lb] w fun e w' => ∃ v, e = .returned v ∧ w'.ownsRow (w.heap.size + 1 + (K + 2)) 36 2 v full.length (flat full) ∧ Below w.heap.size w w' := by
  obtain ⟨i0, hi0, hz0, hz1, hz2⟩ := info_parts infoP2
  have hdd : ∀ k : Nat, (Fence.wide.depth.isSome = true → 1 ≤ k) := fun k h => by cases h
  refine callsIn_of_wp_marks Try.func35 rfl trivial ?_ rfl
  simp only [Try.ntmps35, List.size_toArray, List.length_cons, List.length_nil, Nat.reduceAdd, Nat.reduceSub, Array.replicate_succ, Array.replicate_zero, List.push_toArray, List.append_toArray, List.nil_append, List.cons_append]
  gi_wp2
  obtain ⟨W0, hW0⟩ : ∃ W0, w.alloc (.cells #[.slice none 0 0] 52) = W0 := ⟨_, rfl⟩
  have hs0 : W0.heap.size = w.heap.size + 1 := by rw [← hW0]; simp
  have hr0 : Boxed W0 w.heap.size 52 (.slice none 0 0) := by rw [← hW0]; exact Boxed.new w 52 (.slice none 0 0)
  have hb0 : Below w.heap.size w W0 := by rw [← hW0]; exact (Below.refl _ w).alloc (Nat.le_refl _) _
  rw [hW0]
  clear hW0
  refine range_law (gf := gf) (lb := lb) rfl eg hseq (fun k h => by have := hG k h; omega) (fun k o hk ho => (hb0.block _ (hG k hk)).trans (hw k o hk ho)) (fun _ => rfl) hq
    (fun pre V => (∃ v, Boxed V w.heap.size 52 v ∧ V.ownsRow (w.heap.size + 1 + (K + 2)) 36 2 v pre.length (flat pre)) ∧ Below w.heap.size w V) (fun _ _ _ => False)
    (Bears.and (bears_row2 _ (by omega)) (Bears.below (by omega) (by omega))) (fun _ => Bears.pure _ _ _) ⟨⟨_, hr0, World.ownsRow_nil _ _ _ _⟩, hb0⟩ ?round ?done ?stop
  case round =>
    rintro l' pre x V ⟨⟨v, hv, hrow⟩, hB⟩ hsz hpre
    have hpl : pre.length ≤ 1000 := by
      have h1 := hpre.length_le
      simp at h1
      omega
    unfold encP
    gi_wp2
    refine ⟨Kept.alloc _ _, ⟨⟨v, hv.alloc _, hrow.alloc _⟩, below_a hB _⟩, fun W₂ hg2 ⟨⟨v2, hv2, hrow2⟩, hB2⟩ hs2 => ?_⟩
    have hsx : W₂.heap[V.heap.size]? = some (.cells #[.int .u64 (x.1.toNat : Int), .int .u64 (x.2.toNat : Int)] 36 (0, 0)) := (hg2.block V.heap.size (by simp) (fun e => by have := Option.some.inj e; omega)).trans (World.alloc_heap_new V _)
    have q0 : W₂.cell? ⟨V.heap.size, 0, none⟩ = some (.int .u64 (x.1.toNat : Int)) := blk_cell hsx rfl
    have q1 : W₂.cell? ⟨V.heap.size, 1, none⟩ = some (.int .u64 (x.2.toNat : Int)) := blk_cell hsx rfl
    have hc := hv2.cell
    gi_wp2_with (gi_at_builtin; refine wpListIn_append_own _ rfl _ _ 52 rfl (w.heap.size + 1 + (K + 2)) 36 i0 (.agg #[.int .u64 0, .int .u64 0]) 2 16 Try.underlying52 hi0 hz0 hz1 hz2 rfl (by decide) _ _ _ rfl (hrow2.alloc _) ⟨W₂.heap.size, 0, none⟩ 1 1 [.int .u64 (x.1.toNat : Int), .int .u64 (x.2.toNat : Int)] rfl rfl (pair_cells _ _) (pair_one _) (by unfold maxLen; omega) (by omega) (by simp; omega) ?_; intro v' w1 hown' hgrow _; obtain ⟨g', cap', rfl⟩ := ownsRow_succ hown'; have RS := row_step (n0 := w.heap.size) hv2 hrow2 (by omega) (by omega) (Nat.le_refl _) hown' hgrow; obtain ⟨hv1, hv3, hr3, hb3, hz3, hall⟩ := RS; have hc1 := hv1.cell; have hf1 := hv1.frozen)
    refine ⟨⟨hz3, fun k o hk hq' => (hall k o hk ?_ ?_).2⟩, ⟨⟨_, hv3, ?_⟩, hB2.trans hb3⟩⟩
    · rintro rfl
      rcases hq' with (h | h) | h
      · exact absurd (hG _ h) (by omega)
      · omega
      · omega
    · rcases hq' with (h | h) | h
      · exact .inl (by have := hG _ h; omega)
      · exact .inl (by omega)
      · exact .inr fun cs fz e => hq2 cs fz (e ▸ h.2)
    · rw [flat_snoc, List.length_append]
      exact hr3
  case done =>
    rintro V ⟨⟨v, hv, hrow⟩, hB⟩ hK _
    have hc := hv.cell
    gi_wp2
    refine ⟨by simp, .inl ⟨_, _, rfl, run_takeDeferred hK, ?_⟩⟩
    exact ⟨_, results_tmp rfl _ _ _, v, rfl, ownsRow_putObj hrow _ hK rfl, hB.grown (putObj_grown V _ _) hB.size (fun k e => by cases e; omega)⟩
  case stop =>
    rintro c pre V _ h _
    exact h.elim
set_option maxRecDepth 100000 in
set_option maxHeartbeats 2000000 in
theorem collect_in {gf K : Nat} {lb : Array Value} {full : List Pair} {G : Nat → Prop} {q : Obj → Prop} {w0 : World} (eg : ∀ args w, (callFunc gf args).run Try.prog w = .ok (.enter gf args) w)
    (hseq : SeqG Try.prog gf lb (fun x : Pair => #[encP x]) full G K q w0) (w : World) (hG : ∀ k, G k → k < w.heap.size) (hw : ∀ k o, G k → w0.heap[k]? = some o → w.heap[k]? = some o)
    (hq : ∀ o : Obj, o.isCells = false → q o) (hq2 : ∀ cs fz, ¬ q (.cells cs 36 fz)) (hq3 : ∀ cs fz, ¬ q (.cells cs 52 fz)) (hlen : full.length ≤ 1000) (m : Nat) :
    CallsIn Fence.wide m Try.prog 26 #[.func (.func gf) #[] lb] w fun e w' => ∃ v, e = .returned v ∧ w'.ownsRow (w.heap.size + 1 + (K + 2)) 36 2 v full.length (flat full) ∧ Below w.heap.size w w' := by
  have hdd : ∀ k : Nat, (Fence.wide.depth.isSome = true → 1 ≤ k) := fun k h => by cases h
  refine callsIn_of_wp Try.func26 rfl trivial ?_ rfl
  simp only [Try.ntmps26, List.size_toArray, List.length_cons, List.length_nil, Nat.reduceAdd, Nat.reduceSub, Array.replicate_succ, Array.replicate_zero, List.push_toArray, List.append_toArray, List.nil_append, List.cons_append]
  gi_wp2_with ((try refine ⟨trivial, ?_⟩); (try refine ⟨hdd _, ?_⟩); gi_at_call 35; refine (appendSeq_in eg hseq w hG hw hq hq2 hq3 hlen _).mono ?_; rintro e w' ⟨v, rfl, hown, hb⟩)
  go_ret
  exact ⟨v, rfl, hown, hb⟩
end Go.Proofs.Ytchmiaeajkpijaa

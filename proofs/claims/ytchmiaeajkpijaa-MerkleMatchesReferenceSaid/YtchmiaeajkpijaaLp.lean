import Derived.Test.YtchmiaeajkpijaaLh
import Derived.Maps.AppendAt
namespace Go.Proofs.Ytchmiaeajkpijaa
open Go.RowKit Go.Shelf
attribute [local go_sem] Oper.semAt_some
set_option linter.unusedVariables false

/-! 'Open'. -/
set_option maxHeartbeats 1000000 in
theorem open_err (l : List (BitVec 64)) (v : Value) (i : Int) (w : World) (hv : U64At w v l) (he : placeE l.length i ≠ 0) :
    Calls Try.prog 16 #[v, .int .i64 i] w fun e w' => e = .returned (.tuple #[.slice none 0 0, .int .i64 (placeE l.length i)]) ∧ Below w.heap.size w w' := by
  obtain ⟨hm, p, c, rfl, c1, c2, hpn, h2⟩ := hv
  clear h2 hpn
  have PL := hid (fun W => place_any l.length i W)
  have t1 : (placeE l.length i == 0) = false := by simpa using he
  have t2 : (placeE l.length i != 0) = true := by simpa using he
  clear he
  generalize placeE l.length i = E at *
  go_enter Try.func16, Try.ntmps16
  go_wp2_with fail
  refine (PL.out _).mono ?_
  rintro e w1 ⟨rfl, rfl⟩
  go_wp2
  go_ret2
  exact ⟨rfl, (Below.refl _ _).alloc (Nat.le_refl _) _⟩

theorem U64At.part {w : World} {b o c : Nat} {l : List (BitVec 64)} (s : Sib) (h1 : l.length ≤ c) (h2 : c ≤ 9223372036854775807) (hm : l.length ≤ 1000000) (hs : s.lo < s.hi) (hk : s.hi ≤ l.length) (hc : ∀ i (hi : i < l.length), w.cell? ⟨b, o + i, none⟩ = some (.int .u64 (l[i].toNat : Int))) :
    U64At w (.slice (some ⟨b, o + s.lo, none⟩) (s.hi - s.lo) (c - s.lo)) (partOf l s) := by
  have hl : (partOf l s).length = s.hi - s.lo := by unfold partOf; rw [List.length_drop, List.length_take]; omega
  refine ⟨by omega, _, _, by rw [hl], by omega, by omega, (fun h => by cases h), fun h0 => ⟨b, o + s.lo, rfl, fun i hi => ?_⟩⟩
  rw [show o + s.lo + i = o + (s.lo + i) by omega, hc (s.lo + i) (by omega)]
  simp [partOf]
theorem U64At.of_own {w : World} {base n : Nat} {v : Value} {l : List (BitVec 64)} (h : w.ownsRow base 23 1 v n (l.map fun x => .int .u64 (x.toNat : Int))) (hn : l.length ≤ 1000000) : U64At w v l := by
  have hl : l.length = n := by have := h.1; simpa using this
  rcases h.2 with ⟨rfl, h0⟩ | ⟨g, cap, cur, rfl, -, -, h1, h2, -⟩
  · obtain rfl : l = [] := List.eq_nil_of_length_eq_zero (by omega)
    exact U64At.nil w
  · unfold maxLen at h2
    refine ⟨hn, _, _, by rw [hl], by omega, by omega, (fun h => by cases h), fun _ => ⟨g, 0, rfl, fun i hi => ?_⟩⟩
    have := h.cells (g := g) rfl i (.int .u64 (l[i].toNat : Int)) (by simp [hi])
    have e1 : (⟨g, 0, none⟩ : Addr).add i = ⟨g, 0 + i, none⟩ := by first | (simp [Addr.add]; done) | (simp [Addr.add]; omega)
    rwa [e1] at this
/-- What has come in a path. -/
def tops (l : List (BitVec 64)) (pre : List Sib) : List Value := pre.map fun s => .int .u64 ((topB (partOf l s)).toNat : Int)
theorem tops_full (l : List (BitVec 64)) (i : Nat) : tops l (sibs 0 l.length i) = (pathB l i).map fun x => .int .u64 (x.toNat : Int) := by simp [tops, pathB]
theorem bears_row {B K pb base : Nat} {t e : TypeId} {k : List Sib → Nat} (f : List Sib → List Value) (h : pb < B) (h2 : B + K ≤ base := by omega) : Bears B K (fun s W => ∃ v, Boxed W pb t v ∧ W.ownsRow base e 1 v (k s) (f s)) := by
  rintro s W W' row ⟨v, h1, h3⟩ hg ht
  refine ⟨v, h1.kept hg (fun e => by have := (ht pb e.symm).1; omega), h3.kept hg ?_⟩
  rcases h3.2 with ⟨rfl, -⟩ | ⟨g, cap, cur, rfl, hb, hh, -⟩
  · exact .inl rfl
  · refine .inr fun e => ?_
    rcases (ht g e.symm).2 with ⟨o, ho, hc⟩ | h4
    · rw [hh] at ho; cases ho; cases hc
    · omega
set_option maxRecDepth 100000 in
set_option maxHeartbeats 2000000 in
theorem open_in (l : List (BitVec 64)) (b o c : Nat) (i : Nat) (hi : i < l.length) (hn : l.length ≤ 4096) (c1 : l.length ≤ c) (c2 : c ≤ 9223372036854775807) (m : Nat) (w : World) (hc : ∀ i (hi : i < l.length), w.cell? ⟨b, o + i, none⟩ = some (.int .u64 (l[i].toNat : Int))) :
    CallsIn Fence.wide m Try.prog 16 #[.slice (some ⟨b, o, none⟩) l.length c, .int .i64 (i : Int)] w fun e w' => ∃ v, e = .returned (.tuple #[v, .int .i64 0]) ∧ U64At w' v (pathB l i) ∧ Below w.heap.size w w' := by
  have hdd : ∀ k : Nat, (Fence.wide.depth.isSome = true → 1 ≤ k) := fun k h => by cases h
  obtain ⟨i0, hi0, hz0, hz1, hz2⟩ := info_parts infoU64
  have pl : placeE l.length i = 0 := by
    rcases place_cases l.length i with h1 | h1 | h1 | h1 <;> omega
  have PL := hid (fun W => (callsIn_wide (n := m - 1)).2 (pl ▸ place_any l.length i W))
  clear pl
  refine callsIn_of_wp_marks Try.func16 rfl trivial ?_ rfl
  simp only [Try.ntmps16, List.size_toArray, List.length_cons, List.length_nil, Nat.reduceAdd, Nat.reduceSub, Array.replicate_succ, Array.replicate_zero, List.push_toArray, List.append_toArray, List.nil_append, List.cons_append]
  gi_wp2_with (first
    | ((try refine ⟨trivial, ?_⟩); (try refine ⟨hdd _, ?_⟩); gi_at_call 24; refine (PL.out _).mono ?_; clear PL; rintro e W0 ⟨rfl, rfl⟩)
    | ((try refine ⟨trivial, ?_⟩); (try refine ⟨hdd _, ?_⟩); gi_at_call 31; refine (siblings_in _ _ _ _).mono ?_; rintro e W1 ⟨rfl, hW1⟩))
  have hs1 : W1.heap.size = w.heap.size + 4 := by rw [← hW1]; simp [sibW]
  have hlx : Boxed W1 w.heap.size 22 (.slice (some ⟨b, o, none⟩) l.length c) := by rw [← hW1]; exact (((Boxed.new w _ _).alloc _).alloc _).alloc _
  have hpx : Boxed W1 (w.heap.size + 1) 22 (.slice none 0 0) := by
    rw [← hW1]
    have := Boxed.new (w.alloc (.cells #[.slice (some ⟨b, o, none⟩) l.length c] 22)) 22 (.slice none 0 0)
    rw [World.size_alloc] at this
    exact (this.alloc _).alloc _
  have hn1 : Boxed W1 (w.heap.size + 1 + 1) 3 (.int .i64 (l.length : Int)) := by
    rw [← hW1]
    have := Boxed.new ((w.alloc (.cells #[.slice (some ⟨b, o, none⟩) l.length c] 22)).alloc (.cells #[.slice none 0 0] 22)) 3 (.int .i64 (l.length : Int))
    rw [World.size_alloc, World.size_alloc] at this
    exact this.alloc _
  have hi1 : Boxed W1 (w.heap.size + 1 + 1 + 1) 3 (.int .i64 (i : Int)) := by
    rw [← hW1]
    have := Boxed.new (((w.alloc (.cells #[.slice (some ⟨b, o, none⟩) l.length c] 22)).alloc (.cells #[.slice none 0 0] 22)).alloc (.cells #[.int .i64 (l.length : Int)] 3)) 3 (.int .i64 (i : Int))
    rw [World.size_alloc, World.size_alloc, World.size_alloc] at this
    exact this
  have hbel : Below w.heap.size w W1 := by rw [← hW1]; exact ((((Below.refl _ w).alloc (Nat.le_refl _) _).alloc (by simp) _).alloc (by simp; omega) _).alloc (by simp; omega) _
  clear hW1
  refine range_law (gf := 39) (lb := #[.pointer (some ⟨w.heap.size + 1 + 1, 0, none⟩), .pointer (some ⟨w.heap.size + 1 + 1 + 1, 0, none⟩)]) rfl (enters_of Try.func39 (by kernel_rfl) rfl)
    (sib_seq (fun o => o.isCells = false) l.length i _ _ hi (by omega) W1 hn1 hi1) (by rintro k (rfl | rfl) <;> omega) (fun _ _ _ h => h) (fun _ => rfl) (fun _ h => h)
    (fun pre W => ((∃ v, Boxed W (w.heap.size + 1) 22 v ∧ W.ownsRow (W1.heap.size + 2) 23 1 v pre.length (tops l pre)) ∧ Boxed W w.heap.size 22 (.slice (some ⟨b, o, none⟩) l.length c)) ∧ Below w.heap.size w W) (fun _ _ _ => False)
    (Bears.and (Bears.and (bears_row _ (by omega)) (Bears.boxed _ _ (by omega))) (Bears.below (by omega) (by omega))) (fun _ => Bears.pure _ _ _) ⟨⟨⟨_, hpx, World.ownsRow_nil _ _ _ _⟩, hlx⟩, hbel⟩ ?round ?done ?stop
  case round =>
    rintro l' pre x W ⟨⟨⟨v, hpb, hown⟩, hlb⟩, hB⟩ hsz hpre
    unfold encSib
    gi_wp2
    refine ⟨Kept.alloc _ _, ⟨⟨⟨v, hpb.alloc _, hown.alloc _⟩, hlb.alloc _⟩, below_a hB _⟩, ?_⟩
    rintro W₂ hg2 ⟨⟨⟨v2, hpb2, hown2⟩, hlb2⟩, hB2⟩ hsz2
    have hsx : W₂.heap[W.heap.size]? = some (.cells #[.int .i64 (x.lo : Int), .int .i64 (x.hi : Int), .bool x.ahead] 65 (0, 0)) := (hg2.block W.heap.size (by simp) (fun e => by have := Option.some.inj e; omega)).trans (World.alloc_heap_new W _)
    have hx := sibs_in l.length 0 l.length i (by omega) (by omega) hi x (hpre.subset (by simp))
    obtain ⟨-, hx1, hx2⟩ := hx
    have hplen : pre.length ≤ 12 := by
      have h1 := hpre.length_le
      have h2 := sibs_len12 i hn
      simp at h1
      omega
    have k0 : W₂.cell? ⟨W.heap.size, 0, none⟩ = some (.int .i64 (x.lo : Int)) := by simp [World.cell?, hsx]
    have k1 : W₂.cell? ⟨W.heap.size, 1, none⟩ = some (.int .i64 (x.hi : Int)) := by simp [World.cell?, hsx]
    have k2 := hlb2.cell
    have k3 := hpb2.cell
    have t3 : ¬ c = x.lo := by omega
    have t4 : (x.lo : Int) ≤ (x.hi : Int) := by omega
    have t5 : x.hi ≤ c := by omega
    have CC := hid (fun (W' : World) (h : Below w.heap.size w W') => top_any (.slice (some ⟨b, o + x.lo, none⟩) (x.hi - x.lo) (c - x.lo)) (partOf l x) W' (U64At.part x c1 c2 (by omega) hx1 hx2 (fun i hi => cell_below h (hc i hi))))
    have HSX := hid hsx
    have HPRE := hid hpre
    clear hsx hpre
    gi_wp2
    -- REGION
    refine round_region (S := fun W' => (W'.cell? ⟨W.heap.size, 0, none⟩ = some (.int .i64 (x.lo : Int)) ∧ W'.cell? ⟨W.heap.size, 1, none⟩ = some (.int .i64 (x.hi : Int)) ∧ W'.cell? ⟨w.heap.size, 0, none⟩ = some (.slice (some ⟨b, o, none⟩) l.length c))) (by kernel_rfl) (by rfl) ?_ (fun hHeld => ?_)
    · exact ⟨k0, k1, k2⟩
    refine wpAnyH_take (i := 1) (oi := ({ dst := some 22, op := Op.load 22 (Operand.tmp 2), type := 22, pos := "merkle.go:21", after := #[], guard := none } : Oper)) (v := ?_) rfl (by kernel_rfl) (by kernel_rfl) (by kernel_rfl) (fun _ _ _ h => h) (Or.inl ⟨by rfl, ?_⟩) (by assumption) ?_
    rotate_left
    · intro w hSw; (try dsimp only at hSw); go_simp <;> with_reducible rfl
    (try simp only [Act.put, List.setIfInBounds_toArray, List.set_cons_zero, List.set_cons_succ])
    refine wpAnyH_take (i := 2) (oi := ({ dst := some 23, op := Op.fieldAddr 65 (Operand.tmp 8) 0, type := 0, pos := "merkle.go:21", after := #[], guard := none } : Oper)) (v := ?_) rfl (by kernel_rfl) (by kernel_rfl) (by kernel_rfl) (fun _ _ _ h => h) (Or.inl ⟨by rfl, ?_⟩) (by assumption) ?_
    rotate_left
    · intro w hSw; (try dsimp only at hSw); go_simp <;> with_reducible rfl
    (try simp only [Act.put, List.setIfInBounds_toArray, List.set_cons_zero, List.set_cons_succ])
    refine wpAnyH_take (i := 3) (oi := ({ dst := some 24, op := Op.load 3 (Operand.tmp 23), type := 3, pos := "merkle.go:21", after := #[{ on := 2, ground := Ground.data }], guard := none } : Oper)) (v := ?_) rfl (by kernel_rfl) (by kernel_rfl) (by kernel_rfl) (fun _ _ _ h => h) (Or.inl ⟨by rfl, ?_⟩) (by assumption) ?_
    rotate_left
    · intro w hSw; (try dsimp only at hSw); go_simp <;> with_reducible rfl
    (try simp only [Act.put, List.setIfInBounds_toArray, List.set_cons_zero, List.set_cons_succ])
    refine wpAnyH_take (i := 4) (oi := ({ dst := some 25, op := Op.fieldAddr 65 (Operand.tmp 8) 1, type := 0, pos := "merkle.go:21", after := #[], guard := none } : Oper)) (v := ?_) rfl (by kernel_rfl) (by kernel_rfl) (by kernel_rfl) (fun _ _ _ h => h) (Or.inl ⟨by rfl, ?_⟩) (by assumption) ?_
    rotate_left
    · intro w hSw; (try dsimp only at hSw); go_simp <;> with_reducible rfl
    (try simp only [Act.put, List.setIfInBounds_toArray, List.set_cons_zero, List.set_cons_succ])
    refine wpAnyH_take (i := 5) (oi := ({ dst := some 26, op := Op.load 3 (Operand.tmp 25), type := 3, pos := "merkle.go:21", after := #[{ on := 4, ground := Ground.data }], guard := none } : Oper)) (v := ?_) rfl (by kernel_rfl) (by kernel_rfl) (by kernel_rfl) (fun _ _ _ h => h) (Or.inl ⟨by rfl, ?_⟩) (by assumption) ?_
    rotate_left
    · intro w hSw; (try dsimp only at hSw); go_simp <;> with_reducible rfl
    (try simp only [Act.put, List.setIfInBounds_toArray, List.set_cons_zero, List.set_cons_succ])
    refine wpAnyH_take (i := 6) (oi := ({ dst := some 27, op := Op.slice 22 (Operand.tmp 22) (some (Operand.tmp 24)) (some (Operand.tmp 26)) none, type := 22, pos := "merkle.go:21", after := #[{ on := 1, ground := Ground.data }, { on := 3, ground := Ground.data }, { on := 5, ground := Ground.data }], guard := none } : Oper)) (v := ?_) rfl (by kernel_rfl) (by kernel_rfl) (by kernel_rfl) (fun _ _ _ h => h) (Or.inl ⟨by rfl, ?_⟩) (by assumption) ?_
    rotate_left
    · intro w hSw; (try dsimp only at hSw); go_simp <;> with_reducible rfl
    (try simp only [Act.put, List.setIfInBounds_toArray, List.set_cons_zero, List.set_cons_succ])
    refine wpAnyH_ready (rs := [0, 7]) (by kernel_rfl) (by simp) ?_
    refine (AllReadyH.cons (o := ({ dst := some 21, op := Op.load 22 (Operand.tmp 7), type := 22, pos := "merkle.go:21", after := #[], guard := none } : Oper)) rfl (fun K hK => ?_) (AllReadyH.cons (o := ({ dst := some 28, op := Op.call { callee := Callee.value (Operand.func 15), args := #[Operand.tmp 27], argTypes := #[22] }, type := 23, pos := "merkle.go:21", after := #[{ on := 6, ground := Ground.data }], guard := none } : Oper)) rfl (fun K hK => ?_) AllReadyH.nil))
    · skip
      go_simp
      refine hK.out _ _ ?_ (fun hHeld => ?_)
      · exact hHeld
      clear hK K
      (try simp only [Act.put, List.setIfInBounds_toArray, List.set_cons_zero, List.set_cons_succ])
      refine wpAnyH_ready (rs := [7]) (by kernel_rfl) (by simp) ?_
      refine (AllReadyH.cons (o := ({ dst := some 28, op := Op.call { callee := Callee.value (Operand.func 15), args := #[Operand.tmp 27], argTypes := #[22] }, type := 23, pos := "merkle.go:21", after := #[{ on := 6, ground := Ground.data }], guard := none } : Oper)) rfl (fun K hK => ?_) AllReadyH.nil)
      go_simp
      go_at_call 15
      refine (CC.out _ hB2.drew).mono ?_
      rintro e y ⟨rfl, nd, rfl⟩
      refine hK.out _ _ ?_ (fun hHeld => ?_)
      · exact hHeld
      clear hK K
      (try simp only [Act.put, List.setIfInBounds_toArray, List.set_cons_zero, List.set_cons_succ])
      refine wpAnyH_ready (rs := [8]) (by kernel_rfl) (by simp) ?_
      refine (AllReadyH.cons (o := ({ dst := some 29, op := Op.buildSlice 22 1 #[(0, Operand.tmp 28)], type := 22, pos := "merkle.go:21", after := #[{ on := 7, ground := Ground.data }], guard := none } : Oper)) rfl (fun K hK => ?_) AllReadyH.nil)
      go_simp
      refine hK.out _ _ ?_ (fun hHeld => ?_)
      · exact ⟨cell_alloc _ hHeld.1, cell_alloc _ hHeld.2.1, cell_alloc _ hHeld.2.2⟩
      clear hK K
      (try simp only [Act.put, List.setIfInBounds_toArray, List.set_cons_zero, List.set_cons_succ])
      refine wpAnyH_ready (rs := [9]) (by kernel_rfl) (by simp) ?_
      refine (AllReadyH.cons (o := ({ dst := some 30, op := Op.call { callee := Callee.builtin Builtin.append, args := #[Operand.tmp 21, Operand.tmp 29], argTypes := #[22, 22] }, type := 22, pos := "merkle.go:21", after := #[{ on := 0, ground := Ground.data }, { on := 8, ground := Ground.data }, { on := 7, ground := Ground.chain }], guard := none } : Oper)) rfl (fun K hK => ?_) AllReadyH.nil)
      refine step_app1 (by rfl) (.tmp 21) (.tmp 29) 22 (by rfl) (W1.heap.size + 2) 23 i0 _ 8 Try.underlying22 hi0 hz0 hz1 hz2 (by rfl) (by decide) v2 pre.length (tops l pre) (by rfl) (hown2.alloc _) _ (.int .u64 ((topB (partOf l x)).toNat : Int)) 1 (by rfl) (Boxed.cell (Boxed.new _ _ _)) (by rfl) (by omega) (by simp; omega) ?_
      intro v' w1 hown' hgrow
      obtain ⟨g', cap', rfl⟩ := ownsRow_succ hown'
      have RS := row_step (n0 := w.heap.size) (show Boxed (W₂.drewN (1 + nd)) _ _ _ from hpb2) (show (W₂.drewN (1 + nd)).ownsRow _ _ _ _ _ _ from hown2) (by omega) (by simp; omega) (by omega) hown' hgrow
      obtain ⟨hv1, hv2, hr2, hb2, hz2', hall⟩ := RS
      have hc1 := hv1.cell
      have hf1 := hv1.frozen
      have Z0 := hall _ _ HSX.out (by omega) (.inr (by intro cs fz e; cases e))
      have Z1 := hall w.heap.size _ hlb2 (by omega) (.inl (by omega))
      have HA := hid hall; clear hall
      have HG := hid hgrow; clear hgrow
      have HO := hid hown'; clear hown'
      refine hK.out _ _ ?_ (fun hHeld => ?_)
      · exact ⟨blk_cell Z0.1 rfl, blk_cell Z0.1 rfl, Boxed.cell (t := 22) Z1.1⟩
      clear hK K
      (try simp only [Act.put, List.setIfInBounds_toArray, List.set_cons_zero, List.set_cons_succ])
      refine wpAnyH_ready (rs := [10]) (by kernel_rfl) (by simp) ?_
      refine (AllReadyH.cons (o := ({ dst := none, op := Op.store 22 (Operand.tmp 7) (Operand.tmp 30), type := 0, pos := "merkle.go:21", after := #[{ on := 9, ground := Ground.data }, { on := 9, ground := Ground.chain }, { on := 0, ground := Ground.phase }, { on := 1, ground := Ground.phase }, { on := 2, ground := Ground.phase }, { on := 3, ground := Ground.phase }, { on := 4, ground := Ground.phase }, { on := 5, ground := Ground.phase }, { on := 6, ground := Ground.phase }, { on := 7, ground := Ground.phase }, { on := 8, ground := Ground.phase }, { on := 9, ground := Ground.phase }], guard := none } : Oper)) rfl (fun K hK => ?_) AllReadyH.nil)
      go_simp
      refine hK.out _ _ ?_ (fun hHeld => ?_)
      · exact ⟨blk_cell Z0.2 rfl, blk_cell Z0.2 rfl, Boxed.cell (t := 22) Z1.2⟩
      clear hK K
      (try simp only [Act.put, List.setIfInBounds_toArray, List.set_cons_zero, List.set_cons_succ])
      refine wpAnyH_done (by kernel_rfl) ?_ _
      refine onlyN_mk ?_
      clear hHeld
      gi_wp2
      refine ⟨⟨hz2', fun k o hk hq => (HA.out k o hk ?_ ?_).2⟩, ⟨⟨_, hv2, ?_⟩, Z1.2⟩, (below_drewN hB2 _).trans hb2⟩
      · rcases hq with (h | h) | h <;> omega
      · rcases hq with (h | h) | h
        · exact .inl (by omega)
        · exact .inl (by omega)
        · exact .inr fun cs fz e => by rw [e] at h; exact absurd h.2 (by simp [Obj.isCells])
      · simpa [tops] using hr2
    · skip
      go_simp
      go_at_call 15
      refine (CC.out _ hB2.drew).mono ?_
      rintro e y ⟨rfl, nd, rfl⟩
      refine hK.out _ _ ?_ (fun hHeld => ?_)
      · exact hHeld
      clear hK K
      (try simp only [Act.put, List.setIfInBounds_toArray, List.set_cons_zero, List.set_cons_succ])
      refine wpAnyH_ready (rs := [0, 8]) (by kernel_rfl) (by simp) ?_
      refine (AllReadyH.cons (o := ({ dst := some 21, op := Op.load 22 (Operand.tmp 7), type := 22, pos := "merkle.go:21", after := #[], guard := none } : Oper)) rfl (fun K hK => ?_) (AllReadyH.cons (o := ({ dst := some 29, op := Op.buildSlice 22 1 #[(0, Operand.tmp 28)], type := 22, pos := "merkle.go:21", after := #[{ on := 7, ground := Ground.data }], guard := none } : Oper)) rfl (fun K hK => ?_) AllReadyH.nil))
      · skip
        go_simp
        refine hK.out _ _ ?_ (fun hHeld => ?_)
        · exact hHeld
        clear hK K
        (try simp only [Act.put, List.setIfInBounds_toArray, List.set_cons_zero, List.set_cons_succ])
        refine wpAnyH_ready (rs := [8]) (by kernel_rfl) (by simp) ?_
        refine (AllReadyH.cons (o := ({ dst := some 29, op := Op.buildSlice 22 1 #[(0, Operand.tmp 28)], type := 22, pos := "merkle.go:21", after := #[{ on := 7, ground := Ground.data }], guard := none } : Oper)) rfl (fun K hK => ?_) AllReadyH.nil)
        go_simp
        refine hK.out _ _ ?_ (fun hHeld => ?_)
        · exact ⟨cell_alloc _ hHeld.1, cell_alloc _ hHeld.2.1, cell_alloc _ hHeld.2.2⟩
        clear hK K
        (try simp only [Act.put, List.setIfInBounds_toArray, List.set_cons_zero, List.set_cons_succ])
        refine wpAnyH_ready (rs := [9]) (by kernel_rfl) (by simp) ?_
        refine (AllReadyH.cons (o := ({ dst := some 30, op := Op.call { callee := Callee.builtin Builtin.append, args := #[Operand.tmp 21, Operand.tmp 29], argTypes := #[22, 22] }, type := 22, pos := "merkle.go:21", after := #[{ on := 0, ground := Ground.data }, { on := 8, ground := Ground.data }, { on := 7, ground := Ground.chain }], guard := none } : Oper)) rfl (fun K hK => ?_) AllReadyH.nil)
        refine step_app1 (by rfl) (.tmp 21) (.tmp 29) 22 (by rfl) (W1.heap.size + 2) 23 i0 _ 8 Try.underlying22 hi0 hz0 hz1 hz2 (by rfl) (by decide) v2 pre.length (tops l pre) (by rfl) (hown2.alloc _) _ (.int .u64 ((topB (partOf l x)).toNat : Int)) 1 (by rfl) (Boxed.cell (Boxed.new _ _ _)) (by rfl) (by omega) (by simp; omega) ?_
        intro v' w1 hown' hgrow
        obtain ⟨g', cap', rfl⟩ := ownsRow_succ hown'
        have RS := row_step (n0 := w.heap.size) (show Boxed (W₂.drewN (1 + nd)) _ _ _ from hpb2) (show (W₂.drewN (1 + nd)).ownsRow _ _ _ _ _ _ from hown2) (by omega) (by simp; omega) (by omega) hown' hgrow
        obtain ⟨hv1, hv2, hr2, hb2, hz2', hall⟩ := RS
        have hc1 := hv1.cell
        have hf1 := hv1.frozen
        have Z0 := hall _ _ HSX.out (by omega) (.inr (by intro cs fz e; cases e))
        have Z1 := hall w.heap.size _ hlb2 (by omega) (.inl (by omega))
        have HA := hid hall; clear hall
        have HG := hid hgrow; clear hgrow
        have HO := hid hown'; clear hown'
        refine hK.out _ _ ?_ (fun hHeld => ?_)
        · exact ⟨blk_cell Z0.1 rfl, blk_cell Z0.1 rfl, Boxed.cell (t := 22) Z1.1⟩
        clear hK K
        (try simp only [Act.put, List.setIfInBounds_toArray, List.set_cons_zero, List.set_cons_succ])
        refine wpAnyH_ready (rs := [10]) (by kernel_rfl) (by simp) ?_
        refine (AllReadyH.cons (o := ({ dst := none, op := Op.store 22 (Operand.tmp 7) (Operand.tmp 30), type := 0, pos := "merkle.go:21", after := #[{ on := 9, ground := Ground.data }, { on := 9, ground := Ground.chain }, { on := 0, ground := Ground.phase }, { on := 1, ground := Ground.phase }, { on := 2, ground := Ground.phase }, { on := 3, ground := Ground.phase }, { on := 4, ground := Ground.phase }, { on := 5, ground := Ground.phase }, { on := 6, ground := Ground.phase }, { on := 7, ground := Ground.phase }, { on := 8, ground := Ground.phase }, { on := 9, ground := Ground.phase }], guard := none } : Oper)) rfl (fun K hK => ?_) AllReadyH.nil)
        go_simp
        refine hK.out _ _ ?_ (fun hHeld => ?_)
        · exact ⟨blk_cell Z0.2 rfl, blk_cell Z0.2 rfl, Boxed.cell (t := 22) Z1.2⟩
        clear hK K
        (try simp only [Act.put, List.setIfInBounds_toArray, List.set_cons_zero, List.set_cons_succ])
        refine wpAnyH_done (by kernel_rfl) ?_ _
        refine onlyN_mk ?_
        clear hHeld
        gi_wp2
        refine ⟨⟨hz2', fun k o hk hq => (HA.out k o hk ?_ ?_).2⟩, ⟨⟨_, hv2, ?_⟩, Z1.2⟩, (below_drewN hB2 _).trans hb2⟩
        · rcases hq with (h | h) | h <;> omega
        · rcases hq with (h | h) | h
          · exact .inl (by omega)
          · exact .inl (by omega)
          · exact .inr fun cs fz e => by rw [e] at h; exact absurd h.2 (by simp [Obj.isCells])
        · simpa [tops] using hr2
      · skip
        have k3a := cell_alloc (w := W₂.drewN (1 + nd)) (.cells #[.int .u64 ((topB (partOf l x)).toNat : Int)] 23) k3
        go_simp
        refine hK.out _ _ ?_ (fun hHeld => ?_)
        · exact ⟨cell_alloc _ hHeld.1, cell_alloc _ hHeld.2.1, cell_alloc _ hHeld.2.2⟩
        clear hK K
        (try simp only [Act.put, List.setIfInBounds_toArray, List.set_cons_zero, List.set_cons_succ])
        refine wpAnyH_ready (rs := [0]) (by kernel_rfl) (by simp) ?_
        refine (AllReadyH.cons (o := ({ dst := some 21, op := Op.load 22 (Operand.tmp 7), type := 22, pos := "merkle.go:21", after := #[], guard := none } : Oper)) rfl (fun K hK => ?_) AllReadyH.nil)
        go_simp
        refine hK.out _ _ ?_ (fun hHeld => ?_)
        · exact hHeld
        clear hK K
        (try simp only [Act.put, List.setIfInBounds_toArray, List.set_cons_zero, List.set_cons_succ])
        refine wpAnyH_ready (rs := [9]) (by kernel_rfl) (by simp) ?_
        refine (AllReadyH.cons (o := ({ dst := some 30, op := Op.call { callee := Callee.builtin Builtin.append, args := #[Operand.tmp 21, Operand.tmp 29], argTypes := #[22, 22] }, type := 22, pos := "merkle.go:21", after := #[{ on := 0, ground := Ground.data }, { on := 8, ground := Ground.data }, { on := 7, ground := Ground.chain }], guard := none } : Oper)) rfl (fun K hK => ?_) AllReadyH.nil)
        refine step_app1 (by rfl) (.tmp 21) (.tmp 29) 22 (by rfl) (W1.heap.size + 2) 23 i0 _ 8 Try.underlying22 hi0 hz0 hz1 hz2 (by rfl) (by decide) v2 pre.length (tops l pre) (by rfl) (hown2.alloc _) _ (.int .u64 ((topB (partOf l x)).toNat : Int)) 1 (by rfl) (Boxed.cell (Boxed.new _ _ _)) (by rfl) (by omega) (by simp; omega) ?_
        intro v' w1 hown' hgrow
        obtain ⟨g', cap', rfl⟩ := ownsRow_succ hown'
        have RS := row_step (n0 := w.heap.size) (show Boxed (W₂.drewN (1 + nd)) _ _ _ from hpb2) (show (W₂.drewN (1 + nd)).ownsRow _ _ _ _ _ _ from hown2) (by omega) (by simp; omega) (by omega) hown' hgrow
        obtain ⟨hv1, hv2, hr2, hb2, hz2', hall⟩ := RS
        have hc1 := hv1.cell
        have hf1 := hv1.frozen
        have Z0 := hall _ _ HSX.out (by omega) (.inr (by intro cs fz e; cases e))
        have Z1 := hall w.heap.size _ hlb2 (by omega) (.inl (by omega))
        have HA := hid hall; clear hall
        have HG := hid hgrow; clear hgrow
        have HO := hid hown'; clear hown'
        refine hK.out _ _ ?_ (fun hHeld => ?_)
        · exact ⟨blk_cell Z0.1 rfl, blk_cell Z0.1 rfl, Boxed.cell (t := 22) Z1.1⟩
        clear hK K
        (try simp only [Act.put, List.setIfInBounds_toArray, List.set_cons_zero, List.set_cons_succ])
        refine wpAnyH_ready (rs := [10]) (by kernel_rfl) (by simp) ?_
        refine (AllReadyH.cons (o := ({ dst := none, op := Op.store 22 (Operand.tmp 7) (Operand.tmp 30), type := 0, pos := "merkle.go:21", after := #[{ on := 9, ground := Ground.data }, { on := 9, ground := Ground.chain }, { on := 0, ground := Ground.phase }, { on := 1, ground := Ground.phase }, { on := 2, ground := Ground.phase }, { on := 3, ground := Ground.phase }, { on := 4, ground := Ground.phase }, { on := 5, ground := Ground.phase }, { on := 6, ground := Ground.phase }, { on := 7, ground := Ground.phase }, { on := 8, ground := Ground.phase }, { on := 9, ground := Ground.phase }], guard := none } : Oper)) rfl (fun K hK => ?_) AllReadyH.nil)
        go_simp
        refine hK.out _ _ ?_ (fun hHeld => ?_)
        · exact ⟨blk_cell Z0.2 rfl, blk_cell Z0.2 rfl, Boxed.cell (t := 22) Z1.2⟩
        clear hK K
        (try simp only [Act.put, List.setIfInBounds_toArray, List.set_cons_zero, List.set_cons_succ])
        refine wpAnyH_done (by kernel_rfl) ?_ _
        refine onlyN_mk ?_
        clear hHeld
        gi_wp2
        refine ⟨⟨hz2', fun k o hk hq => (HA.out k o hk ?_ ?_).2⟩, ⟨⟨_, hv2, ?_⟩, Z1.2⟩, (below_drewN hB2 _).trans hb2⟩
        · rcases hq with (h | h) | h <;> omega
        · rcases hq with (h | h) | h
          · exact .inl (by omega)
          · exact .inl (by omega)
          · exact .inr fun cs fz e => by rw [e] at h; exact absurd h.2 (by simp [Obj.isCells])
        · simpa [tops] using hr2
  case done =>
    rintro W ⟨⟨⟨v, hpb, hown⟩, hlb⟩, hB⟩ hK _
    have hc := hpb.cell
    gi_wp2
    refine ⟨by simp, .inl ⟨_, _, rfl, run_takeDeferred hK, ?_⟩⟩
    refine ⟨_, results_tmp2 rfl _ _ _, v, rfl, ?_, hB.grown (putObj_grown W _ _) hB.size (fun k e => by cases e; omega)⟩
    refine U64At.of_own (n := (sibs 0 l.length i).length) (base := W1.heap.size + 2) ?_ (by unfold pathB; rw [List.length_map]; have := sibs_len12 i hn; omega)
    rw [← tops_full]
    exact ownsRow_putObj hown _ hK rfl
  case stop =>
    rintro c pre W _ h _
    exact h.elim

/-- What Open returns, of a list in memory. -/
def openOk (l : List (BitVec 64)) (i : Int) (w : World) (e : Ending) (w' : World) : Prop := ∃ v, e = .returned (.tuple #[v, .int .i64 (placeE l.length i)]) ∧ U64At w' v (if placeE l.length i = 0 then pathB l i.toNat else []) ∧ Below w.heap.size w w'
theorem mopen_any (l : List (BitVec 64)) (v : Value) (i : Int) (w : World) (hv : U64At w v l) : Calls Try.prog 16 #[v, .int .i64 i] w (openOk l i w) := by
  by_cases he : placeE l.length i = 0
  · obtain ⟨h1, h2, h3⟩ := place_ok he
    obtain ⟨hm, p, c, rfl, c1, c2, hpn, hc0⟩ := hv
    obtain ⟨b, o, rfl, hc⟩ := hc0 (by omega)
    obtain ⟨k, rfl⟩ : ∃ k : Nat, i = (k : Int) := ⟨i.toNat, by omega⟩
    refine ((callsIn_wide (n := 0)).1 (open_in l b o c k (by omega) (by omega) c1 c2 0 w hc)).mono ?_
    rintro e w' ⟨v, rfl, hu, hb⟩
    exact ⟨v, by rw [he], by rw [if_pos he]; simpa using hu, hb⟩
  · refine (open_err l v i w hv he).mono ?_
    rintro e w' ⟨rfl, hb⟩
    exact ⟨_, rfl, by rw [if_neg he]; exact U64At.nil _, hb⟩
theorem pathLen_any (n i : Nat) (hi : i < n) (hn : n ≤ 1000000) (w : World) : Calls Try.prog 25 #[.int .i64 (n : Int), .int .i64 (i : Int)] w fun e w' => e = .returned (.int .i64 ((sibs 0 n i).length : Int)) ∧ Below w.heap.size w w' := (callsIn_wide (n := 0)).1 (pathLen_in n i hi hn 0 w)
end Go.Proofs.Ytchmiaeajkpijaa

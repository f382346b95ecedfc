import Derived.Test.YtchmiaeajkpijaaLu
namespace Go.Proofs.Ytchmiaeajkpijaa
open Go.RowKit Go.Instr
set_option linter.unusedVariables false

/-! 'Same', the law's 'open' and 'check'. -/
theorem ret_bool {a b : Bool} (h : a = b) : Ending.returned (.bool a) = .returned (.bool b) := by rw [h]
theorem take_eq_next {a b : List (BitVec 64)} {k : Nat} (h : a.take k = b.take k) (ha : k < a.length) (hb : k < b.length) (e : a[k] = b[k]) : a.take (k + 1) = b.take (k + 1) := by
  rw [List.take_succ_eq_append_getElem ha, List.take_succ_eq_append_getElem hb, h, e]
set_option maxHeartbeats 1000000 in
theorem same_any (a b : List (BitVec 64)) (v u : Value) (w : World) (ha : U64At w v a) (hb : U64At w u b) :
    Calls Try.prog 9 #[v, u] w fun e w' => e = .returned (.bool (decide (a = b))) ∧ ∃ n, w' = w.drewN n := by
  obtain ⟨hm, p, c, rfl, c1, c2, hpn, h2⟩ := ha
  obtain ⟨hm', p', c', rfl, c1', c2', hpn', h2'⟩ := hb
  clear hpn hpn'
  by_cases hl : a.length = b.length
  · by_cases h0 : a.length = 0
    · have e1 := List.eq_nil_of_length_eq_zero h0
      have e2 := List.eq_nil_of_length_eq_zero (hl ▸ h0)
      subst e1
      subst e2
      clear h2 h2' hl h0
      go_enter Try.func9, Try.ntmps9
      go_wp2
      go_loop [5] (fun i => i = .int .i64 ((0 : Nat) : Int)) (fun _ => 0)
      case atStart => rfl
      case round =>
        obtain rfl := hrel
        go_wp2
        go_ret
        exact ⟨rfl, 0, rfl⟩
    · obtain ⟨b1, o1, rfl, hc1⟩ := h2 h0
      obtain ⟨b2, o2, rfl, hc2⟩ := h2' (by omega)
      have HC1 := hid hc1
      have HC2 := hid hc2
      have HL := hid hl
      clear h2 h2' hc1 hc2
      obtain ⟨N, hN⟩ : ∃ N, b.length = N := ⟨_, rfl⟩
      have HN := hid hN
      have HA := hid (show a.length = N by omega)
      rw [show a.length = N by omega] at c1 h0 hm ⊢
      rw [hN] at c1' hm' ⊢
      clear hN hl
      go_enter Try.func9, Try.ntmps9
      go_wp2
      go_loopw [5] (fun i wr => ∃ k nd : Nat, k ≤ N ∧ i = .int .i64 (k : Int) ∧ wr = w.drewN nd ∧ Hid (a.take k = b.take k)) (fun i _ => N - (intOf i).toNat)
      case atStart => exact ⟨0, 0, by omega, rfl, rfl, hid (by simp)⟩
      case round =>
        obtain ⟨k, nd, hk, rfl, rfl, HT⟩ := hrel
        by_cases hlt : k < N
        · have ha := HC1.out k (by rw [HA.out]; exact hlt)
          have hb := HC2.out k (by rw [HN.out]; exact hlt)
          have hlt' : (k : Int) < (N : Int) := by omega
          by_cases he : a[k]'(by rw [HA.out]; exact hlt) = b[k]'(by rw [HN.out]; exact hlt)
          · have HT2 := hid (take_eq_next HT.out _ _ he)
            rw [he] at ha
            clear he
            generalize b[k]'(by rw [HN.out]; exact hlt) = x at *
            go_wp2_with fail
            go_quiet (fail)
            go_wp2
            go_roundw
            case rel => exact ⟨k + 1, _, by omega, by go_num, rfl, HT2⟩
            case measure => simp [intOf]; omega
          · have HD := hid (show decide (a = b) = false by
              rw [decide_eq_false_iff_not]
              intro e
              subst e
              exact he rfl)
            have t1 := bv_ne he
            have t2 : (((a[k]'(by rw [HA.out]; exact hlt)).toNat : Int) != ((b[k]'(by rw [HN.out]; exact hlt)).toNat : Int)) = true := by rw [bne, t1]; rfl
            clear he
            generalize a[k]'(by rw [HA.out]; exact hlt) = y at *
            generalize b[k]'(by rw [HN.out]; exact hlt) = x at *
            go_wp2_with fail
            go_quiet (fail)
            go_wp2
            go_ret
            exact ⟨ret_bool HD.out.symm, _, World.drewN_drewN _ _ _⟩
        · obtain rfl : k = N := by omega
          have HD := hid (show decide (a = b) = true by
            have h1 := HT.out
            rw [List.take_of_length_le (by rw [HA.out]; exact Nat.le_refl _), List.take_of_length_le (by rw [HN.out]; exact Nat.le_refl _)] at h1
            simpa using h1)
          go_wp2
          go_ret
          exact ⟨ret_bool HD.out.symm, _, rfl⟩
  · have e : decide (a = b) = false := by simp; intro h; exact hl (by rw [h])
    rw [e]
    have t2 : ((a.length : Int) == (b.length : Int)) = false := by rw [beq_eq_false_iff_ne]; omega
    have t3 : ((a.length : Int) != (b.length : Int)) = true := by rw [bne, t2]; rfl
    clear h2 h2' hl e
    generalize a.length = n at *
    generalize b.length = k at *
    go_enter Try.func9, Try.ntmps9
    go_wp2
    go_ret
    exact ⟨rfl, 0, rfl⟩
theorem U64At.far {w w' : World} {v : Value} {l : List (BitVec 64)} {g : Nat} {cs : Array Value} {t : TypeId} {fz : Nat × Nat} (h : U64At w v l) (hg : w.heap[g]? = some (.cells cs t fz)) (hcs : ∀ (j : Nat) (x : Int), cs[j]? ≠ some (Value.int .u64 x)) (hgr : w.grownBy w' (some g)) : U64At w' v l := by
  obtain ⟨hm, p, c, rfl, c1, c2, hpn, h2⟩ := h
  refine ⟨hm, p, c, rfl, c1, c2, hpn, fun h0 => ?_⟩
  obtain ⟨b, o, rfl, h3⟩ := h2 h0
  have hne : b ≠ g := by
    rintro rfl
    have h4 := h3 0 (by omega)
    unfold World.cell? at h4
    simp only [hg] at h4
    exact hcs _ _ (by simpa using h4)
  exact ⟨b, o, rfl, fun i hi => hgr.cell (h3 i hi) (fun e => hne (Option.some.inj e))⟩
/-- The path that is opened, or none. -/
def openP (l : List (BitVec 64)) (i : Int) : List (BitVec 64) := if placeE l.length i = 0 then pathB l i.toNat else []
theorem lopen_any (l : List (BitVec 64)) (v : Value) (i : Int) (w : World) (hv : U64At w v l) : Calls Try.prog 6 #[v, .int .i64 i] w fun e w' => ∃ p c, e = .returned (.agg #[.slice p (openP l i).length c, .int .i64 (placeE l.length i)]) ∧ U64At w' (.slice p (openP l i).length c) (openP l i) ∧ Below w.heap.size w w' := by
  have CO := hid (fun W (h : Below w.heap.size w W) => (mopen_any l v i W (hv.below h)).mono (R' := fun e w' => ∃ p c, e = .returned (.tuple #[.slice p (openP l i).length c, .int .i64 (placeE l.length i)]) ∧ U64At w' (.slice p (openP l i).length c) (openP l i) ∧ Below W.heap.size W w') (fun e w' h => by
    obtain ⟨u, rfl, hu, hb⟩ := h
    obtain ⟨_, p, c, rfl, _⟩ := id hu
    exact ⟨p, c, rfl, hu, hb⟩))
  clear hv
  generalize placeE l.length i = E at *
  generalize openP l i = L at *
  go_enter Try.func6, Try.ntmps6
  go_wp2_with fail
  refine (CO.out _ ((Below.refl _ _).alloc (Nat.le_refl _) _)).mono ?_
  rintro e w1 ⟨p, c, rfl, hu, hb⟩
  have h0 : (w.alloc (.cells #[.slice none 0 0, .int .i64 0] 32)).heap[w.heap.size]? = some (.cells #[.slice none 0 0, .int .i64 0] 32 (0, 0)) := World.alloc_heap_new w _
  have h1 := (hb.block w.heap.size (by simp)).trans h0
  have f0 := blk_free h1 0
  have f1 := blk_free h1 1
  have k0 := blk_cell h1 (j := 0) (v := .slice none 0 0) rfl
  have k1 := blk_cell h1 (j := 1) (v := .int .i64 0) rfl
  have B1 := hid (show Below w.heap.size w w1 from (((Below.refl _ w).alloc (Nat.le_refl _) _).trans (hb.mono (by simp))))
  have U1 := hid hu
  have H1 := hid h1
  clear h0 h1 hu hb
  go_wp2
  have S1 := grown_set w1 w.heap.size 0 (.slice p L.length c)
  have S2 := grown_set (w1.setCell ⟨w.heap.size, 0, none⟩ (.slice p L.length c)) w.heap.size 1 (.int .i64 E)
  have hh : ((w1.setCell ⟨w.heap.size, 0, none⟩ (.slice p L.length c)).setCell ⟨w.heap.size, 1, none⟩ (.int .i64 E)).heap[w.heap.size]? = some (.cells #[.slice p L.length c, .int .i64 E] 32 (0, 0)) := blk_set (blk_set H1.out _) _
  have m0 := blk_cell hh (j := 0) (v := .slice p L.length c) rfl
  have m1 := blk_cell hh (j := 1) (v := .int .i64 E) rfl
  refine bodyPost_ret (v := .agg #[.slice p L.length c, .int .i64 E]) (by simp [results, Try.results6, go_sem, m0, m1]) rfl ⟨p, c, rfl, U64At.far U1.out H1.out ?_ (grown_two S1 S2), (B1.out.setCell (p := ⟨w.heap.size, 0, none⟩) (Nat.le_refl _) _).setCell (p := ⟨w.heap.size, 1, none⟩) (Nat.le_refl _) _⟩
  intro j x
  match j with
  | 0 => simp
  | 1 => simp
  | j + 2 => simp
theorem lcheck_any (root leaf : BitVec 64) (n i : Int) (path : List (BitVec 64)) (p : Option Addr) (c : Nat) (w : World) (hv : U64At w (.slice p path.length c) path) :
    Calls Try.prog 10 #[.int .u64 (root.toNat : Int), .int .i64 n, .int .i64 i, .agg #[.int .u64 (leaf.toNat : Int), .slice p path.length c]] w fun e w' => e = .returned (.int .i64 (checkE root n i leaf path)) ∧ Below w.heap.size w w' := by
  have CC := hid (fun W (h : Below w.heap.size w W) => mcheck_any root leaf n i path (.slice p path.length c) W (hv.below h))
  clear hv
  generalize checkE root n i leaf path = E at *
  go_enter Try.func10, Try.ntmps10
  go_wp2_with fail
  refine (CC.out _ ((Below.refl _ _).alloc (Nat.le_refl _) _)).mono ?_
  rintro e w1 ⟨rfl, hb⟩
  have B1 := hid (show Below w.heap.size w w1 from (((Below.refl _ w).alloc (Nat.le_refl _) _).trans (hb.mono (by simp))))
  clear hb
  go_wp2
  go_ret
  exact ⟨rfl, B1.out⟩
end Go.Proofs.Ytchmiaeajkpijaa

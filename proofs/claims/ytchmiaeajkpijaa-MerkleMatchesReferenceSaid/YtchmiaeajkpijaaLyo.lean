import Derived.Test.YtchmiaeajkpijaaLyb
namespace Go.Proofs.Ytchmiaeajkpijaa
open Go.RowKit Go.Instr
set_option linter.unusedVariables false

/-! The reference's 'Open'. -/
def OpenedOk (E : Int) (L : List (BitVec 64)) (W : World) : Ending → World → Prop := fun e w' => ∃ p c, e = .returned (.agg #[.slice p L.length c, .int .i64 E]) ∧ U64At w' (.slice p L.length c) L ∧ Below W.heap.size W w'
theorem opened_end {w w1 : World} {E : Int} {L : List (BitVec 64)} {p : Option Addr} {c : Nat} (k : Nat) (hk : L.length = k) (hb : Below (w.alloc (.cells #[.slice none 0 0, .int .i64 0] 32)).heap.size (w.alloc (.cells #[.slice none 0 0, .int .i64 0] 32)) w1) (hU : U64At w1 (.slice p k c) L) :
    w1.heap[w.heap.size]? = some (.cells #[.slice none 0 0, .int .i64 0] 32 (0, 0)) ∧
    ((w1.setCell ⟨w.heap.size, 0, none⟩ (.slice p k c)).setCell ⟨w.heap.size, 1, none⟩ (.int .i64 E)).heap[w.heap.size]? = some (.cells #[.slice p k c, .int .i64 E] 32 (0, 0)) ∧
    OpenedOk E L w (.returned (.agg #[.slice p k c, .int .i64 E])) ((w1.setCell ⟨w.heap.size, 0, none⟩ (.slice p k c)).setCell ⟨w.heap.size, 1, none⟩ (.int .i64 E)) := by
  subst hk
  have h0 : (w.alloc (.cells #[.slice none 0 0, .int .i64 0] 32)).heap[w.heap.size]? = some (.cells #[.slice none 0 0, .int .i64 0] 32 (0, 0)) := World.alloc_heap_new w _
  have h1 := (hb.block w.heap.size (by simp)).trans h0
  have B1 : Below w.heap.size w w1 := ((Below.refl _ w).alloc (Nat.le_refl _) _).trans (hb.mono (by simp))
  have S1 := grown_set w1 w.heap.size 0 (.slice p L.length c)
  have S2 := grown_set (w1.setCell ⟨w.heap.size, 0, none⟩ (.slice p L.length c)) w.heap.size 1 (.int .i64 E)
  refine ⟨h1, blk_set (blk_set h1 _) _, p, c, rfl, U64At.far hU h1 ?_ (grown_two S1 S2), (B1.setCell (p := ⟨w.heap.size, 0, none⟩) (Nat.le_refl _) _).setCell (p := ⟨w.heap.size, 1, none⟩) (Nat.le_refl _) _⟩
  intro j x
  match j with
  | 0 => simp
  | 1 => simp
  | j + 2 => simp
theorem ropen_bad (E : Int) (n c : Nat) (p : Option Addr) (i : Int) (w : World) (h : (4096 < n ∧ E = 2) ∨ (n ≤ 4096 ∧ i < 0 ∧ E = 1) ∨ (n ≤ 4096 ∧ 0 ≤ i ∧ (n : Int) ≤ i ∧ E = 1)) :
    Calls Try.prog 7 #[.slice p n c, .int .i64 i] w (OpenedOk E [] w) := by
  have a2 := (World.alloc_heap_new w (.cells #[.slice none 0 0, .int .i64 E] 32))
  have m0 := blk_cell a2 (j := 0) (v := .slice none 0 0) rfl
  have m1 := blk_cell a2 (j := 1) (v := .int .i64 E) rfl
  clear a2
  rcases h with ⟨h1, rfl⟩ | ⟨h1, h2, rfl⟩ | ⟨h1, h2, h3, rfl⟩
  · have d1 : decide ((4096 : Int) < (n : Int)) = true := by simp; omega
    clear h1
    go_enter Try.func7, Try.ntmps7
    go_wp2
    exact bodyPost_ret (v := .agg #[.slice none 0 0, .int .i64 2]) (by simp [results, Try.results7, go_sem, m0, m1]) rfl ⟨none, 0, rfl, U64At.nil _, below_a (Below.refl _ _) _⟩
  · have d1 : decide ((4096 : Int) < (n : Int)) = false := by simp; omega
    have d2 : decide (i < 0) = true := by simpa using h2
    clear h1
    go_enter Try.func7, Try.ntmps7
    go_wp2
    exact bodyPost_ret (v := .agg #[.slice none 0 0, .int .i64 1]) (by simp [results, Try.results7, go_sem, m0, m1]) rfl ⟨none, 0, rfl, U64At.nil _, below_a (Below.refl _ _) _⟩
  · have d1 : decide ((4096 : Int) < (n : Int)) = false := by simp; omega
    have d2 : decide (i < 0) = false := by simpa using h2
    have d3 : decide ((n : Int) ≤ i) = true := by simpa using h3
    clear h1
    go_enter Try.func7, Try.ntmps7
    go_wp2
    exact bodyPost_ret (v := .agg #[.slice none 0 0, .int .i64 1]) (by simp [results, Try.results7, go_sem, m0, m1]) rfl ⟨none, 0, rfl, U64At.nil _, below_a (Below.refl _ _) _⟩
theorem ropen_good (l : List (BitVec 64)) (n c i : Nat) (p : Option Addr) (w : World) (hn : n ≤ 4096) (hi : i < n) (hl : l.length = n) (hv : U64At w (.slice p n c) l) :
    Calls Try.prog 7 #[.slice p n c, .int .i64 (i : Int)] w (OpenedOk 0 (pathB l i) w) := by
  have C := hid (fun (W : World) (hW : Below w.heap.size w W) => rpath_any l (.slice p n c) i (by omega) (by omega) W (hv.below hW))
  have L12 := hid (path_12 (l := l) i (by omega))
  have d1 : decide ((4096 : Int) < (n : Int)) = false := by simp; omega
  have d2 : decide ((i : Int) < 0) = false := by simp
  have d3 : decide ((n : Int) ≤ (i : Int)) = false := by simp; omega
  unfold PathOk at C
  clear hv hl
  generalize pathB l i = L at *
  go_enter Try.func7, Try.ntmps7
  go_wp2_with fail
  refine (C.out _ ((Below.refl _ _).alloc (Nat.le_refl _) _)).mono ?_
  rintro e w1 ⟨v, rfl, hown, hb⟩
  obtain ⟨p1, c1, rfl⟩ := own_form hown
  obtain ⟨a1, a2, a3⟩ := opened_end (E := 0) (L := L) (p := p1) (c := c1) L.length rfl hb (U64At.of_own hown (by have := L12.out; omega))
  have f0 := blk_free a1 0
  have f1 := blk_free a1 1
  have k0 := blk_cell a1 (j := 0) (v := .slice none 0 0) rfl
  have k1 := blk_cell a1 (j := 1) (v := .int .i64 0) rfl
  have m0 := blk_cell a2 (j := 0) (v := .slice p1 L.length c1) rfl
  have m1 := blk_cell a2 (j := 1) (v := .int .i64 0) rfl
  have A3 := hid a3
  clear a1 a2 a3 hown hb
  go_wp2
  exact bodyPost_ret (v := .agg #[.slice p1 L.length c1, .int .i64 0]) (by simp [results, Try.results7, go_sem, m0, m1]) rfl A3.out
theorem ropen_any (l : List (BitVec 64)) (v : Value) (i : Int) (w : World) (hv : U64At w v l) : Calls Try.prog 7 #[v, .int .i64 i] w (OpenedOk (placeE l.length i) (openP l i) w) := by
  have hv2 := hv
  obtain ⟨-, p, c, rfl, -⟩ := hv2
  unfold openP
  rcases place_cases l.length i with ⟨h1, h2⟩ | ⟨h1, h2, h3⟩ | ⟨h1, h2, h3, h4⟩ | ⟨h1, h2, h3, h4⟩
  · rw [h2]
    exact ropen_bad 2 _ c p i w (.inl ⟨by omega, rfl⟩)
  · rw [h3]
    exact ropen_bad 1 _ c p i w (.inr (.inl ⟨by omega, h2, rfl⟩))
  · rw [h4]
    exact ropen_bad 1 _ c p i w (.inr (.inr ⟨by omega, h2, h3, rfl⟩))
  · rw [h4]
    obtain ⟨j, rfl⟩ := Int.eq_ofNat_of_zero_le h2
    exact ropen_good l _ c j p w (by omega) (by omega) rfl hv
end Go.Proofs.Ytchmiaeajkpijaa

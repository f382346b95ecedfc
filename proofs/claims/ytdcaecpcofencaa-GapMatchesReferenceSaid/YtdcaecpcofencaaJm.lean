import Derived.Test.YtdcaecpcofencaaJk
namespace Go.Proofs.Ytdcaecpcofencaa
open Go.RowKit Go.Instr Go.Deep
set_option maxRecDepth 100000
set_option linter.unusedVariables false
set_option linter.unusedSimpArgs false

/-! Expressions that the laws make; the reference's numbers. -/
/-- The operands of an expression of the laws: none, or two without operands, in a block from lo on. -/
def LIn (w : World) (lo : Nat) (l : List Ex) (oa : Option Addr) (cap : Nat) : Prop :=
  (l = [] ∧ oa = none ∧ cap = 0) ∨ ∃ (g : Nat) (ao an av bo bn bv : Int), lo ≤ g ∧ oa = some ⟨g, 0, none⟩ ∧ cap = 2 ∧ l = [.mk ao an av [], .mk bo bn bv []] ∧ w.heap[g]? = some (.cells #[.int .i64 ao, .int .i64 an, .int .i64 av, .slice none 0 0, .int .i64 bo, .int .i64 bn, .int .i64 bv, .slice none 0 0] 34 (0, 0))
theorem exIn_leaf (w : World) (op n v : Int) : exIn w (.mk op n v []) (.agg #[.int .i64 op, .int .i64 n, .int .i64 v, .slice none 0 0]) := by
  rw [exIn]
  exact ⟨none, 0, rfl, Nat.le_refl _, by omega, by rw [exsIn]; trivial⟩
theorem LIn.ex {w : World} {lo : Nat} {l : List Ex} {oa : Option Addr} {cap : Nat} (h : LIn w lo l oa cap) (op n v : Int) : exIn w (.mk op n v l) (.agg #[.int .i64 op, .int .i64 n, .int .i64 v, .slice oa l.length cap]) := by
  rcases h with ⟨rfl, rfl, rfl⟩ | ⟨g, ao, an, av, bo, bn, bv, -, rfl, rfl, rfl, hg⟩
  · exact exIn_leaf w op n v
  · rw [exIn]
    refine ⟨some ⟨g, 0, none⟩, 2, rfl, Nat.le_refl _, by omega, ?_⟩
    rw [exsIn, exsIn, exsIn]
    have hc : ∀ i x, (#[.int .i64 ao, .int .i64 an, .int .i64 av, .slice none 0 0, .int .i64 bo, .int .i64 bn, .int .i64 bv, .slice none 0 0] : Array Value)[i]? = some x → w.cell? ⟨g, i, none⟩ = some x := fun i x hx => (cell_of_row w g i _ _ (0, 0) hg).trans hx
    exact ⟨⟨g, 0, _, _, _, _, rfl, hc 0 _ rfl, hc 1 _ rfl, hc 2 _ rfl, hc 3 _ rfl, exIn_leaf w ao an av⟩, ⟨g, 0, _, _, _, _, rfl, hc 4 _ rfl, hc 5 _ rfl, hc 6 _ rfl, hc 7 _ rfl, exIn_leaf w bo bn bv⟩, trivial⟩
theorem LIn.keep {w w' : World} {lo : Nat} {l : List Ex} {oa : Option Addr} {cap : Nat} (h : LIn w lo l oa cap) (hk : ∀ g, lo ≤ g → g < w.heap.size → w'.heap[g]? = w.heap[g]?) : LIn w' lo l oa cap := by
  rcases h with h | ⟨g, ao, an, av, bo, bn, bv, h1, h2, h3, h4, hg⟩
  · exact .inl h
  · exact .inr ⟨g, ao, an, av, bo, bn, bv, h1, h2, h3, h4, (hk g h1 (lt_of_blk hg)).trans hg⟩
theorem LIn.below {w w' : World} {lo : Nat} {l : List Ex} {oa : Option Addr} {cap : Nat} (h : LIn w lo l oa cap) (hb : Below w.heap.size w w') : LIn w' lo l oa cap := h.keep fun g _ hg => hb.block g hg
theorem LIn.lo_le {w : World} {lo lo' : Nat} {l : List Ex} {oa : Option Addr} {cap : Nat} (h : LIn w lo l oa cap) (hl : lo' ≤ lo) : LIn w lo' l oa cap := by
  rcases h with h | ⟨g, ao, an, av, bo, bn, bv, h1, h2⟩
  · exact .inl h
  · exact .inr ⟨g, ao, an, av, bo, bn, bv, Nat.le_trans hl h1, h2⟩
theorem LIn.set {w : World} {lo : Nat} {l : List Ex} {oa : Option Addr} {cap : Nat} (h : LIn w lo l oa cap) {p : Addr} (hp : p.block < lo) (u : Value) : LIn (w.setCell p u) lo l oa cap := h.keep fun g hg _ => blk_setCell_other _ _ _ _ (by omega)
theorem heap_at (w : World) (o : Obj) (n : Nat) (h : n = w.heap.size) : (w.alloc o).heap[n]? = some o := by subst h; exact blk_alloc_new _ _
/-- An expression was made. -/
def ExRet (op n v : Int) (l : List Ex) (w : World) (e : Ending) (w' : World) : Prop := ∃ (oa : Option Addr) (cap : Nat), e = .returned (.agg #[.int .i64 op, .int .i64 n, .int .i64 v, .slice oa l.length cap]) ∧ LIn w' w.heap.size l oa cap ∧ Below w.heap.size w w'
theorem ExRet.leaf {op n v : Int} {w w' : World} (hb : Below w.heap.size w w') : ExRet op n v [] w (.returned (.agg #[.int .i64 op, .int .i64 n, .int .i64 v, .slice none 0 0])) w' := ⟨none, 0, rfl, .inl ⟨rfl, rfl, rfl⟩, hb⟩
set_option maxHeartbeats 400000 in
theorem var_any (n : Int) (w : World) :
    Calls Try.prog 41 #[.int .i64 n] w fun e w' => e = .returned (.agg #[.int .i64 2, .int .i64 n, .int .i64 0, .slice none 0 0]) ∧ Below w.heap.size w w' := by
  go_enter Try.func41, Try.ntmps41
  go_wp2
  exact bodyPost_ret (v := .agg #[.int .i64 2, .int .i64 n, .int .i64 0, .slice none 0 0]) (by simp [results, Try.results41, go_sem]) rfl ⟨by rfl, (by repeat (first | with_reducible exact Below.refl _ _ | with_reducible refine Below.setCell ?_ (by first | omega | (dsimp only; omega) | (simp; done) | (simp; omega)) _ | with_reducible refine Below.alloc ?_ (by first | omega | (dsimp only; omega) | (simp; done) | (simp; omega)) _ | with_reducible refine Below.drew ?_ | with_reducible refine drewnA ?_ _))⟩
set_option maxHeartbeats 400000 in
theorem num_any (n : Int) (w : World) :
    Calls Try.prog 44 #[.int .i64 n] w fun e w' => e = .returned (.agg #[.int .i64 1, .int .i64 0, .int .i64 n, .slice none 0 0]) ∧ Below w.heap.size w w' := by
  go_enter Try.func44, Try.ntmps44
  go_wp2
  exact bodyPost_ret (v := .agg #[.int .i64 1, .int .i64 0, .int .i64 n, .slice none 0 0]) (by simp [results, Try.results44, go_sem]) rfl ⟨by rfl, (by repeat (first | with_reducible exact Below.refl _ _ | with_reducible refine Below.setCell ?_ (by first | omega | (dsimp only; omega) | (simp; done) | (simp; omega)) _ | with_reducible refine Below.alloc ?_ (by first | omega | (dsimp only; omega) | (simp; done) | (simp; omega)) _ | with_reducible refine Below.drew ?_ | with_reducible refine drewnA ?_ _))⟩
set_option maxRecDepth 100000 in
set_option maxHeartbeats 400000 in
theorem two_any (op ao an av bo bn bv : Int) (w : World) :
    Calls Try.prog 43 #[.int .i64 op, .agg #[.int .i64 ao, .int .i64 an, .int .i64 av, .slice none 0 0], .agg #[.int .i64 bo, .int .i64 bn, .int .i64 bv, .slice none 0 0]] w fun e w' => ExRet op 0 0 [.mk ao an av [], .mk bo bn bv []] w e w' := by
  go_enter Try.func43, Try.ntmps43
  go_wp2
  refine bodyPost_ret (v := .agg #[.int .i64 op, .int .i64 0, .int .i64 0, .slice (some ⟨w.heap.size + 1 + 1 + 1, 0, none⟩) 2 2]) (by simp [results, Try.results43, go_sem]) rfl ⟨_, 2, rfl, .inr ⟨w.heap.size + 1 + 1 + 1, ao, an, av, bo, bn, bv, by omega, rfl, rfl, rfl, ?_⟩, (by repeat (first | with_reducible exact Below.refl _ _ | with_reducible refine Below.setCell ?_ (by first | omega | (dsimp only; omega) | (simp; done) | (simp; omega)) _ | with_reducible refine Below.alloc ?_ (by first | omega | (dsimp only; omega) | (simp; done) | (simp; omega)) _ | with_reducible refine Below.drew ?_ | with_reducible refine drewnA ?_ _))⟩
  exact heap_at _ _ _ (by simp)
set_option maxRecDepth 100000 in
set_option maxHeartbeats 400000 in
theorem plus_any (v c : Int) (w : World) :
    Calls Try.prog 38 #[.int .i64 v, .int .i64 c] w fun e w' => ExRet 4 0 0 [.mk 2 v 0 [], .mk 1 0 c []] w e w' := by
  go_enter Try.func38, Try.ntmps38
  go_upto_region 1 with (fail)
  have z0 : w.heap.size < (w.alloc (.cells #[.int .i64 0, .int .i64 0, .int .i64 0, .slice none 0 0] 34)).heap.size := by simp
  have HB0 := hidA (below_al w (.cells #[.int .i64 0, .int .i64 0, .int .i64 0, .slice none 0 0] 34))
  have d0 : (w.alloc (.cells #[.int .i64 0, .int .i64 0, .int .i64 0, .slice none 0 0] 34)).heap[w.heap.size]? = some (.cells #[.int .i64 0, .int .i64 0, .int .i64 0, .slice none 0 0] 34 (0, 0)) := blk_alloc_new _ _
  generalize w.alloc _ = w0 at *
  have HD := hidA d0
  clear d0
  go_wp2_with (first
    | ((go_at_call 41; refine (var_any v _).mono ?_; rintro e w1 ⟨rfl, hb1⟩; have HB1 := hidA hb1; clear hb1))
    | ((go_at_call 44; refine (num_any c _).mono ?_; rintro e w2 ⟨rfl, hb2⟩; have HB2 := hidA (stepA HB1.out hb2); clear hb2))
    | ((go_at_call 43; refine (two_any 4 _ _ _ _ _ _ _).mono ?_; rintro e w3 ⟨oa, cap, rfl, hx, hb3⟩; have HB3 := hidA (stepA HB2.out hb3); have HX := hidA (hx.lo_le HB2.out.size); have d3 := (HB3.out.block w.heap.size z0).trans HD.out; have c0 := cell_of_row w3 w.heap.size 0 _ _ _ d3; have c1 := cell_of_row w3 w.heap.size 1 _ _ _ d3; have c2 := cell_of_row w3 w.heap.size 2 _ _ _ d3; have c3 := cell_of_row w3 w.heap.size 3 _ _ _ d3; have fr : ∀ i, w3.frozen? ⟨w.heap.size, i, none⟩ = false := (fun i => by simp [World.frozen?, d3]); clear hx hb3 d3)))
  exact bodyPost_ret (v := .agg #[.int .i64 4, .int .i64 0, .int .i64 0, .slice oa 2 cap]) (by simp [results, Try.results38, go_sem, c0, c1, c2, c3]) rfl ⟨oa, cap, rfl, ((((HX.out.set z0 _).set z0 _).set z0 _).set z0 _).lo_le HB0.out.size, (by repeat (first | with_reducible exact Below.refl _ _ | with_reducible exact (stepA HB0.out HB3.out) | with_reducible refine Below.setCell ?_ (by first | omega | (dsimp only; omega) | (simp; done) | (simp; omega)) _ | with_reducible refine Below.alloc ?_ (by first | omega | (dsimp only; omega) | (simp; done) | (simp; omega)) _ | with_reducible refine Below.drew ?_ | with_reducible refine drewnA ?_ _ | with_reducible refine Below.trans ?_ ((stepA HB0.out HB3.out).mono (by first | omega | (dsimp only; omega) | (simp; done) | (simp; omega)))))⟩
set_option maxRecDepth 100000 in
set_option maxHeartbeats 400000 in
theorem minus_any (v c : Int) (w : World) :
    Calls Try.prog 39 #[.int .i64 v, .int .i64 c] w fun e w' => ExRet 5 0 0 [.mk 2 v 0 [], .mk 1 0 c []] w e w' := by
  go_enter Try.func39, Try.ntmps39
  go_upto_region 1 with (fail)
  have z0 : w.heap.size < (w.alloc (.cells #[.int .i64 0, .int .i64 0, .int .i64 0, .slice none 0 0] 34)).heap.size := by simp
  have HB0 := hidA (below_al w (.cells #[.int .i64 0, .int .i64 0, .int .i64 0, .slice none 0 0] 34))
  have d0 : (w.alloc (.cells #[.int .i64 0, .int .i64 0, .int .i64 0, .slice none 0 0] 34)).heap[w.heap.size]? = some (.cells #[.int .i64 0, .int .i64 0, .int .i64 0, .slice none 0 0] 34 (0, 0)) := blk_alloc_new _ _
  generalize w.alloc _ = w0 at *
  have HD := hidA d0
  clear d0
  go_wp2_with (first
    | ((go_at_call 41; refine (var_any v _).mono ?_; rintro e w1 ⟨rfl, hb1⟩; have HB1 := hidA hb1; clear hb1))
    | ((go_at_call 44; refine (num_any c _).mono ?_; rintro e w2 ⟨rfl, hb2⟩; have HB2 := hidA (stepA HB1.out hb2); clear hb2))
    | ((go_at_call 43; refine (two_any 5 _ _ _ _ _ _ _).mono ?_; rintro e w3 ⟨oa, cap, rfl, hx, hb3⟩; have HB3 := hidA (stepA HB2.out hb3); have HX := hidA (hx.lo_le HB2.out.size); have d3 := (HB3.out.block w.heap.size z0).trans HD.out; have c0 := cell_of_row w3 w.heap.size 0 _ _ _ d3; have c1 := cell_of_row w3 w.heap.size 1 _ _ _ d3; have c2 := cell_of_row w3 w.heap.size 2 _ _ _ d3; have c3 := cell_of_row w3 w.heap.size 3 _ _ _ d3; have fr : ∀ i, w3.frozen? ⟨w.heap.size, i, none⟩ = false := (fun i => by simp [World.frozen?, d3]); clear hx hb3 d3)))
  exact bodyPost_ret (v := .agg #[.int .i64 5, .int .i64 0, .int .i64 0, .slice oa 2 cap]) (by simp [results, Try.results39, go_sem, c0, c1, c2, c3]) rfl ⟨oa, cap, rfl, ((((HX.out.set z0 _).set z0 _).set z0 _).set z0 _).lo_le HB0.out.size, (by repeat (first | with_reducible exact Below.refl _ _ | with_reducible exact (stepA HB0.out HB3.out) | with_reducible refine Below.setCell ?_ (by first | omega | (dsimp only; omega) | (simp; done) | (simp; omega)) _ | with_reducible refine Below.alloc ?_ (by first | omega | (dsimp only; omega) | (simp; done) | (simp; omega)) _ | with_reducible refine Below.drew ?_ | with_reducible refine drewnA ?_ _ | with_reducible refine Below.trans ?_ ((stepA HB0.out HB3.out).mono (by first | omega | (dsimp only; omega) | (simp; done) | (simp; omega)))))⟩
set_option maxHeartbeats 400000 in
theorem both_any  (w : World) :
    Calls Try.prog 30 #[] w fun e w' => e = .returned (.agg #[.bool true, .bool true]) ∧ Below w.heap.size w w' := by
  go_enter Try.func30, Try.ntmps30
  go_wp2
  exact bodyPost_ret (v := .agg #[.bool true, .bool true]) (by simp [results, Try.results30, go_sem]) rfl ⟨by rfl, (by repeat (first | with_reducible exact Below.refl _ _ | with_reducible refine Below.setCell ?_ (by first | omega | (dsimp only; omega) | (simp; done) | (simp; omega)) _ | with_reducible refine Below.alloc ?_ (by first | omega | (dsimp only; omega) | (simp; done) | (simp; omega)) _ | with_reducible refine Below.drew ?_ | with_reducible refine drewnA ?_ _))⟩
set_option maxHeartbeats 400000 in
theorem most_any  (w : World) :
    Calls Try.prog 40 #[] w fun e w' => e = .returned (.int .i64 17179869184) ∧ w = w' := by
  go_enter Try.func40, Try.ntmps40
  go_wp2
  go_ret
  exact ⟨rfl, rfl⟩
set_option maxHeartbeats 400000 in
theorem fine_any (x : Int) (w : World) :
    Calls Try.prog 42 #[.int .i64 x] w fun e w' => e = .returned (.bool (fineB x)) ∧ w = w' := by
  by_cases h1 : x = 1099511627776
  · subst h1
    go_enter Try.func42, Try.ntmps42
    go_wp2
    go_ret
    exact ⟨rfl, rfl⟩
  · have b1 : (x == 1099511627776) = false := by simpa using h1
    have e1 : fineB x = nearB x := by unfold fineB; rw [b1, Bool.false_or]
    rw [e1]
    unfold nearB
    by_cases h2 : -17179869184 ≤ x
    · by_cases h3 : x ≤ 17179869184
      all_goals
        have HR : Hid ((decide (-17179869184 ≤ x) && decide (x ≤ 17179869184)) = decide (x ≤ 17179869184)) := hidA (by simp [h2])
        clear h1 e1
        go_enter Try.func42, Try.ntmps42
        go_wp2_with (go_at_call 40; refine (most_any _).mono ?_; rintro e w1 ⟨rfl, rfl⟩)
        go_ret
        exact ⟨retB (by rw [HR.out]; try (first | (simp; done) | (simp; omega))), rfl⟩
    · have HR : Hid ((decide (-17179869184 ≤ x) && decide (x ≤ 17179869184)) = false) := hidA (by simp [h2])
      have h2' : decide (-17179869184 ≤ x) = false := by simpa using h2
      clear h1 e1
      go_enter Try.func42, Try.ntmps42
      go_wp2_with (go_at_call 40; refine (most_any _).mono ?_; rintro e w1 ⟨rfl, rfl⟩)
      go_ret
      exact ⟨retB HR.out.symm, rfl⟩
end Go.Proofs.Ytdcaecpcofencaa

import Derived.Test.YtdcaecpcofencaaJx
namespace Go.Proofs.Ytdcaecpcofencaa
open Go.RowKit Go.Instr Go.Deep
set_option maxRecDepth 100000
set_option linter.unusedVariables false
set_option linter.unusedSimpArgs false

/-! side, clipped, whole. -/
def sideOp (f : Nat) : Int := if f % 6 = 0 then 2 else if f % 6 = 1 then 4 else if f % 6 = 2 then 4 else if f % 6 = 3 then 5 else if f % 6 = 4 then 1 else 6
def sideN (f : Nat) (v : Int) : Int := if f % 6 = 0 then v else 0
def sideV (f : Nat) (c : Int) : Int := if f % 6 = 4 then c else 0
def sideL (f : Nat) (v c : Int) : List Ex := if f % 6 = 0 then [] else if f % 6 = 2 then [.mk 1 0 c [], .mk 2 v 0 []] else if f % 6 = 4 then [] else [.mk 2 v 0 [], .mk 1 0 c []]
theorem sideL_ok (f : Nat) {v c : Int} (hv : -9223372036854775808 ≤ v ∧ v ≤ 9223372036854775807) (hc : -9223372036854775808 ≤ c ∧ c ≤ 9223372036854775807) : ExOk (sideL f v c) := by
  unfold sideL
  split
  · exact .inl rfl
  · split
    · exact .inr ⟨_, _, _, _, _, _, rfl, by decide, by decide⟩
    · split
      · exact .inl rfl
      · exact .inr ⟨_, _, _, _, _, _, rfl, hc⟩
set_option maxRecDepth 100000 in
set_option maxHeartbeats 2000000 in
theorem side_any (f : Nat) (hf : f < 256) (v c : Int) (w : World) :
    Calls Try.prog 11 #[.int .u8 (f : Int), .int .i64 v, .int .i64 c] w fun e w' => ExRet (sideOp f) (sideN f v) (sideV f c) (sideL f v c) w e w' := by
  have hr : f % 6 = 0 ∨ f % 6 = 1 ∨ f % 6 = 2 ∨ f % 6 = 3 ∨ f % 6 = 4 ∨ f % 6 = 5 := by omega
  rcases hr with h | h | h | h | h | h
  · have E1 : sideOp f = 2 := by unfold sideOp; rw [h]; rfl
    have E2 : sideN f v = v := by unfold sideN; rw [h]; rfl
    have E3 : sideV f c = 0 := by unfold sideV; rw [h]; rfl
    have E4 : sideL f v c = [] := by unfold sideL; rw [h]; rfl
    rw [E1, E2, E3, E4]
    clear E1 E2 E3 E4
    have hi : (f : Int) % 6 = 0 := by omega
    clear h
    go_enter Try.func11, Try.ntmps11
    go_upto_region 1 with (fail)
    have z0 : w.heap.size < (w.alloc (.cells #[.int .i64 0, .int .i64 0, .int .i64 0, .slice none 0 0] 34)).heap.size := by simp
    have HB0 := hidA (below_al w (.cells #[.int .i64 0, .int .i64 0, .int .i64 0, .slice none 0 0] 34))
    have d0 : (w.alloc (.cells #[.int .i64 0, .int .i64 0, .int .i64 0, .slice none 0 0] 34)).heap[w.heap.size]? = some (.cells #[.int .i64 0, .int .i64 0, .int .i64 0, .slice none 0 0] 34 (0, 0)) := blk_alloc_new _ _
    generalize w.alloc _ = w0 at *
    have HD := hidA d0
    clear d0
    have HBz := hidA (Below.refl w0.heap.size w0)
    go_wp2_with (first
      | ((go_at_call 41; (with_reducible refine (var_any v _).mono ?_); rintro e w1 ⟨rfl, hb⟩; have HBz' := hidA (stepA HBz.out hb); clear HBz; have HBz := HBz'; clear HBz' hb; have d3 := (HBz.out.block w.heap.size z0).trans HD.out; have c0 := cell_of_row w1 w.heap.size 0 _ _ _ d3; have c1 := cell_of_row w1 w.heap.size 1 _ _ _ d3; have c2 := cell_of_row w1 w.heap.size 2 _ _ _ d3; have c3 := cell_of_row w1 w.heap.size 3 _ _ _ d3; have fr : ∀ i, w1.frozen? ⟨w.heap.size, i, none⟩ = false := (fun i => by simp [World.frozen?, d3]); clear d3)))
    exact bodyPost_ret (v := .agg #[.int .i64 2, .int .i64 v, .int .i64 0, .slice none 0 0]) (by simp [results, Try.results11, go_sem, c0, c1, c2, c3]) rfl ⟨none, 0, rfl, .inl ⟨rfl, rfl, rfl⟩, (by repeat (first | with_reducible exact Below.refl _ _ | with_reducible exact (stepA HB0.out HBz.out) | with_reducible refine Below.setCell ?_ (by first | omega | (dsimp only; omega) | (simp; done) | (simp; omega)) _ | with_reducible refine Below.alloc ?_ (by first | omega | (dsimp only; omega) | (simp; done) | (simp; omega)) _ | with_reducible refine Below.drew ?_ | with_reducible refine drewnA ?_ _ | with_reducible refine Below.trans ?_ ((stepA HB0.out HBz.out).mono (by first | omega | (dsimp only; omega) | (simp; done) | (simp; omega)))))⟩
  · have E1 : sideOp f = 4 := by unfold sideOp; rw [h]; rfl
    have E2 : sideN f v = 0 := by unfold sideN; rw [h]; rfl
    have E3 : sideV f c = 0 := by unfold sideV; rw [h]; rfl
    have E4 : sideL f v c = [.mk 2 v 0 [], .mk 1 0 c []] := by unfold sideL; rw [h]; rfl
    rw [E1, E2, E3, E4]
    clear E1 E2 E3 E4
    have hi : (f : Int) % 6 = 1 := by omega
    clear h
    go_enter Try.func11, Try.ntmps11
    go_upto_region 1 with (fail)
    have z0 : w.heap.size < (w.alloc (.cells #[.int .i64 0, .int .i64 0, .int .i64 0, .slice none 0 0] 34)).heap.size := by simp
    have HB0 := hidA (below_al w (.cells #[.int .i64 0, .int .i64 0, .int .i64 0, .slice none 0 0] 34))
    have d0 : (w.alloc (.cells #[.int .i64 0, .int .i64 0, .int .i64 0, .slice none 0 0] 34)).heap[w.heap.size]? = some (.cells #[.int .i64 0, .int .i64 0, .int .i64 0, .slice none 0 0] 34 (0, 0)) := blk_alloc_new _ _
    generalize w.alloc _ = w0 at *
    have HD := hidA d0
    clear d0
    have HBz := hidA (Below.refl w0.heap.size w0)
    go_wp2_with (first
      | ((go_at_call 38; (with_reducible refine (plus_any v c _).mono ?_); rintro e w1 ⟨oa, cap, rfl, hx, hb⟩; have HX := hidA (hx.lo_le HBz.out.size); have HBz' := hidA (stepA HBz.out hb); clear HBz; have HBz := HBz'; clear HBz' hb hx; have d3 := (HBz.out.block w.heap.size z0).trans HD.out; have c0 := cell_of_row w1 w.heap.size 0 _ _ _ d3; have c1 := cell_of_row w1 w.heap.size 1 _ _ _ d3; have c2 := cell_of_row w1 w.heap.size 2 _ _ _ d3; have c3 := cell_of_row w1 w.heap.size 3 _ _ _ d3; have fr : ∀ i, w1.frozen? ⟨w.heap.size, i, none⟩ = false := (fun i => by simp [World.frozen?, d3]); clear d3)))
    exact bodyPost_ret (v := .agg #[.int .i64 4, .int .i64 0, .int .i64 0, .slice oa 2 cap]) (by simp [results, Try.results11, go_sem, c0, c1, c2, c3]) rfl ⟨oa, cap, rfl, ((((HX.out.set z0 _).set z0 _).set z0 _).set z0 _).lo_le HB0.out.size, (by repeat (first | with_reducible exact Below.refl _ _ | with_reducible exact (stepA HB0.out HBz.out) | with_reducible refine Below.setCell ?_ (by first | omega | (dsimp only; omega) | (simp; done) | (simp; omega)) _ | with_reducible refine Below.alloc ?_ (by first | omega | (dsimp only; omega) | (simp; done) | (simp; omega)) _ | with_reducible refine Below.drew ?_ | with_reducible refine drewnA ?_ _ | with_reducible refine Below.trans ?_ ((stepA HB0.out HBz.out).mono (by first | omega | (dsimp only; omega) | (simp; done) | (simp; omega)))))⟩
  · have E1 : sideOp f = 4 := by unfold sideOp; rw [h]; rfl
    have E2 : sideN f v = 0 := by unfold sideN; rw [h]; rfl
    have E3 : sideV f c = 0 := by unfold sideV; rw [h]; rfl
    have E4 : sideL f v c = [.mk 1 0 c [], .mk 2 v 0 []] := by unfold sideL; rw [h]; rfl
    rw [E1, E2, E3, E4]
    clear E1 E2 E3 E4
    have hi : (f : Int) % 6 = 2 := by omega
    clear h
    go_enter Try.func11, Try.ntmps11
    go_upto_region 1 with (fail)
    have z0 : w.heap.size < (w.alloc (.cells #[.int .i64 0, .int .i64 0, .int .i64 0, .slice none 0 0] 34)).heap.size := by simp
    have HB0 := hidA (below_al w (.cells #[.int .i64 0, .int .i64 0, .int .i64 0, .slice none 0 0] 34))
    have d0 : (w.alloc (.cells #[.int .i64 0, .int .i64 0, .int .i64 0, .slice none 0 0] 34)).heap[w.heap.size]? = some (.cells #[.int .i64 0, .int .i64 0, .int .i64 0, .slice none 0 0] 34 (0, 0)) := blk_alloc_new _ _
    generalize w.alloc _ = w0 at *
    have HD := hidA d0
    clear d0
    have HBz := hidA (Below.refl w0.heap.size w0)
    go_wp2_with (first
      | ((go_at_call 44; (with_reducible refine (num_any c _).mono ?_); rintro e w1 ⟨rfl, hb⟩; have HBz' := hidA (stepA HBz.out hb); clear HBz; have HBz := HBz'; clear HBz' hb))
      | ((go_at_call 41; (with_reducible refine (var_any v _).mono ?_); rintro e w2 ⟨rfl, hb⟩; have HBz' := hidA (stepA HBz.out hb); clear HBz; have HBz := HBz'; clear HBz' hb))
      | ((go_at_call 43; (with_reducible refine (two_any 4 1 0 c 2 v 0 _).mono ?_); rintro e w3 ⟨oa, cap, rfl, hx, hb⟩; have HX := hidA (hx.lo_le HBz.out.size); have HBz' := hidA (stepA HBz.out hb); clear HBz; have HBz := HBz'; clear HBz' hb hx; have d3 := (HBz.out.block w.heap.size z0).trans HD.out; have c0 := cell_of_row w3 w.heap.size 0 _ _ _ d3; have c1 := cell_of_row w3 w.heap.size 1 _ _ _ d3; have c2 := cell_of_row w3 w.heap.size 2 _ _ _ d3; have c3 := cell_of_row w3 w.heap.size 3 _ _ _ d3; have fr : ∀ i, w3.frozen? ⟨w.heap.size, i, none⟩ = false := (fun i => by simp [World.frozen?, d3]); clear d3)))
    exact bodyPost_ret (v := .agg #[.int .i64 4, .int .i64 0, .int .i64 0, .slice oa 2 cap]) (by simp [results, Try.results11, go_sem, c0, c1, c2, c3]) rfl ⟨oa, cap, rfl, ((((HX.out.set z0 _).set z0 _).set z0 _).set z0 _).lo_le HB0.out.size, (by repeat (first | with_reducible exact Below.refl _ _ | with_reducible exact (stepA HB0.out HBz.out) | with_reducible refine Below.setCell ?_ (by first | omega | (dsimp only; omega) | (simp; done) | (simp; omega)) _ | with_reducible refine Below.alloc ?_ (by first | omega | (dsimp only; omega) | (simp; done) | (simp; omega)) _ | with_reducible refine Below.drew ?_ | with_reducible refine drewnA ?_ _ | with_reducible refine Below.trans ?_ ((stepA HB0.out HBz.out).mono (by first | omega | (dsimp only; omega) | (simp; done) | (simp; omega)))))⟩
  · have E1 : sideOp f = 5 := by unfold sideOp; rw [h]; rfl
    have E2 : sideN f v = 0 := by unfold sideN; rw [h]; rfl
    have E3 : sideV f c = 0 := by unfold sideV; rw [h]; rfl
    have E4 : sideL f v c = [.mk 2 v 0 [], .mk 1 0 c []] := by unfold sideL; rw [h]; rfl
    rw [E1, E2, E3, E4]
    clear E1 E2 E3 E4
    have hi : (f : Int) % 6 = 3 := by omega
    clear h
    go_enter Try.func11, Try.ntmps11
    go_upto_region 1 with (fail)
    have z0 : w.heap.size < (w.alloc (.cells #[.int .i64 0, .int .i64 0, .int .i64 0, .slice none 0 0] 34)).heap.size := by simp
    have HB0 := hidA (below_al w (.cells #[.int .i64 0, .int .i64 0, .int .i64 0, .slice none 0 0] 34))
    have d0 : (w.alloc (.cells #[.int .i64 0, .int .i64 0, .int .i64 0, .slice none 0 0] 34)).heap[w.heap.size]? = some (.cells #[.int .i64 0, .int .i64 0, .int .i64 0, .slice none 0 0] 34 (0, 0)) := blk_alloc_new _ _
    generalize w.alloc _ = w0 at *
    have HD := hidA d0
    clear d0
    have HBz := hidA (Below.refl w0.heap.size w0)
    go_wp2_with (first
      | ((go_at_call 39; (with_reducible refine (minus_any v c _).mono ?_); rintro e w1 ⟨oa, cap, rfl, hx, hb⟩; have HX := hidA (hx.lo_le HBz.out.size); have HBz' := hidA (stepA HBz.out hb); clear HBz; have HBz := HBz'; clear HBz' hb hx; have d3 := (HBz.out.block w.heap.size z0).trans HD.out; have c0 := cell_of_row w1 w.heap.size 0 _ _ _ d3; have c1 := cell_of_row w1 w.heap.size 1 _ _ _ d3; have c2 := cell_of_row w1 w.heap.size 2 _ _ _ d3; have c3 := cell_of_row w1 w.heap.size 3 _ _ _ d3; have fr : ∀ i, w1.frozen? ⟨w.heap.size, i, none⟩ = false := (fun i => by simp [World.frozen?, d3]); clear d3)))
    exact bodyPost_ret (v := .agg #[.int .i64 5, .int .i64 0, .int .i64 0, .slice oa 2 cap]) (by simp [results, Try.results11, go_sem, c0, c1, c2, c3]) rfl ⟨oa, cap, rfl, ((((HX.out.set z0 _).set z0 _).set z0 _).set z0 _).lo_le HB0.out.size, (by repeat (first | with_reducible exact Below.refl _ _ | with_reducible exact (stepA HB0.out HBz.out) | with_reducible refine Below.setCell ?_ (by first | omega | (dsimp only; omega) | (simp; done) | (simp; omega)) _ | with_reducible refine Below.alloc ?_ (by first | omega | (dsimp only; omega) | (simp; done) | (simp; omega)) _ | with_reducible refine Below.drew ?_ | with_reducible refine drewnA ?_ _ | with_reducible refine Below.trans ?_ ((stepA HB0.out HBz.out).mono (by first | omega | (dsimp only; omega) | (simp; done) | (simp; omega)))))⟩
  · have E1 : sideOp f = 1 := by unfold sideOp; rw [h]; rfl
    have E2 : sideN f v = 0 := by unfold sideN; rw [h]; rfl
    have E3 : sideV f c = c := by unfold sideV; rw [h]; rfl
    have E4 : sideL f v c = [] := by unfold sideL; rw [h]; rfl
    rw [E1, E2, E3, E4]
    clear E1 E2 E3 E4
    have hi : (f : Int) % 6 = 4 := by omega
    clear h
    go_enter Try.func11, Try.ntmps11
    go_upto_region 1 with (fail)
    have z0 : w.heap.size < (w.alloc (.cells #[.int .i64 0, .int .i64 0, .int .i64 0, .slice none 0 0] 34)).heap.size := by simp
    have HB0 := hidA (below_al w (.cells #[.int .i64 0, .int .i64 0, .int .i64 0, .slice none 0 0] 34))
    have d0 : (w.alloc (.cells #[.int .i64 0, .int .i64 0, .int .i64 0, .slice none 0 0] 34)).heap[w.heap.size]? = some (.cells #[.int .i64 0, .int .i64 0, .int .i64 0, .slice none 0 0] 34 (0, 0)) := blk_alloc_new _ _
    generalize w.alloc _ = w0 at *
    have HD := hidA d0
    clear d0
    have HBz := hidA (Below.refl w0.heap.size w0)
    go_wp2_with (first
      | ((go_at_call 44; (with_reducible refine (num_any c _).mono ?_); rintro e w1 ⟨rfl, hb⟩; have HBz' := hidA (stepA HBz.out hb); clear HBz; have HBz := HBz'; clear HBz' hb; have d3 := (HBz.out.block w.heap.size z0).trans HD.out; have c0 := cell_of_row w1 w.heap.size 0 _ _ _ d3; have c1 := cell_of_row w1 w.heap.size 1 _ _ _ d3; have c2 := cell_of_row w1 w.heap.size 2 _ _ _ d3; have c3 := cell_of_row w1 w.heap.size 3 _ _ _ d3; have fr : ∀ i, w1.frozen? ⟨w.heap.size, i, none⟩ = false := (fun i => by simp [World.frozen?, d3]); clear d3)))
    exact bodyPost_ret (v := .agg #[.int .i64 1, .int .i64 0, .int .i64 c, .slice none 0 0]) (by simp [results, Try.results11, go_sem, c0, c1, c2, c3]) rfl ⟨none, 0, rfl, .inl ⟨rfl, rfl, rfl⟩, (by repeat (first | with_reducible exact Below.refl _ _ | with_reducible exact (stepA HB0.out HBz.out) | with_reducible refine Below.setCell ?_ (by first | omega | (dsimp only; omega) | (simp; done) | (simp; omega)) _ | with_reducible refine Below.alloc ?_ (by first | omega | (dsimp only; omega) | (simp; done) | (simp; omega)) _ | with_reducible refine Below.drew ?_ | with_reducible refine drewnA ?_ _ | with_reducible refine Below.trans ?_ ((stepA HB0.out HBz.out).mono (by first | omega | (dsimp only; omega) | (simp; done) | (simp; omega)))))⟩
  · have E1 : sideOp f = 6 := by unfold sideOp; rw [h]; rfl
    have E2 : sideN f v = 0 := by unfold sideN; rw [h]; rfl
    have E3 : sideV f c = 0 := by unfold sideV; rw [h]; rfl
    have E4 : sideL f v c = [.mk 2 v 0 [], .mk 1 0 c []] := by unfold sideL; rw [h]; rfl
    rw [E1, E2, E3, E4]
    clear E1 E2 E3 E4
    have hi : (f : Int) % 6 = 5 := by omega
    clear h
    go_enter Try.func11, Try.ntmps11
    go_upto_region 1 with (fail)
    have z0 : w.heap.size < (w.alloc (.cells #[.int .i64 0, .int .i64 0, .int .i64 0, .slice none 0 0] 34)).heap.size := by simp
    have HB0 := hidA (below_al w (.cells #[.int .i64 0, .int .i64 0, .int .i64 0, .slice none 0 0] 34))
    have d0 : (w.alloc (.cells #[.int .i64 0, .int .i64 0, .int .i64 0, .slice none 0 0] 34)).heap[w.heap.size]? = some (.cells #[.int .i64 0, .int .i64 0, .int .i64 0, .slice none 0 0] 34 (0, 0)) := blk_alloc_new _ _
    generalize w.alloc _ = w0 at *
    have HD := hidA d0
    clear d0
    have HBz := hidA (Below.refl w0.heap.size w0)
    go_wp2_with (first
      | ((go_at_call 41; (with_reducible refine (var_any v _).mono ?_); rintro e w1 ⟨rfl, hb⟩; have HBz' := hidA (stepA HBz.out hb); clear HBz; have HBz := HBz'; clear HBz' hb))
      | ((go_at_call 44; (with_reducible refine (num_any c _).mono ?_); rintro e w2 ⟨rfl, hb⟩; have HBz' := hidA (stepA HBz.out hb); clear HBz; have HBz := HBz'; clear HBz' hb))
      | ((go_at_call 43; (with_reducible refine (two_any 6 2 v 0 1 0 c _).mono ?_); rintro e w3 ⟨oa, cap, rfl, hx, hb⟩; have HX := hidA (hx.lo_le HBz.out.size); have HBz' := hidA (stepA HBz.out hb); clear HBz; have HBz := HBz'; clear HBz' hb hx; have d3 := (HBz.out.block w.heap.size z0).trans HD.out; have c0 := cell_of_row w3 w.heap.size 0 _ _ _ d3; have c1 := cell_of_row w3 w.heap.size 1 _ _ _ d3; have c2 := cell_of_row w3 w.heap.size 2 _ _ _ d3; have c3 := cell_of_row w3 w.heap.size 3 _ _ _ d3; have fr : ∀ i, w3.frozen? ⟨w.heap.size, i, none⟩ = false := (fun i => by simp [World.frozen?, d3]); clear d3)))
    exact bodyPost_ret (v := .agg #[.int .i64 6, .int .i64 0, .int .i64 0, .slice oa 2 cap]) (by simp [results, Try.results11, go_sem, c0, c1, c2, c3]) rfl ⟨oa, cap, rfl, ((((HX.out.set z0 _).set z0 _).set z0 _).set z0 _).lo_le HB0.out.size, (by repeat (first | with_reducible exact Below.refl _ _ | with_reducible exact (stepA HB0.out HBz.out) | with_reducible refine Below.setCell ?_ (by first | omega | (dsimp only; omega) | (simp; done) | (simp; omega)) _ | with_reducible refine Below.alloc ?_ (by first | omega | (dsimp only; omega) | (simp; done) | (simp; omega)) _ | with_reducible refine Below.drew ?_ | with_reducible refine drewnA ?_ _ | with_reducible refine Below.trans ?_ ((stepA HB0.out HBz.out).mono (by first | omega | (dsimp only; omega) | (simp; done) | (simp; omega)))))⟩
theorem and_255 (n : Int) : ∃ k : Nat, bits .and .i64 n 255 = (k : Int) ∧ k < 256 := by
  refine ⟨(BitVec.ofInt 64 n).toNat &&& 255, ?_, Nat.lt_of_le_of_lt Nat.and_le_right (by decide)⟩
  have hx : (BitVec.ofInt 64 n).toNat &&& 255 < 256 := Nat.lt_of_le_of_lt Nat.and_le_right (by decide)
  have h8 : (BitVec.ofInt 64 255).toNat = 255 := by decide
  show IntKind.i64.wrap ((BitVec.ofInt 64 n &&& BitVec.ofInt 64 255).toNat : Int) = _
  rw [BitVec.toNat_and, h8, IntKind.wrap_i64]
  omega
set_option maxRecDepth 100000 in
set_option maxHeartbeats 2000000 in
theorem clipped_any (op v x u c d : Int) (f0 f1 : Nat) (hd wa wb : Bool) (n : Nat) (hn : 1 ≤ n) (hn5 : n ≤ 5) (w : World) :
    Calls Try.prog 33 #[.agg #[.int .i64 op, .int .i64 v, .int .i64 x, .int .i64 u, .int .i64 c, .int .i64 d, .int .u8 (f0 : Int), .int .u8 (f1 : Int), .bool hd, .bool wa, .bool wb], .int .i64 (n : Int)] w fun e w' => (∃ v1 x1 u1 : Nat, v1 < n ∧ x1 < n ∧ u1 < n ∧ e = .returned (.agg #[.int .i64 op, .int .i64 (v1 : Int), .int .i64 (x1 : Int), .int .i64 (u1 : Int), .int .i64 (wrap32 c), .int .i64 (wrap32 d), .int .u8 (f0 : Int), .int .u8 (f1 : Int), .bool hd, .bool wa, .bool wb])) ∧ Below w.heap.size w w' := by
  obtain ⟨vk, hv, hv2⟩ := and_255 v
  obtain ⟨xk, hx, hx2⟩ := and_255 x
  obtain ⟨uk, hu, hu2⟩ := and_255 u
  obtain ⟨v1, e1⟩ : ∃ r, vk % n = r := ⟨_, rfl⟩
  obtain ⟨x1, e2⟩ : ∃ r, xk % n = r := ⟨_, rfl⟩
  obtain ⟨u1, e3⟩ : ∃ r, uk % n = r := ⟨_, rfl⟩
  have m1 : v1 < n := by rw [← e1]; exact Nat.mod_lt _ (by omega)
  have m2 : x1 < n := by rw [← e2]; exact Nat.mod_lt _ (by omega)
  have m3 : u1 < n := by rw [← e3]; exact Nat.mod_lt _ (by omega)
  have q1 : (vk : Int) % (n : Int) = (v1 : Int) := by rw [← e1]; omega
  have q2 : (xk : Int) % (n : Int) = (x1 : Int) := by rw [← e2]; omega
  have q3 : (uk : Int) % (n : Int) = (u1 : Int) := by rw [← e3]; omega
  have hz : ((n : Int) == 0) = false := by simp; omega
  have hz2 : ((n : Int) != 0) = true := by simp; omega
  have hz3 : ¬ (n : Int) = 0 := by omega
  clear e1 e2 e3
  go_enter Try.func33, Try.ntmps33
  go_wp2_with (go_at_call 57; refine (rwrap_any _ _).mono ?_; rintro e v1 ⟨rfl, rfl⟩)
  exact bodyPost_ret (v := .agg #[.int .i64 op, .int .i64 (v1 : Int), .int .i64 (x1 : Int), .int .i64 (u1 : Int), .int .i64 (wrap32 c), .int .i64 (wrap32 d), .int .u8 (f0 : Int), .int .u8 (f1 : Int), .bool hd, .bool wa, .bool wb]) (by simp [results, Try.results33, go_sem]) rfl ⟨⟨v1, x1, u1, m1, m2, m3, by rfl⟩, (by repeat (first | with_reducible exact Below.refl _ _ | with_reducible refine Below.setCell ?_ (by first | omega | (dsimp only; omega) | (simp; done) | (simp; omega)) _ | with_reducible refine Below.alloc ?_ (by first | omega | (dsimp only; omega) | (simp; done) | (simp; omega)) _ | with_reducible refine Below.drew ?_ | with_reducible refine drewnA ?_ _))⟩
end Go.Proofs.Ytdcaecpcofencaa

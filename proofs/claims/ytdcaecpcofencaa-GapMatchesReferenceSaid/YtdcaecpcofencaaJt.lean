import Derived.Test.YtdcaecpcofencaaJs
namespace Go.Proofs.Ytdcaecpcofencaa
open Go.RowKit Go.Instr Go.Deep
set_option maxRecDepth 100000
set_option linter.unusedVariables false
set_option linter.unusedSimpArgs false

/-! The laws' fixed calls. -/
def tab (l : List Int) (i j : Nat) : Int := l.getD (i + j) 0
theorem bnd {w : World} {lo b : Nat} {R C : Nat → Nat} {l : List Int} (c : Nat) (h : Gr w lo b 3 1 R C (tab l)) (v p r : Int) (hr : boundF 3 1 (tab l) v p = r) : Calls Try.prog 25 #[.slice (some ⟨b, 0, none⟩) 3 c, .int .i64 v, .int .i64 p] w fun e w' => e = .returned (.int .i64 r) ∧ w = w' := by
  rw [← hr]; exact bound_any c h v p (by omega) (by omega)
theorem vld {w : World} {lo b : Nat} {R C : Nat → Nat} {l : List Int} (c : Nat) (h : Gr w lo b 3 1 R C (tab l)) (v p : Int) (r : Bool) (hr : validB 3 1 (tab l) v p = r) : Calls Try.prog 28 #[.slice (some ⟨b, 0, none⟩) 3 c, .int .i64 v, .int .i64 p] w fun e w' => e = .returned (.bool r) ∧ w = w' := by
  rw [← hr]; exact valid_any w c h v p (by omega) (by omega)
theorem lqx {w : World} {lo b : Nat} {R C : Nat → Nat} {l : List Int} (c : Nat) (h : Gr w lo b 3 1 R C (tab l)) {lo2 b2 : Nat} {R2 C2 : Nat → Nat} {l2 : List Int} (c2 : Nat) (h2 : Gr w lo2 b2 3 1 R2 C2 (tab l2)) (r : Bool) (hr : leqB 3 1 (tab l) (tab l2) = r) : Calls Try.prog 23 #[.slice (some ⟨b, 0, none⟩) 3 c, .slice (some ⟨b2, 0, none⟩) 3 c2] w fun e w' => e = .returned (.bool r) ∧ w = w' := by
  rw [← hr]; exact leq_any w c c2 h h2 (by omega) (by omega)
theorem hasx {w : World} {lo b : Nat} {R C : Nat → Nat} {l : List Int} (c : Nat) (h : Gr w lo b 3 1 R C (tab l)) (q : Nat) (x y z : Int) (hq : w.heap[q]? = some (.cells #[.int .i64 x, .int .i64 y, .int .i64 z] 3 (0, 0))) (h1 : -2147483648 ≤ x ∧ x ≤ 2147483648) (h2 : -2147483648 ≤ y ∧ y ≤ 2147483648) (h3 : -2147483648 ≤ z ∧ z ≤ 2147483648) (r : Bool) (hr : hasB 3 1 (tab l) (fun i => [x, y, z].getD i 0) = r) :
    Calls Try.prog 34 #[.slice (some ⟨b, 0, none⟩) 3 c, .slice (some ⟨q, 0, none⟩) 3 3] w fun e w' => e = .returned (.bool r) ∧ w = w' := by
  rw [← hr]
  refine has_any w c h [x, y, z] (some ⟨q, 0, none⟩) 3 ⟨some ⟨q, 0, none⟩, 3, rfl, Nat.le_refl _, by omega, fun i hi => ⟨q, 0, rfl, ?_⟩⟩ rfl (by omega) (by omega) (fun i => ?_)
  · have hi3 : i < 3 := hi
    rw [Nat.zero_add, cell_of_row w q i _ _ _ hq]
    match i, hi3 with
    | 0, _ | 1, _ | 2, _ => rfl
  · match i with
    | 0 => exact h1
    | 1 => exact h2
    | 2 => exact h3
    | k + 3 => exact ⟨by show (-2147483648 : Int) ≤ 0; omega, by show (0 : Int) ≤ 2147483648; omega⟩
theorem tab_ok {l : List Int} (h : l.length = 3) (h0 : l.all fineB = true) : Zok 3 1 (tab l) := fun i j hi hj => by
  have hk : i + j < l.length := by omega
  unfold tab
  rw [List.getD_eq_getElem?_getD, List.getElem?_eq_getElem hk]
  exact List.all_eq_true.1 h0 _ (List.getElem_mem hk)
theorem GrRet.tab {lo : Nat} {Z : Nat → Nat → Int} {w w' : World} {e : Ending} (h : GrRet lo 3 1 Z w e w') (l : List Int) (hz : ∀ i, i < 3 → ∀ j, j < 1 → Z i j = tab l i j) : GrRet lo 3 1 (_root_.Go.Proofs.Ytdcaecpcofencaa.tab l) w e w' := h.congr (fun i j hi hj => hz i hi j hj)
theorem gset2 (w : World) {lo b n m : Nat} {R C : Nat → Nat} {Z : Nat → Nat → Int} (c : Nat) (h : Gr w lo b n m R C Z) (vv : Int) (op nn v : Int) (l : List Ex) (oa : Option Addr) (len cap : Nat) (hx : exIn w (.mk op nn v l) (.agg #[.int .i64 op, .int .i64 nn, .int .i64 v, .slice oa len cap])) (hl : l.length = len) (wh : Bool) (hn : n ≤ 65536) (hm : m ≤ 65536) (hZ : Zok n m Z) :
    Calls Try.prog 15 #[.slice (some ⟨b, 0, none⟩) n c, .int .i64 vv, .agg #[.int .i64 op, .int .i64 nn, .int .i64 v, .slice oa len cap], .bool wh] w fun e w' => GrRet w.heap.size n m (setN n m Z vv wh (shiftT n op nn l).2.2 (shiftT n op nn l).1 (shiftT n op nn l).2.1) w e w' := by
  subst hl
  exact gset_any w c h vv op nn v l oa cap hx wh hn hm hZ
theorem gassume2 (w : World) {lo b n m : Nat} {R C : Nat → Nat} {Z : Nat → Nat → Int} (c : Nat) (h : Gr w lo b n m R C Z) (op : Int) (holds : Bool) (ao an av bo bn bv : Int) (la lb : List Ex) (pa pb : Option Addr) (na ca nb cb : Nat) (ha : exIn w (.mk ao an av la) (.agg #[.int .i64 ao, .int .i64 an, .int .i64 av, .slice pa na ca])) (hb : exIn w (.mk bo bn bv lb) (.agg #[.int .i64 bo, .int .i64 bn, .int .i64 bv, .slice pb nb cb])) (hna : la.length = na) (hnb : lb.length = nb) (wa wb : Bool) (hn : n ≤ 65536) (hm : m ≤ 65536) (hZ : Zok n m Z) :
    Calls Try.prog 17 #[.slice (some ⟨b, 0, none⟩) n c, .int .i64 op, .bool holds, .agg #[.int .i64 ao, .int .i64 an, .int .i64 av, .slice pa na ca], .agg #[.int .i64 bo, .int .i64 bn, .int .i64 bv, .slice pb nb cb], .agg #[.bool wa, .bool wb]] w fun e w' => GrRet w.heap.size n m (assumeN m Z op holds (wa && wb && ((shiftT n ao an la).2.2 && (shiftT n bo bn lb).2.2)) (shiftT n ao an la).1 (shiftT n bo bn lb).1 (shiftT n ao an la).2.1 (shiftT n bo bn lb).2.1) w e w' := by
  subst hna hnb
  exact gassume_any w c h op holds ao an av bo bn bv la lb pa pb ca cb ha hb wa wb hn hm hZ
theorem new31 (w : World) : Calls Try.prog 13 #[.int .i64 3, .int .i64 1] w fun e w' => GrRet w.heap.size 3 1 newF w e w' := new_in 3 1 (by omega) (by omega) w
set_option maxRecDepth 100000 in
set_option maxHeartbeats 4000000 in
theorem examples_any  (w : World) :
    Calls Try.prog 9 #[] w fun e w' => e = .returned (.bool true) ∧ Below w.heap.size w w' := by
  have HB := hidA (Below.refl w.heap.size w)
  go_enter Try.func9, Try.ntmps9
  go_upto_region 2 with ((go_at_call 13; (with_reducible refine (((new31 _)).mono (fun e w' h => GrRet.tab h [0, 1099511627776, 1099511627776] (by decide +kernel))).mono ?_); rintro e w1 ⟨bg, cg, Rg, Cg, rfl, hg, hb⟩; have HBw1 := hidA (stepA HB.out hb); clear HB; have HB := HBw1; clear HBw1; clear hb; have Hg := hidA hg; clear hg))
  go_upto_region 4 with (first
    | ((go_at_call 25; (with_reducible refine (bnd cg Hg.out 0 0 0 (by decide +kernel)).mono ?_); rintro e v1 ⟨rfl, rfl⟩))
    | ((go_at_call 25; (with_reducible refine (bnd cg Hg.out 1 0 1099511627776 (by decide +kernel)).mono ?_); rintro e v1 ⟨rfl, rfl⟩))
    | ((go_at_call 25; (with_reducible refine (bnd cg Hg.out 3 0 1099511627776 (by decide +kernel)).mono ?_); rintro e v1 ⟨rfl, rfl⟩))
    | ((go_at_call 28; (with_reducible refine (vld cg Hg.out 3 1 true (by decide +kernel)).mono ?_); rintro e v1 ⟨rfl, rfl⟩))
    | ((go_at_call 28; (with_reducible refine (vld cg Hg.out 3 2 false (by decide +kernel)).mono ?_); rintro e v1 ⟨rfl, rfl⟩)))
  go_upto_region 5 with (first
    | ((go_at_call 38; (with_reducible refine (plus_any 0 2 _).mono ?_); rintro e w2 ⟨oa, cap, rfl, hx, hb⟩; have HBw2 := hidA (stepA HB.out hb); clear HB; have HB := HBw2; clear HBw2; have Hg' := hidA (Hg.out.belowA hb); clear Hg; have Hg := Hg'; clear Hg'; clear hb; have HX : Hid (exIn w2 (.mk 4 0 0 [.mk 2 0 0 [], .mk 1 0 2 []]) (.agg #[.int .i64 4, .int .i64 0, .int .i64 0, .slice oa 2 cap])) := hidA (hx.ex 4 0 0); clear hx))
    | ((go_at_call 15; (with_reducible refine (((gset2 _ cg Hg.out 1 4 0 0 _ oa 2 cap HX.out rfl true (by omega) (by omega) (tab_ok rfl (by decide +kernel)))).mono (fun e w' h => GrRet.tab h [0, 2, 1099511627776] (by decide +kernel))).mono ?_); rintro e w3 ⟨ba, ca, Ra, Ca, rfl, hg, hb⟩; have HBw3 := hidA (stepA HB.out hb); clear HB; have HB := HBw3; clear HBw3; have Hg' := hidA (Hg.out.belowA hb); clear Hg; have Hg := Hg'; clear Hg'; clear hb; have Ha := hidA hg; clear hg)))
  clear HX
  go_upto_region 6 with (first
    | ((go_at_call 39; (with_reducible refine (minus_any 1 5 _).mono ?_); rintro e w4 ⟨oa, cap, rfl, hx, hb⟩; have HBw4 := hidA (stepA HB.out hb); clear HB; have HB := HBw4; clear HBw4; have Hg' := hidA (Hg.out.belowA hb); clear Hg; have Hg := Hg'; clear Hg'; have Ha' := hidA (Ha.out.belowA hb); clear Ha; have Ha := Ha'; clear Ha'; clear hb; have HX : Hid (exIn w4 (.mk 5 0 0 [.mk 2 1 0 [], .mk 1 0 5 []]) (.agg #[.int .i64 5, .int .i64 0, .int .i64 0, .slice oa 2 cap])) := hidA (hx.ex 5 0 0); clear hx))
    | ((go_at_call 15; (with_reducible refine (((gset2 _ ca Ha.out 2 5 0 0 _ oa 2 cap HX.out rfl true (by omega) (by omega) (tab_ok rfl (by decide +kernel)))).mono (fun e w' h => GrRet.tab h [0, 2, -3] (by decide +kernel))).mono ?_); rintro e w5 ⟨bb, cb, Rb, Cb, rfl, hg, hb⟩; have HBw5 := hidA (stepA HB.out hb); clear HB; have HB := HBw5; clear HBw5; have Hg' := hidA (Hg.out.belowA hb); clear Hg; have Hg := Hg'; clear Hg'; have Ha' := hidA (Ha.out.belowA hb); clear Ha; have Ha := Ha'; clear Ha'; clear hb; have Hb := hidA hg; clear hg)))
  clear HX
  go_upto_region 7 with (first
    | ((go_at_call 39; (with_reducible refine (minus_any 1 5 _).mono ?_); rintro e w6 ⟨oa, cap, rfl, hx, hb⟩; have HBw6 := hidA (stepA HB.out hb); clear HB; have HB := HBw6; clear HBw6; have Hg' := hidA (Hg.out.belowA hb); clear Hg; have Hg := Hg'; clear Hg'; have Ha' := hidA (Ha.out.belowA hb); clear Ha; have Ha := Ha'; clear Ha'; have Hb' := hidA (Hb.out.belowA hb); clear Hb; have Hb := Hb'; clear Hb'; clear hb; have HX : Hid (exIn w6 (.mk 5 0 0 [.mk 2 1 0 [], .mk 1 0 5 []]) (.agg #[.int .i64 5, .int .i64 0, .int .i64 0, .slice oa 2 cap])) := hidA (hx.ex 5 0 0); clear hx))
    | ((go_at_call 15; (with_reducible refine (((gset2 _ ca Ha.out 2 5 0 0 _ oa 2 cap HX.out rfl false (by omega) (by omega) (tab_ok rfl (by decide +kernel)))).mono (fun e w' h => GrRet.tab h [0, 2, 1099511627776] (by decide +kernel))).mono ?_); rintro e w7 ⟨bc, cc, Rc, Cc, rfl, hg, hb⟩; have HBw7 := hidA (stepA HB.out hb); clear HB; have HB := HBw7; clear HBw7; have Hg' := hidA (Hg.out.belowA hb); clear Hg; have Hg := Hg'; clear Hg'; have Ha' := hidA (Ha.out.belowA hb); clear Ha; have Ha := Ha'; clear Ha'; have Hb' := hidA (Hb.out.belowA hb); clear Hb; have Hb := Hb'; clear Hb'; clear hb; have Hc := hidA hg; clear hg)))
  clear HX
  go_upto_region 8 with (first
    | ((go_at_call 41; (with_reducible refine (var_any 1 _).mono ?_); rintro e w8 ⟨rfl, hb⟩; have HBw8 := hidA (stepA HB.out hb); clear HB; have HB := HBw8; clear HBw8; have Hg' := hidA (Hg.out.belowA hb); clear Hg; have Hg := Hg'; clear Hg'; have Ha' := hidA (Ha.out.belowA hb); clear Ha; have Ha := Ha'; clear Ha'; have Hb' := hidA (Hb.out.belowA hb); clear Hb; have Hb := Hb'; clear Hb'; have Hc' := hidA (Hc.out.belowA hb); clear Hc; have Hc := Hc'; clear Hc'; clear hb))
    | ((go_at_call 41; (with_reducible refine (var_any 0 _).mono ?_); rintro e w9 ⟨rfl, hb⟩; have HBw9 := hidA (stepA HB.out hb); clear HB; have HB := HBw9; clear HBw9; have Hg' := hidA (Hg.out.belowA hb); clear Hg; have Hg := Hg'; clear Hg'; have Ha' := hidA (Ha.out.belowA hb); clear Ha; have Ha := Ha'; clear Ha'; have Hb' := hidA (Hb.out.belowA hb); clear Hb; have Hb := Hb'; clear Hb'; have Hc' := hidA (Hc.out.belowA hb); clear Hc; have Hc := Hc'; clear Hc'; clear hb))
    | ((go_at_call 30; (with_reducible refine (both_any _).mono ?_); rintro e w10 ⟨rfl, hb⟩; have HBw10 := hidA (stepA HB.out hb); clear HB; have HB := HBw10; clear HBw10; have Hg' := hidA (Hg.out.belowA hb); clear Hg; have Hg := Hg'; clear Hg'; have Ha' := hidA (Ha.out.belowA hb); clear Ha; have Ha := Ha'; clear Ha'; have Hb' := hidA (Hb.out.belowA hb); clear Hb; have Hb := Hb'; clear Hb'; have Hc' := hidA (Hc.out.belowA hb); clear Hc; have Hc := Hc'; clear Hc'; clear hb))
    | ((go_at_call 17; (with_reducible refine (((gassume2 _ ca Ha.out 2 true 2 1 0 2 0 0 [] [] none none 0 0 0 0 (exIn_leaf _ _ _ _) (exIn_leaf _ _ _ _) rfl rfl true true (by omega) (by omega) (tab_ok rfl (by decide +kernel)))).mono (fun e w' h => GrRet.tab h [0, -1, 1099511627776] (by decide +kernel))).mono ?_); rintro e w11 ⟨bd, cd, Rd, Cd, rfl, hg, hb⟩; have HBw11 := hidA (stepA HB.out hb); clear HB; have HB := HBw11; clear HBw11; have Hg' := hidA (Hg.out.belowA hb); clear Hg; have Hg := Hg'; clear Hg'; have Ha' := hidA (Ha.out.belowA hb); clear Ha; have Ha := Ha'; clear Ha'; have Hb' := hidA (Hb.out.belowA hb); clear Hb; have Hb := Hb'; clear Hb'; have Hc' := hidA (Hc.out.belowA hb); clear Hc; have Hc := Hc'; clear Hc'; clear hb; have Hd := hidA hg; clear hg)))
  go_upto_region 9 with (first
    | ((go_at_call 41; (with_reducible refine (var_any 2 _).mono ?_); rintro e w12 ⟨rfl, hb⟩; have HBw12 := hidA (stepA HB.out hb); clear HB; have HB := HBw12; clear HBw12; have Hg' := hidA (Hg.out.belowA hb); clear Hg; have Hg := Hg'; clear Hg'; have Ha' := hidA (Ha.out.belowA hb); clear Ha; have Ha := Ha'; clear Ha'; have Hb' := hidA (Hb.out.belowA hb); clear Hb; have Hb := Hb'; clear Hb'; have Hc' := hidA (Hc.out.belowA hb); clear Hc; have Hc := Hc'; clear Hc'; have Hd' := hidA (Hd.out.belowA hb); clear Hd; have Hd := Hd'; clear Hd'; clear hb))
    | ((go_at_call 41; (with_reducible refine (var_any 1 _).mono ?_); rintro e w13 ⟨rfl, hb⟩; have HBw13 := hidA (stepA HB.out hb); clear HB; have HB := HBw13; clear HBw13; have Hg' := hidA (Hg.out.belowA hb); clear Hg; have Hg := Hg'; clear Hg'; have Ha' := hidA (Ha.out.belowA hb); clear Ha; have Ha := Ha'; clear Ha'; have Hb' := hidA (Hb.out.belowA hb); clear Hb; have Hb := Hb'; clear Hb'; have Hc' := hidA (Hc.out.belowA hb); clear Hc; have Hc := Hc'; clear Hc'; have Hd' := hidA (Hd.out.belowA hb); clear Hd; have Hd := Hd'; clear Hd'; clear hb))
    | ((go_at_call 30; (with_reducible refine (both_any _).mono ?_); rintro e w14 ⟨rfl, hb⟩; have HBw14 := hidA (stepA HB.out hb); clear HB; have HB := HBw14; clear HBw14; have Hg' := hidA (Hg.out.belowA hb); clear Hg; have Hg := Hg'; clear Hg'; have Ha' := hidA (Ha.out.belowA hb); clear Ha; have Ha := Ha'; clear Ha'; have Hb' := hidA (Hb.out.belowA hb); clear Hb; have Hb := Hb'; clear Hb'; have Hc' := hidA (Hc.out.belowA hb); clear Hc; have Hc := Hc'; clear Hc'; have Hd' := hidA (Hd.out.belowA hb); clear Hd; have Hd := Hd'; clear Hd'; clear hb))
    | ((go_at_call 17; (with_reducible refine (((gassume2 _ ca Ha.out 3 true 2 2 0 2 1 0 [] [] none none 0 0 0 0 (exIn_leaf _ _ _ _) (exIn_leaf _ _ _ _) rfl rfl true true (by omega) (by omega) (tab_ok rfl (by decide +kernel)))).mono (fun e w' h => GrRet.tab h [0, 2, 2] (by decide +kernel))).mono ?_); rintro e w15 ⟨be, ce, Re, Ce, rfl, hg, hb⟩; have HBw15 := hidA (stepA HB.out hb); clear HB; have HB := HBw15; clear HBw15; have Hg' := hidA (Hg.out.belowA hb); clear Hg; have Hg := Hg'; clear Hg'; have Ha' := hidA (Ha.out.belowA hb); clear Ha; have Ha := Ha'; clear Ha'; have Hb' := hidA (Hb.out.belowA hb); clear Hb; have Hb := Hb'; clear Hb'; have Hc' := hidA (Hc.out.belowA hb); clear Hc; have Hc := Hc'; clear Hc'; have Hd' := hidA (Hd.out.belowA hb); clear Hd; have Hd := Hd'; clear Hd'; clear hb; have He := hidA hg; clear hg)))
  go_wp2_with (first
    | ((go_at_call 25; (with_reducible refine (bnd ca Ha.out 1 0 2 (by decide +kernel)).mono ?_); rintro e v1 ⟨rfl, rfl⟩))
    | ((go_at_call 25; (with_reducible refine (bnd cb Hb.out 2 0 (-3) (by decide +kernel)).mono ?_); rintro e v1 ⟨rfl, rfl⟩))
    | ((go_at_call 25; (with_reducible refine (bnd cc Hc.out 2 0 1099511627776 (by decide +kernel)).mono ?_); rintro e v1 ⟨rfl, rfl⟩))
    | ((go_at_call 25; (with_reducible refine (bnd cd Hd.out 1 0 (-1) (by decide +kernel)).mono ?_); rintro e v1 ⟨rfl, rfl⟩))
    | ((go_at_call 25; (with_reducible refine (bnd ce He.out 2 0 2 (by decide +kernel)).mono ?_); rintro e v1 ⟨rfl, rfl⟩))
    | ((go_at_call 34; (with_reducible refine (hasx cb (Hb.out.alloc _) _ 7 9 4 (by first | exact heap_at _ _ _ rfl | exact heap_at _ _ _ (by simp)) (by omega) (by omega) (by omega) true (by decide +kernel)).mono ?_); rintro e v1 ⟨rfl, rfl⟩))
    | ((go_at_call 34; (with_reducible refine (hasx cb ((Hb.out.alloc _).alloc _) _ 7 9 5 (by first | exact heap_at _ _ _ rfl | exact heap_at _ _ _ (by simp)) (by omega) (by omega) (by omega) false (by decide +kernel)).mono ?_); rintro e v1 ⟨rfl, rfl⟩))
    | ((go_at_call 23; (with_reducible refine (lqx cd ((Hd.out.alloc _).alloc _) ca ((Ha.out.alloc _).alloc _) true (by decide +kernel)).mono ?_); rintro e v1 ⟨rfl, rfl⟩))
    | ((go_at_call 23; (with_reducible refine (lqx ca ((Ha.out.alloc _).alloc _) cd ((Hd.out.alloc _).alloc _) false (by decide +kernel)).mono ?_); rintro e v1 ⟨rfl, rfl⟩)))
  go_ret
  exact ⟨rfl, (HB.out.alloc HB.out.size _).alloc (by have := HB.out.size; simp; omega) _⟩
end Go.Proofs.Ytdcaecpcofencaa

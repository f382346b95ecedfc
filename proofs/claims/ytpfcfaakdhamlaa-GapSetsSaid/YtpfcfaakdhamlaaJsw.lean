import Derived.Test.YtpfcfaakdhamlaaJz
namespace Go.Proofs.Ytpfcfaakdhamlaa
open Go.RowKit Go.Instr Go.Deep
set_option maxRecDepth 100000
set_option linter.unusedVariables false
set_option linter.unusedSimpArgs false

/-! GapSets' walk. -/
theorem intsIn_far {w : World} {L : List Int} {g n cap : Nat} (h : intsIn w L (.slice (some ⟨g, 0, none⟩) n cap)) {p : Addr} (hp : p.block ≠ g) (u : Value) : intsIn (w.setCell p u) L (.slice (some ⟨g, 0, none⟩) n cap) := by
  obtain ⟨oa, cap', h1, h2, h3, h4⟩ := h
  injection h1 with h5 h6 h7
  subst h5 h6 h7
  refine ⟨_, _, rfl, h2, h3, fun i hi => ?_⟩
  obtain ⟨b, off, h8, h9⟩ := h4 i hi
  injection h8 with h8
  injection h8 with h81 h82 _
  subst h81 h82
  refine ⟨_, _, rfl, ?_⟩
  rw [World.cell?_setCell_other w p _ _ (fun e => hp (by rw [e]))]
  exact h9
theorem has_r {w : World} {lo b n m : Nat} {R C : Nat → Nat} {Z : Nat → Nat → Int} (c : Nat) (h : Gr w lo b n m R C Z) (l : List Int) (oa : Option Addr) (cap : Nat) (hl : intsIn w l (.slice oa n cap)) (hln : l.length = n) (hmn : m ≤ n) (hn : n ≤ 5) (h32 : ∀ i, -2147483648 ≤ l.getD i 0 ∧ l.getD i 0 ≤ 2147483647) {r : Bool} (hr : hasB n m Z (fun i => l.getD i 0) = r) :
    Calls Try.prog 34 #[.slice (some ⟨b, 0, none⟩) n c, .slice oa n cap] w fun e w' => e = .returned (.bool r) ∧ w = w' := by
  rw [← hr]; exact has_any w c h l oa cap hl hln hmn (by omega) (fun i => ⟨(h32 i).1, by have := (h32 i).2; omega⟩)
theorem leqB_iff {n m : Nat} {Z Y : Nat → Nat → Int} : leqB n m Z Y = true ↔ ∀ i, i < n → ∀ j, j < m → Z i j ≤ Y i j := by unfold leqB; exact decide_eq_true_iff
theorem hasB_iff {n m : Nat} {Z : Nat → Nat → Int} {V : Nat → Int} : hasB n m Z V = true ↔ ∀ i, i < n → ∀ j, j < m → V i - V j ≤ Z i j := by unfold hasB; exact decide_eq_true_iff
theorem tight_has {V ml : List Int} {n m : Nat} (hv : ∀ i, -2147483648 ≤ V.getD i 0 ∧ V.getD i 0 ≤ 2147483647) (h8 : ∀ i, 0 ≤ ml.getD i 0 ∧ ml.getD i 0 ≤ 255) : hasB n m (tightZ V ml m) (fun i => V.getD i 0) = true := by
  rw [hasB_iff]
  intro i _ j _
  have h1 := hv i
  have h2 := hv j
  have h3 := tk_bd h8 (i * m + j)
  show V.getD i 0 - V.getD j 0 ≤ tightZ V ml m i j
  unfold tightZ
  split <;> omega
theorem tight_ok {V ml : List Int} (n m : Nat) (hv : ∀ i, -2147483648 ≤ V.getD i 0 ∧ V.getD i 0 ≤ 2147483647) (h8 : ∀ i, 0 ≤ ml.getD i 0 ∧ ml.getD i 0 ≤ 255) : Zok n m (tightZ V ml m) := fun i j _ _ => by
  have h1 := hv i
  have h2 := hv j
  have h3 := tk_bd h8 (i * m + j)
  unfold tightZ
  split
  · decide
  · rw [fineB_iff]; omega
theorem evalE_bd (V L : List Int) (t : Ex) : -2147483648 ≤ evalE V L t ∧ evalE V L t ≤ 2147483647 := by
  obtain ⟨op, n, v, l⟩ := t
  have h0 : -2147483648 ≤ (0 : Int) ∧ (0 : Int) ≤ 2147483647 := by decide
  have he : ∀ (l : List Int) (n : Int), -2147483648 ≤ elemF l n ∧ elemF l n ≤ 2147483647 := fun l n => by
    unfold elemF
    split
    · exact wrap32_bd _
    · exact h0
  rw [evalE]
  split
  · exact wrap32_bd _
  · split
    · exact he _ _
    · split
      · exact he _ _
      · unfold opF
        repeat (first | exact wrap32_bd _ | exact h0 | split)
theorem getD_set (V : List Int) {i k : Nat} (E : Int) (hk : k < V.length) : (V.set k E).getD i 0 = if i = k then E else V.getD i 0 := by
  rw [List.getD_eq_getElem?_getD, List.getD_eq_getElem?_getD, List.getElem?_set]
  by_cases e : i = k
  · subst e
    rw [if_pos rfl, if_pos rfl, if_pos hk]
    rfl
  · rw [if_neg (fun h => e h.symm), if_neg e]
theorem sumF_ge {a k x : Int} (h : x ≤ a + k) (hx : x ≤ 1099511627776) : x ≤ sumF a k := by
  unfold sumF
  split <;> assumption
theorem sets_has {V : List Int} {n m : Nat} {K : Nat → Nat → Int} (hv : ∀ i, -2147483648 ≤ V.getD i 0 ∧ V.getD i 0 ≤ 2147483647) (LV : V.length = n) (hK : hasB n m K (fun i => V.getD i 0) = true) {v1 : Nat} (h1 : v1 < n) (hm : m ≤ v1) (op nn v : Int) (l : List Ex) :
    hasB n m (setN n m K v1 (wholeB V n op nn v l) (shiftT n op nn l).2.2 (shiftT n op nn l).1 (shiftT n op nn l).2.1) (fun i => (V.set v1 (evalE V [] (.mk op nn v l))).getD i 0) = true := by
  rw [hasB_iff] at hK ⊢
  have hE := evalE_bd V [] (.mk op nn v l)
  intro i hi j hj
  show (V.set v1 _).getD i 0 - (V.set v1 _).getD j 0 ≤ _
  rw [getD_set V _ (by omega), getD_set V _ (by omega), if_neg (show ¬ j = v1 by omega)]
  have hj2 := hv j
  unfold setN
  by_cases e : i = v1
  · subst e
    rw [if_pos rfl, if_pos rfl]
    split
    · rename_i hh
      simp only [Bool.and_eq_true] at hh
      obtain ⟨hw, hs⟩ := hh
      have hlt := shiftT_lt hs
      unfold wholeB at hw
      simp only [Bool.and_eq_true, decide_eq_true_eq, beq_iff_eq] at hw
      obtain ⟨-, -, -, hEq⟩ := hw
      rw [boundF_in K hlt hj]
      have hKw : V.getD (shiftT n op nn l).1 0 - V.getD j 0 ≤ K (shiftT n op nn l).1 j := hK _ hlt j hj
      exact sumF_ge (by omega) (by omega)
    · omega
  · rw [if_neg e, if_neg (by omega)]
    exact hK i hi j hj
theorem NewQ.setInts {wo w11 w12 : World} {n : Nat} {gw cw : Nat} {V ys : List Int} {F : Nat → Int} {zs : List Value} (hq : NewQ wo w11 n (.slice (some ⟨gw, 0, none⟩) n cw) F zs) (LV : V.length = n) (hF : ∀ i, i < n → F i = V.getD i 0) (hb : Below w11.heap.size w11 w12) {k : Nat} (hk : k < n) (E : Int) :
    intsIn (w12.setCell ⟨gw, k, none⟩ (.int .i64 E)) (V.set k E) (.slice (some ⟨gw, 0, none⟩) n cw) := by
  rcases hq.own.2 with ⟨h1, -⟩ | ⟨g, cap, cur, h1, h2, h3, h4, h5, h6, h7⟩
  · exact absurd h1 hq.nn
  · injection h1 with a1 a2 a3
    injection a1 with a1
    injection a1 with a1 _ _
    subst a1 a3
    have hc : ∀ i, i < n → w12.cell? ⟨gw, i, none⟩ = some (.int .i64 (V.getD i 0)) := fun i hi => by
      refine cellA hb ?_
      have e1 : cur[i]? = zs[i]? := by
        rw [← h7, List.getElem?_take, if_pos (by omega)]
        simp
      rw [cell_of_row w11 gw i _ _ _ h3, e1, hq.val i hi, hF i hi]
    refine ⟨some ⟨gw, 0, none⟩, cw, by rw [List.length_set, LV], by rw [List.length_set]; omega, by unfold maxLen at h5; omega, fun i hi => ⟨gw, 0, rfl, ?_⟩⟩
    rw [List.length_set] at hi
    rw [Nat.zero_add, getD_set V E (by omega)]
    by_cases e : i = k
    · subst e
      rw [if_pos rfl]
      exact World.cell?_setCell_same _ _ _ (hc i (by omega))
    · rw [if_neg e, World.cell?_setCell_other w12 _ _ _ (fun h => e (by injection h with _ h _; exact h.symm))]
      exact hc i (by omega)
set_option maxRecDepth 100000 in
set_option maxHeartbeats 8000000 in
theorem sets_walk (w : World) (xa xb : Nat) (hxa : xa < 256) (hxb : xb < 256) (lx : List Int) (ox : Option Addr) (nx kx : Nat) (Lx : lx.length = nx) (hlx : intsIn w lx (.slice ox nx kx)) (lv : List Int) (ov : Option Addr) (nv kv : Nat) (Lv : lv.length = nv) (hlv : kIn .i32 w lv (.slice ov nv kv)) (hv32 : ∀ i, -2147483648 ≤ lv.getD i 0 ∧ lv.getD i 0 ≤ 2147483647) (lm : List Int) (om : Option Addr) (nm km : Nat) (Lm : lm.length = nm) (hlm : kIn .u8 w lm (.slice om nm km)) (hm8 : ∀ i, 0 ≤ lm.getD i 0 ∧ lm.getD i 0 ≤ 255) (op v x u c d : Int) (f0 f1 : Nat) (hd wa wb : Bool) (hf0 : f0 < 256) (hf1 : f1 < 256) :
    Calls Try.prog 4 #[.agg #[.int .u8 (xa : Int), .int .u8 (xb : Int), .slice ox nx kx, .slice ov nv kv, .slice om nm km], .agg #[.int .i64 op, .int .i64 v, .int .i64 x, .int .i64 u, .int .i64 c, .int .i64 d, .int .u8 (f0 : Int), .int .u8 (f1 : Int), .bool hd, .bool wa, .bool wb]] w fun e w' => e = .returned (.bool true) ∧ Below w.heap.size w w' := by
  obtain ⟨w0, hw0⟩ : ∃ w0, ((w.alloc (.cells #[.int .u8 (xa : Int), .int .u8 (xb : Int), .slice ox nx kx, .slice ov nv kv, .slice om nm km] 49)).alloc (.cells #[.int .i64 op, .int .i64 v, .int .i64 x, .int .i64 u, .int .i64 c, .int .i64 d, .int .u8 (f0 : Int), .int .u8 (f1 : Int), .bool hd, .bool wa, .bool wb] 28)) = w0 := ⟨_, rfl⟩
  have B0 : Hid (Below w.heap.size w w0) := hidA (by rw [← hw0]; exact (((Below.refl _ _).alloc (by first | exact Nat.le_refl _ | (simp; done) | (simp; omega) | omega) _).alloc (by first | exact Nat.le_refl _ | (simp; done) | (simp; omega) | omega) _))
  have hsz : w.heap.size + 1 < w0.heap.size := by rw [← hw0]; simp
  have PK : Hid (∀ W, Below w0.heap.size w0 W → W.cell? ⟨w.heap.size, 0, none⟩ = some (.int .u8 (xa : Int)) ∧ W.cell? ⟨w.heap.size, 1, none⟩ = some (.int .u8 (xb : Int)) ∧ W.cell? ⟨w.heap.size, 2, none⟩ = some (.slice ox nx kx) ∧ W.cell? ⟨w.heap.size, 3, none⟩ = some (.slice ov nv kv) ∧ W.cell? ⟨w.heap.size, 4, none⟩ = some (.slice om nm km) ∧ W.cell? ⟨w.heap.size + 1, 0, none⟩ = some (.int .i64 op) ∧ W.cell? ⟨w.heap.size + 1, 1, none⟩ = some (.int .i64 v) ∧ W.cell? ⟨w.heap.size + 1, 2, none⟩ = some (.int .i64 x) ∧ W.cell? ⟨w.heap.size + 1, 3, none⟩ = some (.int .i64 u) ∧ W.cell? ⟨w.heap.size + 1, 4, none⟩ = some (.int .i64 c) ∧ W.cell? ⟨w.heap.size + 1, 5, none⟩ = some (.int .i64 d) ∧ W.cell? ⟨w.heap.size + 1, 6, none⟩ = some (.int .u8 (f0 : Int)) ∧ W.cell? ⟨w.heap.size + 1, 7, none⟩ = some (.int .u8 (f1 : Int)) ∧ W.cell? ⟨w.heap.size + 1, 8, none⟩ = some (.bool hd) ∧ W.cell? ⟨w.heap.size + 1, 9, none⟩ = some (.bool wa) ∧ W.cell? ⟨w.heap.size + 1, 10, none⟩ = some (.bool wb) ∧ w.heap.size < W.heap.size ∧ w.heap.size + 1 < W.heap.size) := hidA (fun W hW => ⟨cellA hW (by rw [← hw0]; simp [go_sem]), cellA hW (by rw [← hw0]; simp [go_sem]), cellA hW (by rw [← hw0]; simp [go_sem]), cellA hW (by rw [← hw0]; simp [go_sem]), cellA hW (by rw [← hw0]; simp [go_sem]), cellA hW (by rw [← hw0]; simp [go_sem]), cellA hW (by rw [← hw0]; simp [go_sem]), cellA hW (by rw [← hw0]; simp [go_sem]), cellA hW (by rw [← hw0]; simp [go_sem]), cellA hW (by rw [← hw0]; simp [go_sem]), cellA hW (by rw [← hw0]; simp [go_sem]), cellA hW (by rw [← hw0]; simp [go_sem]), cellA hW (by rw [← hw0]; simp [go_sem]), cellA hW (by rw [← hw0]; simp [go_sem]), cellA hW (by rw [← hw0]; simp [go_sem]), cellA hW (by rw [← hw0]; simp [go_sem]), (by have h0 := hW.size; have h1 := hsz; omega), (by have h0 := hW.size; have h1 := hsz; omega)⟩)
  have Hw := hidA hw0; clear hw0
  have FRW : Hid (∀ W, Below w0.heap.size w0 W → ∀ i, W.frozen? ⟨w.heap.size + 1, i, none⟩ = false) := hidA (fun W hW i => (hW.frozen (p := ⟨w.heap.size + 1, i, none⟩) hsz).trans (by rw [← Hw.out]; simp [go_sem]))
  have Ix := hidA (intsIn_below B0.out hlx)
  have Kv := hidA (kIn_below B0.out hlv)
  have Km := hidA (kIn_below B0.out hlm)
  clear hlx hlv hlm
  go_enter Try.func4, Try.ntmps4
  go_upto_region 1 with (fail)
  rw [Hw.out]
  clear Hw
  obtain ⟨c0, c1, c2, c3, c4, c5, c6, c7, c8, c9, c10, c11, c12, c13, c14, c15, z0, z1⟩ := PK.out _ (Below.refl _ _)
  have FR := hidA (FRW.out _ (Below.refl _ _))
  have HB := B0
  clear PK FRW B0 hsz z0 z1
  obtain ⟨n, hn'⟩ : ∃ n, varsN xa = n := ⟨_, rfl⟩
  obtain ⟨m, hm'⟩ : ∃ m, parN xa xb = m := ⟨_, rfl⟩
  have n5 : n ≤ 5 := by rw [← hn']; exact (varsN_bd xa).2
  have n1 : 1 ≤ n := by rw [← hn']; exact (varsN_bd xa).1
  have m3 : m ≤ 3 := by rw [← hm']; exact (parN_bd xa xb).1
  have hmn := hidA (show m ≤ n by rw [← hm', ← hn']; exact (parN_bd xa xb).2)
  have hn := hidA hn'
  have hm := hidA hm'
  clear hn' hm'
  obtain ⟨V, eV⟩ : ∃ V, valsL n lv = V := ⟨_, rfl⟩
  have LW := hidA (show V.length = n by rw [← eV]; exact valsL_len n lv)
  have HW32 := hidA (show ∀ i, -2147483648 ≤ V.getD i 0 ∧ V.getD i 0 ≤ 2147483647 by rw [← eV]; exact valsL_bd n hv32)
  obtain ⟨K, eK⟩ : ∃ K, tightZ V lm m = K := ⟨_, rfl⟩
  have HK := hidA (show hasB n m K (fun i => V.getD i 0) = true by rw [← eK]; exact tight_has HW32.out hm8)
  have OK := hidA (show Zok n m K by rw [← eK]; exact tight_ok n m HW32.out hm8)
  have HVe := hidA eV
  have HKe := hidA eK
  have hv32 := hidA hv32
  have hm8 := hidA hm8
  have Lx := hidA Lx
  have Lv := hidA Lv
  have Lm := hidA Lm
  clear eV eK
  go_upto_region 4 with ((go_at_call 9; (with_reducible refine (examples_any _).mono ?_); rintro e w1 ⟨rfl, hb⟩; have Kv' := hidA (kIn_below hb Kv.out); clear Kv; have Kv := Kv'; clear Kv'; have Km' := hidA (kIn_below hb Km.out); clear Km; have Km := Km'; clear Km'; have FR' := hidA (fun i => ((hb.frozen (p := ⟨w.heap.size + 1, i, none⟩) (by have h := World.block_lt_of_cell? _ _ c5; exact h)).trans (FR.out i))); clear FR; have FR := FR'; clear FR'; have HB' := hidA (stepA HB.out hb); clear HB; have HB := HB'; clear HB'; have c0' := cellA hb c0; clear c0; have c0 := c0'; clear c0'; have c1' := cellA hb c1; clear c1; have c1 := c1'; clear c1'; have c2' := cellA hb c2; clear c2; have c2 := c2'; clear c2'; have c3' := cellA hb c3; clear c3; have c3 := c3'; clear c3'; have c4' := cellA hb c4; clear c4; have c4 := c4'; clear c4'; have c5' := cellA hb c5; clear c5; have c5 := c5'; clear c5'; have c6' := cellA hb c6; clear c6; have c6 := c6'; clear c6'; have c7' := cellA hb c7; clear c7; have c7 := c7'; clear c7'; have c8' := cellA hb c8; clear c8; have c8 := c8'; clear c8'; have c9' := cellA hb c9; clear c9; have c9 := c9'; clear c9'; have c10' := cellA hb c10; clear c10; have c10 := c10'; clear c10'; have c11' := cellA hb c11; clear c11; have c11 := c11'; clear c11'; have c12' := cellA hb c12; clear c12; have c12 := c12'; clear c12'; have c13' := cellA hb c13; clear c13; have c13 := c13'; clear c13'; have c14' := cellA hb c14; clear c14; have c14 := c14'; clear c14'; have c15' := cellA hb c15; clear c15; have c15 := c15'; clear c15'; have Ix' := hidA (intsIn_below hb Ix.out); clear Ix; have Ix := Ix'; clear Ix'; clear hb))
  go_upto_region 5 with ((go_at_call 10; (with_reducible refine ((made3 hn.out hm.out _ hxa hxb lx ox nx kx Lx.out Ix.out rfl)).mono ?_); rintro e w2 ⟨bg, cg, Rg, Cg, rfl, hg, hb⟩; have Kv' := hidA (kIn_below hb Kv.out); clear Kv; have Kv := Kv'; clear Kv'; have Km' := hidA (kIn_below hb Km.out); clear Km; have Km := Km'; clear Km'; have FR' := hidA (fun i => ((hb.frozen (p := ⟨w.heap.size + 1, i, none⟩) (by have h := World.block_lt_of_cell? _ _ c5; exact h)).trans (FR.out i))); clear FR; have FR := FR'; clear FR'; have HB' := hidA (stepA HB.out hb); clear HB; have HB := HB'; clear HB'; have c0' := cellA hb c0; clear c0; have c0 := c0'; clear c0'; have c1' := cellA hb c1; clear c1; have c1 := c1'; clear c1'; have c2' := cellA hb c2; clear c2; have c2 := c2'; clear c2'; have c3' := cellA hb c3; clear c3; have c3 := c3'; clear c3'; have c4' := cellA hb c4; clear c4; have c4 := c4'; clear c4'; have c5' := cellA hb c5; clear c5; have c5 := c5'; clear c5'; have c6' := cellA hb c6; clear c6; have c6 := c6'; clear c6'; have c7' := cellA hb c7; clear c7; have c7 := c7'; clear c7'; have c8' := cellA hb c8; clear c8; have c8 := c8'; clear c8'; have c9' := cellA hb c9; clear c9; have c9 := c9'; clear c9'; have c10' := cellA hb c10; clear c10; have c10 := c10'; clear c10'; have c11' := cellA hb c11; clear c11; have c11 := c11'; clear c11'; have c12' := cellA hb c12; clear c12; have c12 := c12'; clear c12'; have c13' := cellA hb c13; clear c13; have c13 := c13'; clear c13'; have c14' := cellA hb c14; clear c14; have c14 := c14'; clear c14'; have c15' := cellA hb c15; clear c15; have c15 := c15'; clear c15'; have Ix' := hidA (intsIn_below hb Ix.out); clear Ix; have Ix := Ix'; clear Ix'; clear hb; have Hg := hidA hg; clear hg))
  go_upto_region 6 with ((go_at_call 31; (with_reducible refine (values_any _ bg n cg n5 lv ov nv kv Lv.out Kv.out hv32.out).mono ?_); rintro e w3 ⟨gv, cv, rfl, hgv, hi, hb⟩; have hgv1 : w.heap.size + 1 < w2.heap.size := World.block_lt_of_cell? _ _ c5; have Kv' := hidA (kIn_below hb Kv.out); clear Kv; have Kv := Kv'; clear Kv'; have Km' := hidA (kIn_below hb Km.out); clear Km; have Km := Km'; clear Km'; have FR' := hidA (fun i => ((hb.frozen (p := ⟨w.heap.size + 1, i, none⟩) (by have h := World.block_lt_of_cell? _ _ c5; exact h)).trans (FR.out i))); clear FR; have FR := FR'; clear FR'; have HB' := hidA (stepA HB.out hb); clear HB; have HB := HB'; clear HB'; have Hg' := hidA (Hg.out.belowA hb); clear Hg; have Hg := Hg'; clear Hg'; have c0' := cellA hb c0; clear c0; have c0 := c0'; clear c0'; have c1' := cellA hb c1; clear c1; have c1 := c1'; clear c1'; have c2' := cellA hb c2; clear c2; have c2 := c2'; clear c2'; have c3' := cellA hb c3; clear c3; have c3 := c3'; clear c3'; have c4' := cellA hb c4; clear c4; have c4 := c4'; clear c4'; have c5' := cellA hb c5; clear c5; have c5 := c5'; clear c5'; have c6' := cellA hb c6; clear c6; have c6 := c6'; clear c6'; have c7' := cellA hb c7; clear c7; have c7 := c7'; clear c7'; have c8' := cellA hb c8; clear c8; have c8 := c8'; clear c8'; have c9' := cellA hb c9; clear c9; have c9 := c9'; clear c9'; have c10' := cellA hb c10; clear c10; have c10 := c10'; clear c10'; have c11' := cellA hb c11; clear c11; have c11 := c11'; clear c11'; have c12' := cellA hb c12; clear c12; have c12 := c12'; clear c12'; have c13' := cellA hb c13; clear c13; have c13 := c13'; clear c13'; have c14' := cellA hb c14; clear c14; have c14 := c14'; clear c14'; have c15' := cellA hb c15; clear c15; have c15 := c15'; clear c15'; have Ix' := hidA (intsIn_below hb Ix.out); clear Ix; have Ix := Ix'; clear Ix'; clear hb; rw [HVe.out] at hi; have Iw := hidA hi; clear hi))
  have gvn : w.heap.size + 1 ≠ gv := by omega
  have lok : w.heap.size + 1 < w3.heap.size := World.block_lt_of_cell? _ _ c5
  clear hgv hgv1
  go_upto_region 7 with ((go_at_call 32; (with_reducible refine ((tight_any _ cg Hg.out n5 m3 hmn.out V (some ⟨gv, 0, none⟩) cv Iw.out LW.out HW32.out lm om nm km Lm.out Km.out hm8.out)).mono ?_); rintro e w4 ⟨bk, ck, Rk, Ck, rfl, hg, hb⟩; have Kv' := hidA (kIn_below hb Kv.out); clear Kv; have Kv := Kv'; clear Kv'; have Km' := hidA (kIn_below hb Km.out); clear Km; have Km := Km'; clear Km'; have FR' := hidA (fun i => ((hb.frozen (p := ⟨w.heap.size + 1, i, none⟩) (by have h := World.block_lt_of_cell? _ _ c5; exact h)).trans (FR.out i))); clear FR; have FR := FR'; clear FR'; have HB' := hidA (stepA HB.out hb); clear HB; have HB := HB'; clear HB'; have Hg' := hidA (Hg.out.belowA hb); clear Hg; have Hg := Hg'; clear Hg'; have c0' := cellA hb c0; clear c0; have c0 := c0'; clear c0'; have c1' := cellA hb c1; clear c1; have c1 := c1'; clear c1'; have c2' := cellA hb c2; clear c2; have c2 := c2'; clear c2'; have c3' := cellA hb c3; clear c3; have c3 := c3'; clear c3'; have c4' := cellA hb c4; clear c4; have c4 := c4'; clear c4'; have c5' := cellA hb c5; clear c5; have c5 := c5'; clear c5'; have c6' := cellA hb c6; clear c6; have c6 := c6'; clear c6'; have c7' := cellA hb c7; clear c7; have c7 := c7'; clear c7'; have c8' := cellA hb c8; clear c8; have c8 := c8'; clear c8'; have c9' := cellA hb c9; clear c9; have c9 := c9'; clear c9'; have c10' := cellA hb c10; clear c10; have c10 := c10'; clear c10'; have c11' := cellA hb c11; clear c11; have c11 := c11'; clear c11'; have c12' := cellA hb c12; clear c12; have c12 := c12'; clear c12'; have c13' := cellA hb c13; clear c13; have c13 := c13'; clear c13'; have c14' := cellA hb c14; clear c14; have c14 := c14'; clear c14'; have c15' := cellA hb c15; clear c15; have c15 := c15'; clear c15'; have Ix' := hidA (intsIn_below hb Ix.out); clear Ix; have Ix := Ix'; clear Ix'; have Iw' := hidA (intsIn_below hb Iw.out); clear Iw; have Iw := Iw'; clear Iw'; clear hb; have Hk := hidA hg; clear hg; rw [HKe.out] at Hk))
  have Hk' := hidA (Hk.out.lo_le (lo' := w.heap.size + 1 + 1) (by omega))
  clear Hk
  have Hk := Hk'
  clear Hk' lok Hg Ix Kv Km HVe HKe hv32 hm8 Lx Lv Lm hn hm c0 c1 c2 c3 c4
  go_upto_region 8 with ((go_at_call 33; (with_reducible refine (clipped_any op v x u c d f0 f1 hd wa wb n n1 n5 _).mono ?_); rintro e w5 ⟨⟨v1, x1, u1, m1, m2, m3', rfl⟩, hb⟩; have FR' := hidA (fun i => ((hb.frozen (p := ⟨w.heap.size + 1, i, none⟩) (by have h := World.block_lt_of_cell? _ _ c5; exact h)).trans (FR.out i))); clear FR; have FR := FR'; clear FR'; have HB' := hidA (stepA HB.out hb); clear HB; have HB := HB'; clear HB'; have Hk' := hidA (Hk.out.belowA hb); clear Hk; have Hk := Hk'; clear Hk'; have c5' := cellA hb c5; clear c5; have c5 := c5'; clear c5'; have c6' := cellA hb c6; clear c6; have c6 := c6'; clear c6'; have c7' := cellA hb c7; clear c7; have c7 := c7'; clear c7'; have c8' := cellA hb c8; clear c8; have c8 := c8'; clear c8'; have c9' := cellA hb c9; clear c9; have c9 := c9'; clear c9'; have c10' := cellA hb c10; clear c10; have c10 := c10'; clear c10'; have c11' := cellA hb c11; clear c11; have c11 := c11'; clear c11'; have c12' := cellA hb c12; clear c12; have c12 := c12'; clear c12'; have c13' := cellA hb c13; clear c13; have c13 := c13'; clear c13'; have c14' := cellA hb c14; clear c14; have c14 := c14'; clear c14'; have c15' := cellA hb c15; clear c15; have c15 := c15'; clear c15'; have Iw' := hidA (intsIn_below hb Iw.out); clear Iw; have Iw := Iw'; clear Iw'; clear hb; have fr := FR.out))
  obtain ⟨w6, hw6⟩ : ∃ w6, (((((((((((w5.setCell ⟨w.heap.size + 1, 0, none⟩ (.int .i64 op)).setCell ⟨w.heap.size + 1, 1, none⟩ (.int .i64 (v1 : Int))).setCell ⟨w.heap.size + 1, 2, none⟩ (.int .i64 (x1 : Int))).setCell ⟨w.heap.size + 1, 3, none⟩ (.int .i64 (u1 : Int))).setCell ⟨w.heap.size + 1, 4, none⟩ (.int .i64 (wrap32 c))).setCell ⟨w.heap.size + 1, 5, none⟩ (.int .i64 (wrap32 d))).setCell ⟨w.heap.size + 1, 6, none⟩ (.int .u8 (f0 : Int))).setCell ⟨w.heap.size + 1, 7, none⟩ (.int .u8 (f1 : Int))).setCell ⟨w.heap.size + 1, 8, none⟩ (.bool hd)).setCell ⟨w.heap.size + 1, 9, none⟩ (.bool wa)).setCell ⟨w.heap.size + 1, 10, none⟩ (.bool wb)) = w6 := ⟨_, rfl⟩
  have B6 : Hid (Below w.heap.size w w6) := hidA (by rw [← hw6]; exact (by repeat (first | with_reducible exact Below.refl _ _ | with_reducible exact HB.out | with_reducible refine Below.setCell ?_ (by first | omega | (dsimp only; omega) | (simp; done) | (simp; omega)) _ | with_reducible refine Below.alloc ?_ (by first | omega | (dsimp only; omega) | (simp; done) | (simp; omega)) _ | with_reducible refine Below.drew ?_ | with_reducible refine drewnA ?_ _ | with_reducible refine Below.trans ?_ (HB.out.mono (by first | omega | (dsimp only; omega) | (simp; done) | (simp; omega))))))
  have e0 : w6.cell? ⟨w.heap.size + 1, 0, none⟩ = some (.int .i64 op) := by rw [← hw6]; simp [go_sem, c5, c6, c7, c8, c9, c10, c11, c12, c13, c14, c15]
  have e1 : w6.cell? ⟨w.heap.size + 1, 1, none⟩ = some (.int .i64 (v1 : Int)) := by rw [← hw6]; simp [go_sem, c5, c6, c7, c8, c9, c10, c11, c12, c13, c14, c15]
  have e2 : w6.cell? ⟨w.heap.size + 1, 2, none⟩ = some (.int .i64 (x1 : Int)) := by rw [← hw6]; simp [go_sem, c5, c6, c7, c8, c9, c10, c11, c12, c13, c14, c15]
  have e3 : w6.cell? ⟨w.heap.size + 1, 3, none⟩ = some (.int .i64 (u1 : Int)) := by rw [← hw6]; simp [go_sem, c5, c6, c7, c8, c9, c10, c11, c12, c13, c14, c15]
  have e4 : w6.cell? ⟨w.heap.size + 1, 4, none⟩ = some (.int .i64 (wrap32 c)) := by rw [← hw6]; simp [go_sem, c5, c6, c7, c8, c9, c10, c11, c12, c13, c14, c15]
  have e5 : w6.cell? ⟨w.heap.size + 1, 5, none⟩ = some (.int .i64 (wrap32 d)) := by rw [← hw6]; simp [go_sem, c5, c6, c7, c8, c9, c10, c11, c12, c13, c14, c15]
  have e6 : w6.cell? ⟨w.heap.size + 1, 6, none⟩ = some (.int .u8 (f0 : Int)) := by rw [← hw6]; simp [go_sem, c5, c6, c7, c8, c9, c10, c11, c12, c13, c14, c15]
  have e7 : w6.cell? ⟨w.heap.size + 1, 7, none⟩ = some (.int .u8 (f1 : Int)) := by rw [← hw6]; simp [go_sem, c5, c6, c7, c8, c9, c10, c11, c12, c13, c14, c15]
  have Hk6 := hidA (show Gr w6 (w.heap.size + 1 + 1) bk n m Rk Ck K by rw [← hw6]; exact (((((((((((Hk.out.far (by show w.heap.size + 1 < w.heap.size + 1 + 1; omega) _).far (by show w.heap.size + 1 < w.heap.size + 1 + 1; omega) _).far (by show w.heap.size + 1 < w.heap.size + 1 + 1; omega) _).far (by show w.heap.size + 1 < w.heap.size + 1 + 1; omega) _).far (by show w.heap.size + 1 < w.heap.size + 1 + 1; omega) _).far (by show w.heap.size + 1 < w.heap.size + 1 + 1; omega) _).far (by show w.heap.size + 1 < w.heap.size + 1 + 1; omega) _).far (by show w.heap.size + 1 < w.heap.size + 1 + 1; omega) _).far (by show w.heap.size + 1 < w.heap.size + 1 + 1; omega) _).far (by show w.heap.size + 1 < w.heap.size + 1 + 1; omega) _).far (by show w.heap.size + 1 < w.heap.size + 1 + 1; omega) _))
  have Iw6 := hidA (show intsIn w6 V (.slice (some ⟨gv, 0, none⟩) n cv) by rw [← hw6]; exact (intsIn_far (intsIn_far (intsIn_far (intsIn_far (intsIn_far (intsIn_far (intsIn_far (intsIn_far (intsIn_far (intsIn_far (intsIn_far Iw.out gvn _) gvn _) gvn _) gvn _) gvn _) gvn _) gvn _) gvn _) gvn _) gvn _) gvn _))
  rw [hw6]
  clear hw6 HB Hk Iw FR fr c5 c6 c7 c8 c9 c10 c11 c12 c13 c14 c15
  have HB := B6
  have Hk := Hk6
  have Iw := Iw6
  clear B6 Hk6 Iw6
  obtain ⟨so, hso⟩ : ∃ o, sideOp f0 = o := ⟨_, rfl⟩
  obtain ⟨sn, hsn⟩ : ∃ o, sideN f0 (x1 : Int) = o := ⟨_, rfl⟩
  obtain ⟨sv, hsv⟩ : ∃ o, sideV f0 (wrap32 c) = o := ⟨_, rfl⟩
  obtain ⟨sl, hsl⟩ : ∃ o, sideL f0 (x1 : Int) (wrap32 c) = o := ⟨_, rfl⟩
  have CSD := hidA (fun w => by have h := side_any f0 hf0 (x1 : Int) (wrap32 c) w; rw [hso, hsn, hsv, hsl] at h; exact h)
  have SOK := hidA (show ExOk sl by rw [← hsl]; exact sideL_ok f0 (by omega) (by have := wrap32_bd c; omega))
  clear hso hsn hsv hsl
  have k0 := Hk.out.cellh (i := 0) (by omega)
  go_upto_region 11 with ((go_at_call 34; (with_reducible refine (has_r ck Hk.out _ _ _ Iw.out LW.out hmn.out n5 HW32.out HK.out).mono ?_); rintro e v1 ⟨rfl, rfl⟩))
  clear k0
  by_cases hvm : v1 < m
  · have hvz : (v1 : Int) < (m : Int) := by omega
    go_wp2
    go_ret
    exact ⟨rfl, HB.out⟩
  · have hvz : (m : Int) ≤ (v1 : Int) := by omega
    have hvz2 : decide ((v1 : Nat) < m) = false := by simp; omega
    have hvm2 : m ≤ v1 := by omega
    clear hvm
    go_upto_region 14 with ((go_at_call 11; (with_reducible refine (CSD.out _).mono ?_); rintro e w7 ⟨oa, cap, rfl, hx, hb⟩; have HB' := hidA (stepA HB.out hb); clear HB; have HB := HB'; clear HB'; have Hk' := hidA (Hk.out.belowA hb); clear Hk; have Hk := Hk'; clear Hk'; have e0' := cellA hb e0; clear e0; have e0 := e0'; clear e0'; have e1' := cellA hb e1; clear e1; have e1 := e1'; clear e1'; have e2' := cellA hb e2; clear e2; have e2 := e2'; clear e2'; have e3' := cellA hb e3; clear e3; have e3 := e3'; clear e3'; have e4' := cellA hb e4; clear e4; have e4 := e4'; clear e4'; have e5' := cellA hb e5; clear e5; have e5 := e5'; clear e5'; have e6' := cellA hb e6; clear e6; have e6 := e6'; clear e6'; have e7' := cellA hb e7; clear e7; have e7 := e7'; clear e7'; have Iw' := hidA (intsIn_below hb Iw.out); clear Iw; have Iw := Iw'; clear Iw'; clear hb; have HX7 := hidA (hx.ex so sn sv); clear hx))
    obtain ⟨E, hE⟩ : ∃ d, w7.heap.size = d := ⟨_, rfl⟩
    obtain ⟨w8, hw8⟩ : ∃ w8, w7.alloc (.cells #[.int .i64 so, .int .i64 sn, .int .i64 sv, .slice oa sl.length cap] 34) = w8 := ⟨_, rfl⟩
    have hb : Below w7.heap.size w7 w8 := by rw [← hw8]; exact below_al _ _
    have E0 : w8.cell? ⟨E, 0, none⟩ = some (.int .i64 so) := by rw [← hw8, ← hE]; simp [go_sem]
    have E1 : w8.cell? ⟨E, 1, none⟩ = some (.int .i64 sn) := by rw [← hw8, ← hE]; simp [go_sem]
    have E2 : w8.cell? ⟨E, 2, none⟩ = some (.int .i64 sv) := by rw [← hw8, ← hE]; simp [go_sem]
    have E3 : w8.cell? ⟨E, 3, none⟩ = some (.slice oa sl.length cap) := by rw [← hw8, ← hE]; simp [go_sem]
    have HX := hidA (exIn_below hb _ _ HX7.out)
    rw [hw8, hE]
    have HB' := hidA (stepA HB.out hb); clear HB; have HB := HB'; clear HB'; have Hk' := hidA (Hk.out.belowA hb); clear Hk; have Hk := Hk'; clear Hk'; have e0' := cellA hb e0; clear e0; have e0 := e0'; clear e0'; have e1' := cellA hb e1; clear e1; have e1 := e1'; clear e1'; have e2' := cellA hb e2; clear e2; have e2 := e2'; clear e2'; have e3' := cellA hb e3; clear e3; have e3 := e3'; clear e3'; have e4' := cellA hb e4; clear e4; have e4 := e4'; clear e4'; have e5' := cellA hb e5; clear e5; have e5 := e5'; clear e5'; have e6' := cellA hb e6; clear e6; have e6 := e6'; clear e6'; have e7' := cellA hb e7; clear e7; have e7 := e7'; clear e7'; have Iw' := hidA (intsIn_below hb Iw.out); clear Iw; have Iw := Iw'; clear Iw'; clear hb
    clear hw8 hE HX7 CSD
    obtain ⟨wh, hwh⟩ : ∃ b, wholeB V n so sn sv sl = b := ⟨_, rfl⟩
    have CW : Hid (∀ W, Below w8.heap.size w8 W → Calls Try.prog 35 #[.agg #[.int .i64 so, .int .i64 sn, .int .i64 sv, .slice oa sl.length cap], .slice (some ⟨gv, 0, none⟩) n cv] W fun e w' => e = .returned (.bool wh) ∧ Below W.heap.size W w') := hidA (fun W hW => by have h := whole_any W so sn sv sl SOK.out oa _ cap rfl (exIn_below hW _ _ HX.out) V n _ cv LW.out (intsIn_below hW Iw.out) HW32.out; rw [hwh] at h; exact h)
    obtain ⟨HH, hHH⟩ : ∃ Z, setN n m K v1 wh (shiftT n so sn sl).2.2 (shiftT n so sn sl).1 (shiftT n so sn sl).2.1 = Z := ⟨_, rfl⟩
    have CT : Hid (∀ W, Below w8.heap.size w8 W → Calls Try.prog 15 #[.slice (some ⟨bk, 0, none⟩) n ck, .int .i64 (v1 : Int), .agg #[.int .i64 so, .int .i64 sn, .int .i64 sv, .slice oa sl.length cap], .bool wh] W fun e w' => GrRet W.heap.size n m HH W e w') := hidA (fun W hW => by have h := gset_any W ck (Hk.out.belowA hW) (v1 : Int) so sn sv sl oa cap (exIn_below hW _ _ HX.out) wh (by omega) (by omega) OK.out; rw [hHH] at h; exact h)
    obtain ⟨Ev, hEv⟩ : ∃ E, evalE V [] (.mk so sn sv sl) = E := ⟨_, rfl⟩
    have EB := hidA (show -2147483648 ≤ Ev ∧ Ev ≤ 2147483647 by rw [← hEv]; exact evalE_bd _ _ _)
    have HHK := hidA (show hasB n m HH (fun i => (V.set v1 Ev).getD i 0) = true by rw [← hHH, ← hwh, ← hEv]; exact sets_has HW32.out LW.out HK.out m1 hvm2 so sn sv sl)
    have HSAME := hidA (show ∀ i j, i ≠ v1 → HH i j = K i j from fun i j hij => by rw [← hHH]; unfold setN; rw [if_neg (by omega)])
    have HEv := hidA hEv
    clear hwh hHH hEv
    have PKV : Hid (∀ w', Below w8.heap.size w8 w' → w'.cell? ⟨w.heap.size + 1, 1, none⟩ = some (.int .i64 (v1 : Int)) ∧ w'.cell? ⟨E, 0, none⟩ = some (.int .i64 so) ∧ w'.cell? ⟨E, 1, none⟩ = some (.int .i64 sn) ∧ w'.cell? ⟨E, 2, none⟩ = some (.int .i64 sv) ∧ w'.cell? ⟨E, 3, none⟩ = some (.slice oa sl.length cap)) := hidA (fun W hW => ⟨cellA hW e1, cellA hW E0, cellA hW E1, cellA hW E2, cellA hW E3⟩)
    have hsD := (Below.refl w8.heap.size w8).drew
    go_region_held3 (fun w' => w'.cell? ⟨w.heap.size + 1, 1, none⟩ = some (.int .i64 (v1 : Int)) ∧ w'.cell? ⟨E, 0, none⟩ = some (.int .i64 so) ∧ w'.cell? ⟨E, 1, none⟩ = some (.int .i64 sn) ∧ w'.cell? ⟨E, 2, none⟩ = some (.int .i64 sv) ∧ w'.cell? ⟨E, 3, none⟩ = some (.slice oa sl.length cap) ∧ Below w8.heap.size w8 w')
      (first | with_reducible exact ⟨cellD e1, cellD E0, cellD E1, cellD E2, cellD E3, hsD⟩ | with_reducible exact ⟨(PKV.out _ (by assumption)).1, (PKV.out _ (by assumption)).2.1, (PKV.out _ (by assumption)).2.2.1, (PKV.out _ (by assumption)).2.2.2.1, (PKV.out _ (by assumption)).2.2.2.2, by assumption⟩)
      (first
        | ((go_at_call 35; refine (CW.out _ (by assumption)).mono ?_; rintro e w9 ⟨rfl, hb9⟩; have hs9 : Below w8.heap.size w8 w9 := stepA (by assumption) hb9))
        | ((go_at_call 15; refine (CT.out _ (by assumption)).mono ?_; rintro e w10 ⟨bh, ch, Rh, Ch, rfl, hg10, hb10⟩; have hs10 : Below w8.heap.size w8 w10 := stepA (by assumption) hb10)))
    clear PKV hsD CW CT
    have Hh := hidA hg10
    have hb := hs10
    clear hg10 hb10 hs10 hs9 hb9
    have HX' := hidA (exIn_below hb _ _ HX.out)
    clear HX
    have HX := HX'
    clear HX'
    have HB' := hidA (stepA HB.out hb); clear HB; have HB := HB'; clear HB'; have Hk' := hidA (Hk.out.belowA hb); clear Hk; have Hk := Hk'; clear Hk'; have e0' := cellA hb e0; clear e0; have e0 := e0'; clear e0'; have e1' := cellA hb e1; clear e1; have e1 := e1'; clear e1'; have e2' := cellA hb e2; clear e2; have e2 := e2'; clear e2'; have e3' := cellA hb e3; clear e3; have e3 := e3'; clear e3'; have e4' := cellA hb e4; clear e4; have e4 := e4'; clear e4'; have e5' := cellA hb e5; clear e5; have e5 := e5'; clear e5'; have e6' := cellA hb e6; clear e6; have e6 := e6'; clear e6'; have e7' := cellA hb e7; clear e7; have e7 := e7'; clear e7'; have E0' := cellA hb E0; clear E0; have E0 := E0'; clear E0'; have E1' := cellA hb E1; clear E1; have E1 := E1'; clear E1'; have E2' := cellA hb E2; clear E2; have E2 := E2'; clear E2'; have E3' := cellA hb E3; clear E3; have E3 := E3'; clear E3'; have Iw' := hidA (intsIn_below hb Iw.out); clear Iw; have Iw := Iw'; clear Iw'; clear hb
    obtain ⟨iI, hiI, hiIz, hiIs, hiIb⟩ := info_parts infoI
    have hcV : ∀ o j, j < n → (w10.alloc o).cell? ⟨gv, j, none⟩ = some (.int .i64 (V.getD j 0)) := fun o j hj => by
      obtain ⟨b, off, h1, h2⟩ := intsIn_at Iw.out (k := j) (by rw [LW.out]; exact hj)
      injection h1 with h1
      injection h1 with h11 h12 _
      subst h11 h12
      rw [Nat.zero_add] at h2
      exact cellA (below_al _ _) h2
    have HCV := hidA hcV
    clear hcV
    go_upto_region 16 with (at_builtin; refine wpList_append_row rfl (.tmp 62) (.tmp 63) 22 rfl iI _ Try.underlying22 hiI hiIz hiIs hiIb rfl _ rfl (fun j => V.getD j 0) (NewI.start w10 _) gv n cv rfl (fun j hj => HCV.out _ j hj) (by omega) ?_; intro v' w11 hI; obtain ⟨ys, hq⟩ := hI; obtain ⟨gw, cw, cur7, rfl, hgw, -, -⟩ := form_of hq.own hq.nn; have HQ := hidA hq; clear hq)
    have x11 := HQ.out.own.cellAt v1 (by omega)
    rw [HQ.out.val v1 m1] at x11
    have f11 : ∀ i, w11.frozen? ⟨gw, i, none⟩ = false := fun i => HQ.out.own.frozenAt i
    have lgw : gw < w11.heap.size := World.block_lt_of_cell? _ _ x11
    have hb11 := HQ.out.bel
    have CE : Hid (∀ W, Below w10.heap.size w10 W → Calls Try.prog 36 #[.agg #[.int .i64 so, .int .i64 sn, .int .i64 sv, .slice oa sl.length cap], .slice (some ⟨gv, 0, none⟩) n cv, .slice none 0 0] W fun e w' => e = .returned (.int .i64 Ev) ∧ Below W.heap.size W w') := hidA (fun W hW => by have h := reval_any V [] _ _ _ _ W (exIn_below hW _ _ HX.out) (intsIn_below hW Iw.out) (nil_in W); rw [HEv.out] at h; exact h)
    have PKV : Hid (∀ w', Below w10.heap.size w10 w' → w'.cell? ⟨w.heap.size + 1, 1, none⟩ = some (.int .i64 (v1 : Int)) ∧ w'.cell? ⟨E, 0, none⟩ = some (.int .i64 so) ∧ w'.cell? ⟨E, 1, none⟩ = some (.int .i64 sn) ∧ w'.cell? ⟨E, 2, none⟩ = some (.int .i64 sv) ∧ w'.cell? ⟨E, 3, none⟩ = some (.slice oa sl.length cap)) := hidA (fun W hW => ⟨cellA hW e1, cellA hW E0, cellA hW E1, cellA hW E2, cellA hW E3⟩)
    obtain ⟨y1, y2, y3, y4, y5⟩ := PKV.out _ hb11
    have hsD := hb11.drew
    have v1n : (v1 : Int) < (n : Int) := by omega
    go_region_held3 (fun w' => w'.cell? ⟨w.heap.size + 1, 1, none⟩ = some (.int .i64 (v1 : Int)) ∧ w'.cell? ⟨E, 0, none⟩ = some (.int .i64 so) ∧ w'.cell? ⟨E, 1, none⟩ = some (.int .i64 sn) ∧ w'.cell? ⟨E, 2, none⟩ = some (.int .i64 sv) ∧ w'.cell? ⟨E, 3, none⟩ = some (.slice oa sl.length cap) ∧ Below w10.heap.size w10 w')
      (first | with_reducible exact ⟨cellD y1, cellD y2, cellD y3, cellD y4, cellD y5, hsD⟩ | with_reducible exact ⟨(PKV.out _ (by assumption)).1, (PKV.out _ (by assumption)).2.1, (PKV.out _ (by assumption)).2.2.1, (PKV.out _ (by assumption)).2.2.2.1, (PKV.out _ (by assumption)).2.2.2.2, by assumption⟩ | exact (fun hB => ⟨(PKV.out _ hB).1, (PKV.out _ hB).2.1, (PKV.out _ hB).2.2.1, (PKV.out _ hB).2.2.2.1, (PKV.out _ hB).2.2.2.2, hB⟩) (hs12.setCell (by show w10.heap.size ≤ gw; exact hgw) _))
      (first | ((go_at_call 36; refine (CE.out _ (by assumption)).mono ?_; rintro e w12 ⟨rfl, hb12⟩; have hs12 : Below w10.heap.size w10 w12 := stepA (by assumption) hb12; have hb13 : Below w11.heap.size w11 w12 := (Below.refl _ _).drew.trans hb12; obtain ⟨hc12, hf12⟩ := bcell hb13)))
    obtain ⟨w13, hw13⟩ : ∃ w13, w12.setCell ⟨gw, v1, none⟩ (.int .i64 Ev) = w13 := ⟨_, rfl⟩
    have Is := hidA (show intsIn w13 (V.set v1 Ev) (.slice (some ⟨gw, 0, none⟩) n cw) by rw [← hw13]; exact HQ.out.setInts (ys := []) LW.out (fun _ _ => rfl) hb13 m1 Ev)
    have hb : Below w10.heap.size w10 w13 := by rw [← hw13]; exact hs12.setCell (by show w10.heap.size ≤ gw; exact hgw) _
    rw [hw13]
    clear hw13 PKV hsD CE hs12 hb12 hb13 hc12 hf12 y1 y2 y3 y4 y5 x11 f11 lgw hb11 HQ hgw HCV
    have HB' := hidA (stepA HB.out hb); clear HB; have HB := HB'; clear HB'; have Hk' := hidA (Hk.out.belowA hb); clear Hk; have Hk := Hk'; clear Hk'; have Hh' := hidA (Hh.out.belowA hb); clear Hh; have Hh := Hh'; clear Hh'; have e0' := cellA hb e0; clear e0; have e0 := e0'; clear e0'; have e1' := cellA hb e1; clear e1; have e1 := e1'; clear e1'; have e2' := cellA hb e2; clear e2; have e2 := e2'; clear e2'; have e3' := cellA hb e3; clear e3; have e3 := e3'; clear e3'; have e4' := cellA hb e4; clear e4; have e4 := e4'; clear e4'; have e5' := cellA hb e5; clear e5; have e5 := e5'; clear e5'; have e6' := cellA hb e6; clear e6; have e6 := e6'; clear e6'; have e7' := cellA hb e7; clear e7; have e7 := e7'; clear e7'; have E0' := cellA hb E0; clear E0; have E0 := E0'; clear E0'; have E1' := cellA hb E1; clear E1; have E1 := E1'; clear E1'; have E2' := cellA hb E2; clear E2; have E2 := E2'; clear E2'; have E3' := cellA hb E3; clear E3; have E3 := E3'; clear E3'; have Iw' := hidA (intsIn_below hb Iw.out); clear Iw; have Iw := Iw'; clear Iw'; clear hb
    have LS := hidA (show (V.set v1 Ev).length = n by rw [List.length_set]; exact LW.out)
    have S32 := hidA (show ∀ i, -2147483648 ≤ (V.set v1 Ev).getD i 0 ∧ (V.set v1 Ev).getD i 0 ≤ 2147483647 from fun i => by
      rw [getD_set V Ev (by rw [LW.out]; exact m1)]
      split
      · exact EB.out
      · exact HW32.out i)
    go_upto_region 19 with ((go_at_call 34; (with_reducible refine (has_r ch Hh.out _ _ _ Is.out LS.out hmn.out n5 S32.out HHK.out).mono ?_); rintro e v1 ⟨rfl, rfl⟩))
    go_upto_region 20 with (fail)
    go_loopg [12] n (fun g i wr => ∃ k : Nat, k ≤ n ∧ g = n - k ∧ i = .int .i64 k ∧ wr = w13)
    case atStart => exact ⟨0, Nat.zero_le _, rfl, rfl, rfl⟩
    case round =>
      obtain ⟨k, hk, rfl, rfl, hw⟩ := hrel
      subst hw
      by_cases hkn : k < n
      · have hkz : (k : Int) < (n : Int) := by omega
        go_wp2_with fail
        go_loopg [13] m (fun g i wx => ∃ j : Nat, j ≤ m ∧ g = m - j ∧ i = .int .i64 j ∧ wx = wr)
        case atStart => exact ⟨0, Nat.zero_le _, rfl, rfl, rfl⟩
        case round =>
          obtain ⟨j, hj, rfl, rfl, hw⟩ := hrel
          subst hw
          by_cases hjm : j < m
          · have hjz : (j : Int) < (m : Int) := by omega
            by_cases hkv : k = v1
            · have b1 : ((k : Int) == (v1 : Int)) = true := by simp; omega
              have b2 : ((k : Int) != (v1 : Int)) = false := by simp; omega
              clear hkv
              go_wp2
              go_roundg (m - (j + 1))
              case rel => exact ⟨j + 1, by omega, rfl, by go_num, rfl⟩
              case measure => omega
            · have b1 : ((k : Int) == (v1 : Int)) = false := by simp; omega
              have b2 : ((k : Int) != (v1 : Int)) = true := by simp; omega
              have BA := hidA (bound_in _ ch Hh.out k j hkn hjm (by omega) (by omega))
              have BB := hidA (bound_in _ ck Hk.out k j hkn hjm (by omega) (by omega))
              rw [HSAME.out k j hkv] at BA
              generalize K k j = y at *
              clear hkv
              go_wp2_with (first | ((go_at_call 25; (with_reducible refine (BA.out).mono ?_); rintro e v9 ⟨rfl, rfl⟩)) | ((go_at_call 25; (with_reducible refine (BB.out).mono ?_); rintro e v9 ⟨rfl, rfl⟩)))
              go_roundg (m - (j + 1))
              case rel => exact ⟨j + 1, by omega, rfl, by go_num, rfl⟩
              case measure => omega
          · obtain rfl : j = m := by omega
            go_wp2
            go_roundg (n - (k + 1))
            case rel => exact ⟨k + 1, by omega, rfl, by go_num, rfl⟩
            case measure => omega
      · obtain rfl : k = n := by omega
        go_wp2
        go_ret
        exact ⟨rfl, HB.out⟩
end Go.Proofs.Ytpfcfaakdhamlaa

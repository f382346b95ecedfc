/-
  The law MerkleRefuses of package merkle holds: places that there are not, lists that are too long, and paths that are one longer or shorter, are refused.
  No condition: every input that the row speaks of.
-/
import Derived.Test.YtagpinpelgkjcaaLchanges
namespace Go.Proofs.Ytagpinpelgkjcaa
open Go.ChangeShapes Go.WideShapes Go.ChangeAt Go.RowKit
set_option linter.unusedVariables false

theorem open_bad (L : List (BitVec 64)) (i : Int) (h : ¬ placeE L.length i = 0) : openP L i = [] := by unfold openP; rw [if_neg h]
theorem check_place (root leaf : BitVec 64) (n i : Int) (path : List (BitVec 64)) (E : Int) (h : placeE n i = E) (h0 : ¬ E = 0) : checkE root n i leaf path = E := by
  unfold checkE
  rw [if_pos (by rw [h]; exact h0), h]
theorem own_newB (w : World) (base : Nat) (h : base ≤ w.heap.size) (e : TypeId) : (w.alloc (.cells #[] e)).ownsRow base e 1 (.slice (some ⟨w.heap.size, 0, none⟩) 0 0) 0 [] := World.ownsRow_lit w #[] 0 h (by unfold maxLen; omega) rfl
/-- append of a list in memory to a row of the call's own, at a step of a region that draws its order. -/
theorem wp_append_u64 {P : Program} {w : World} {o : Oper} {a : Act} {K : Act → World → Prop} {Q : Exit → Act → World → Prop} (s x : Operand) (t : TypeId)
    (ho : o.op = .call { callee := .builtin .append, args := #[s, x], argTypes := #[t, t] })
    (base : Nat) (e : TypeId) (i : TypeInfo) (z : Value) (ht : P.underlying t = some (.slice e)) (hi : P.info? e = some i) (hz : i.zero = some z)
    (hsize : i.size = 1) (hby : i.bytes = 8) (hzs : z.cells.size = 1)
    (v : Value) (n : Nat) (xs : List Value) (hs : a.eval s = v) (hown : w.ownsRow base e 1 v n xs)
    (sv : Value) (l : List (BitVec 64)) (hx : a.eval x = sv) (hv : U64Big w sv l)
    (hsmall : n + l.length ≤ 2000000) (hbase : base ≤ w.heap.size)
    (h : ∀ v' w', w'.ownsRow base e 1 v' (n + l.length) (xs ++ u64s l) → w.grownBy w' v.ownBlock → K (a.put o.dst v') w') : o.wp P a w K Q := by
  obtain ⟨p, c, rfl, c1, c2, hp, h2⟩ := hv
  by_cases h0 : l.length = 0
  · obtain rfl := List.eq_nil_of_length_eq_zero h0
    cases p with
    | none =>
      obtain rfl := hp rfl
      have hrun := run_append_owned_none (P := P) (w := w) base t o.type e i 1 ht hi v n xs hown
      unfold Oper.wp
      simp [execOp, ho, resolve, invoke, builtin, hs, hx, hrun, Result.andThen]
      exact h _ _ (by simpa [u64s] using hown) (World.grownBy.refl _ _)
    | some ad =>
      refine wp_append_own w s x t ho base e i z 1 8 ht hi hz hsize hby hzs (by omega) v n xs hs hown ad 0 c [] hx rfl (by intro j u hj; cases hj) (by intro u hu; cases hu) (by unfold maxLen; simp at hsmall; omega) (by simp at hsmall; omega) hbase ?_
      intro v' w' hown' hg _
      exact h v' w' (by simpa [u64s] using hown') hg
  · obtain ⟨b, o', rfl, hc⟩ := h2 h0
    refine wp_append_own w s x t ho base e i z 1 8 ht hi hz hsize hby hzs (by omega) v n xs hs hown ⟨b, o', none⟩ l.length c (u64s l) hx (by simp [u64s]) ?_ (u64sOne l) (by unfold maxLen; omega) (by omega) hbase ?_
    · intro j u hj
      have hj2 := (List.getElem?_eq_some_iff.1 hj).1
      rw [u64s_len] at hj2
      have e1 : (⟨b, o', none⟩ : Addr).add j = ⟨b, o' + j, none⟩ := by first | (simp [Addr.add]; done) | (simp [Addr.add]; omega)
      rw [e1, hc j hj2, ← hj]
      simp [u64s, hj2]
    · intro v' w' hown' hg _
      exact h v' w' hown' hg
theorem step_append_u64 {P : Program} {w : World} {ops : Array Oper} {o : Oper} {a : Act} {K : Act → World → Prop} {Q : Exit → Act → World → Prop} {E : Prop} (hgd : Region.wanted o (yielded ops a.tmps) = true) (s x : Operand) (t : TypeId)
    (ho : o.op = .call { callee := .builtin .append, args := #[s, x], argTypes := #[t, t] })
    (base : Nat) (e : TypeId) (i : TypeInfo) (z : Value) (ht : P.underlying t = some (.slice e)) (hi : P.info? e = some i) (hz : i.zero = some z)
    (hsize : i.size = 1) (hby : i.bytes = 8) (hzs : z.cells.size = 1)
    (v : Value) (n : Nat) (xs : List Value) (hs : a.eval s = v) (hown : w.ownsRow base e 1 v n xs)
    (sv : Value) (l : List (BitVec 64)) (hx : a.eval x = sv) (hv : U64Big w sv l)
    (hsmall : n + l.length ≤ 2000000) (hbase : base ≤ w.heap.size)
    (h : ∀ v' w', w'.ownsRow base e 1 v' (n + l.length) (xs ++ u64s l) → w.grownBy w' v.ownBlock → K (a.put o.dst v') w') : if Region.wanted o (yielded ops a.tmps) = true then Oper.wp P o a w K Q else E := by
  rw [if_pos hgd]
  exact wp_append_u64 s x t ho base e i z ht hi hz hsize hby hzs v n xs hs hown sv l hx hv hsmall hbase h
theorem u64_snoc0 {w : World} {base n : Nat} {v : Value} {P : List (BitVec 64)} (h : w.ownsRow base 23 1 v n (u64s P ++ [.int .u64 0])) (hn : (P ++ [0#64]).length ≤ 1000000) : U64At w v (P ++ [0#64]) := by
  refine U64At.of_own (base := base) (n := n) ?_ hn
  have e : (P ++ [0#64]).map (fun x => Value.int .u64 (x.toNat : Int)) = u64s P ++ [.int .u64 0] := by simp [u64s]
  rw [e]
  exact h
theorem check_atv {W y : World} {x : Int} (root leaf : BitVec 64) (n i E : Int) (path : List (BitVec 64)) (k : Nat) (p : Option Addr) (c : Nat) (hx : x = (leaf.toNat : Int)) (hk : path.length = k) (he : checkE root n i leaf path = E) (U : Hid (U64At W (.slice p k c) path)) (hb : Below W.heap.size W y) :
    Calls Try.prog 15 #[.int .u64 (root.toNat : Int), .int .i64 n, .int .i64 i, .agg #[.int .u64 x, .slice p k c]] y fun e w' => e = .returned (.int .i64 E) ∧ Below y.heap.size y w' := by
  subst hx
  exact check_at root leaf n i E path k p c hk he U hb
theorem cut_at {w : World} {p : Option Addr} {n c : Nat} {l : List (BitVec 64)} (h : U64At w (.slice p n c) l) (h1 : 1 ≤ l.length) : ∃ b o, p = some ⟨b, o, none⟩ ∧ n ≤ c ∧ U64At w (.slice (if c = 1 then some ⟨b, o, none⟩ else some ⟨b, o + 1, none⟩) (n - 1) (c - 1)) (l.drop 1) := by
  obtain ⟨-, b, o, e, -, -, h2, -, h3⟩ := U64G.cut (h.in_ (fun _ => True) (fun _ _ _ _ _ _ => trivial)) h1
  exact ⟨b, o, e, h2, h3.at_ (fun _ _ _ h => h)⟩
theorem z64 : (0 : Int) = ((0#64 : BitVec 64).toNat : Int) := rfl
/-- What is known of a check of nothing, at a later world. -/
theorem check_nil (root : BitVec 64) (n i E : Int) (he : checkE root n i 0#64 [] = E) (y : World) :
    Calls Try.prog 15 #[.int .u64 (root.toNat : Int), .int .i64 n, .int .i64 i, .agg #[.int .u64 0, .slice none 0 0]] y fun e w' => e = .returned (.int .i64 E) ∧ Below y.heap.size y w' := by
  subst he
  exact lcheck_any root 0#64 n i [] none 0 y (U64At.nil y)
set_option maxRecDepth 100000 in
set_option maxHeartbeats 4000000 in
theorem refuses_out_low (l : List (BitVec 64)) (v : Value) (n : Nat) (i : Int) (hn : n ≤ 255) (W : World) (hv : U64Big W v l) (hi : i < 0) :
    Calls Try.prog 8 #[v, .int .u8 (n : Int), .int .i64 i] W fun e w' => e = .returned (.bool true) ∧ Below W.heap.size W w' := by
  have HV := hid hv
  clear hv
  obtain ⟨N, hN⟩ : ∃ N, 1 + n % 100 = N := ⟨_, rfl⟩
  have hN1 : 1 ≤ N := by omega
  have hN2 : N ≤ 100 := by omega
  obtain ⟨L, hL⟩ : ∃ L, growB l N = L := ⟨_, rfl⟩
  have hLl : L.length = N := by rw [← hL]; exact growB_len l N
  have GR := hid (fun (x : Int) (hx : x = (N : Int)) (w : World) (h : Below W.heap.size W w) => hL ▸ grown_v l v N (by omega) hx w (HV.out.below h))
  have HX := hid (show (1 : Int) + (n : Int) % 100 = (N : Int) by omega)
  have hpl : placeE N i = 1 := by
    rcases place_cases N i with h | h | h | h <;> omega
  have HPL := hid (show placeE L.length i = 1 by rw [hLl]; exact hpl)
  have HOP := hid (open_bad L i (by rw [HPL.out]; omega))
  have HCK := hid (check_place (rootB L) 0#64 N i [] 1 hpl (by omega))
  have t1 : decide (i < 0) = true := by simpa using hi
  have HLl := hid hLl
  clear hN hL hLl hpl
  go_enter Try.func8, Try.ntmps8
  go_wp2_with fail
  refine (examples_any _).mono ?_
  rintro e w0 ⟨rfl, hb⟩
  have B0 := hid hb; clear hb
  go_wp2_with fail
  refine (GR.out _ HX.out _ B0.out).mono ?_
  rintro e w1 ⟨p1, c1, rfl, hu1, hb1⟩
  have U1 := hid hu1
  have B1 := hid (below_step B0.out hb1)
  clear hu1 hb1
  go_wp2_with fail
  refine (root_b _ _ _ U1.out).mono ?_
  rintro e w2 ⟨rfl, hb2⟩
  have B2 := hid hb2; clear hb2
  go_wp2_with fail
  refine (open_at L [] 1 _ i _ (U1.out.below B2.out) HOP.out HPL.out).mono ?_
  rintro e w3 ⟨p3, c3, rfl, hu3, hb3⟩
  have B3 := hid (below_step B2.out hb3)
  clear hu3 hb3
  have hb5 := below_a0 w3 (.cells #[.slice p3 0 c3, .int .i64 1] 32)
  have B5 := hid (below_step B3.out hb5)
  clear hb5
  go_wp2_with fail
  refine (check_nil (rootB L) N i 1 HCK.out _).mono ?_
  rintro e w6 ⟨rfl, hb6⟩
  have HE := hid (B1.out.trans ((B5.out.mono B1.out.size).trans (hb6.mono (by have := B1.out.size; have := B5.out.size; simp at this ⊢; omega))))
  clear hb6
  go_wp2_with fail
  go_ret
  exact ⟨rfl, HE.out⟩
set_option maxRecDepth 100000 in
set_option maxHeartbeats 4000000 in
theorem refuses_out_high (l : List (BitVec 64)) (v : Value) (n : Nat) (i : Int) (hn : n ≤ 255) (W : World) (hv : U64Big W v l) (hi : 0 ≤ i ∧ ((1 + n % 100 : Nat) : Int) ≤ i) :
    Calls Try.prog 8 #[v, .int .u8 (n : Int), .int .i64 i] W fun e w' => e = .returned (.bool true) ∧ Below W.heap.size W w' := by
  have HV := hid hv
  clear hv
  obtain ⟨N, hN⟩ : ∃ N, 1 + n % 100 = N := ⟨_, rfl⟩
  have hN1 : 1 ≤ N := by omega
  have hN2 : N ≤ 100 := by omega
  obtain ⟨L, hL⟩ : ∃ L, growB l N = L := ⟨_, rfl⟩
  have hLl : L.length = N := by rw [← hL]; exact growB_len l N
  have GR := hid (fun (x : Int) (hx : x = (N : Int)) (w : World) (h : Below W.heap.size W w) => hL ▸ grown_v l v N (by omega) hx w (HV.out.below h))
  have HX := hid (show (1 : Int) + (n : Int) % 100 = (N : Int) by omega)
  have hpl : placeE N i = 1 := by
    rcases place_cases N i with h | h | h | h <;> omega
  have HPL := hid (show placeE L.length i = 1 by rw [hLl]; exact hpl)
  have HOP := hid (open_bad L i (by rw [HPL.out]; omega))
  have HCK := hid (check_place (rootB L) 0#64 N i [] 1 hpl (by omega))
  have t1 : decide (i < 0) = false := by simp; omega
  have t2 : decide ((N : Int) ≤ i) = true := by simp; omega
  have HLl := hid hLl
  clear hN hL hLl hpl
  go_enter Try.func8, Try.ntmps8
  go_wp2_with fail
  refine (examples_any _).mono ?_
  rintro e w0 ⟨rfl, hb⟩
  have B0 := hid hb; clear hb
  go_wp2_with fail
  refine (GR.out _ HX.out _ B0.out).mono ?_
  rintro e w1 ⟨p1, c1, rfl, hu1, hb1⟩
  have U1 := hid hu1
  have B1 := hid (below_step B0.out hb1)
  clear hu1 hb1
  go_wp2_with fail
  refine (root_b _ _ _ U1.out).mono ?_
  rintro e w2 ⟨rfl, hb2⟩
  have B2 := hid hb2; clear hb2
  go_wp2_with fail
  refine (open_at L [] 1 _ i _ (U1.out.below B2.out) HOP.out HPL.out).mono ?_
  rintro e w3 ⟨p3, c3, rfl, hu3, hb3⟩
  have B3 := hid (below_step B2.out hb3)
  clear hu3 hb3
  have hb5 := below_a0 w3 (.cells #[.slice p3 0 c3, .int .i64 1] 32)
  have B5 := hid (below_step B3.out hb5)
  clear hb5
  go_wp2_with fail
  refine (check_nil (rootB L) N i 1 HCK.out _).mono ?_
  rintro e w6 ⟨rfl, hb6⟩
  have HE := hid (B1.out.trans ((B5.out.mono B1.out.size).trans (hb6.mono (by have := B1.out.size; have := B5.out.size; simp at this ⊢; omega))))
  clear hb6
  go_wp2_with fail
  go_ret
  exact ⟨rfl, HE.out⟩
set_option maxRecDepth 100000 in
set_option maxHeartbeats 4000000 in
theorem refuses_in_zero (l : List (BitVec 64)) (v : Value) (n kk : Nat) (hn : n ≤ 255) (W : World) (hv : U64Big W v l) (hi : Hid (kk < 1 + n % 100)) (hs : Hid ((sibs 0 (1 + n % 100) kk).length = 0)) :
    Calls Try.prog 8 #[v, .int .u8 (n : Int), .int .i64 (kk : Int)] W fun e w' => e = .returned (.bool true) ∧ Below W.heap.size W w' := by
  obtain ⟨i0, hi0, hz0, hz1, hz2⟩ := info_parts infoU64
  have HV := hid hv
  clear hv
  obtain ⟨N, hN⟩ : ∃ N, 1 + n % 100 = N := ⟨_, rfl⟩
  have hN1 : 1 ≤ N := by omega
  have hN2 : N ≤ 100 := by omega
  obtain ⟨L, hL⟩ : ∃ L, growB l N = L := ⟨_, rfl⟩
  have hLl : L.length = N := by rw [← hL]; exact growB_len l N
  have GR := hid (fun (x : Int) (hx : x = (N : Int)) (w : World) (h : Below W.heap.size W w) => hL ▸ grown_v l v N (by omega) hx w (HV.out.below h))
  have HX := hid (show (1 : Int) + (n : Int) % 100 = (N : Int) by omega)
  have hK1 : kk < N := by have := hi.out; omega
  obtain ⟨P, hP⟩ : ∃ P, pathB L kk = P := ⟨_, rfl⟩
  obtain ⟨np, hnp⟩ : ∃ np, P.length = np := ⟨_, rfl⟩
  have hnps : np = (sibs 0 N kk).length := by rw [← hnp, ← hP, pathB_len, hLl]
  have hp12 : np ≤ 12 := by rw [hnps]; exact sibs_len12 kk (by omega)
  have OP := opens_path L N kk hLl hK1 (by omega)
  rw [hP] at OP
  have hKL : kk < L.length := by omega
  obtain ⟨x, hx⟩ : ∃ x, L[kk]'hKL = x := ⟨_, rfl⟩
  have HX1 := hid hx
  obtain ⟨M, hM⟩ : ∃ M, growB L 4097 = M := ⟨_, rfl⟩
  have hMl : M.length = 4097 := by rw [← hM]; exact growB_len L 4097
  have GM := hid (fun (w : World) (p : Option Addr) (c : Nat) (h : U64At w (.slice p N c) L) => hM ▸ grown_v L _ 4097 (by omega) rfl w h.big)
  have hplM : placeE M.length kk = 2 := by rw [hMl]; unfold placeE; rw [if_pos (by omega)]
  have HOM := hid (open_bad M kk (by rw [hplM]; omega))
  have HPM := hid hplM
  have hpl2 : ∀ j : Int, placeE 4097 j = 2 := fun j => by unfold placeE; rw [if_pos (by omega)]
  have CM1 := hid (check_place (rootB L) 0#64 4097 kk P 2 (hpl2 _) (by omega))
  have CM2 := hid (check_place (rootB L) 0#64 4097 (-1) [] 2 (hpl2 _) (by omega))
  have hlong : (P ++ [0#64]).length = np + 1 := by rw [List.length_append, hnp]; rfl
  have HLONG := hid hlong
  have CL := hid (show checkE (rootB L) (N : Int) (kk : Int) x (P ++ [0#64]) = 40 from check_len (by omega) hK1 (by rw [hlong, hnps]; omega))
  have hz : np = 0 := by rw [hnps, ← hN]; exact hs.out
  have s1 : ((np : Int) == 0) = true := by rw [beq_iff_eq]; omega
  have s2 : decide ((0 : Int) < (np : Int)) = false := by simp; omega
  have s3 : decide (0 < np) = false := by simp; omega
  clear hz
  have HLl := hid hLl
  have HOP := hid OP.1
  have HPL := hid OP.2
  have HNP := hid hnp
  have t1 : decide ((kk : Int) < 0) = false := by simp
  have t2 : decide ((N : Int) ≤ (kk : Int)) = false := by simp; omega
  have t2' : decide (N ≤ kk) = false := by simp; omega
  have t3 : (0 : Int) ≤ (kk : Int) := by omega
  have t4 : (kk : Int) < (N : Int) := by omega
  clear hN hL hP OP hnp hnps hLl hx hM hMl hplM hpl2 hlong
  go_enter Try.func8, Try.ntmps8
  go_wp2_with fail
  refine (examples_any _).mono ?_
  rintro e w0 ⟨rfl, hb⟩
  have B0 := hid hb; clear hb
  go_wp2_with fail
  refine (GR.out _ HX.out _ B0.out).mono ?_
  rintro e w1 ⟨p1, c1, rfl, hu1, hb1⟩
  have U1 := hid hu1
  have B1 := hid (below_step B0.out hb1)
  obtain ⟨-, pp, cc, e1, -, -, -, h2⟩ := hu1
  have h2' := h2 (by have := HLl.out; omega)
  obtain ⟨b, o, e2, hc⟩ := h2'
  simp only [Value.slice.injEq] at e1
  obtain ⟨rfl, -, rfl⟩ := e1
  subst e2
  have hcell := hc kk hKL
  rw [HX1.out] at hcell
  have C1 := hid hcell
  clear hc hb1 hcell
  go_wp2_with fail
  refine (root_b _ _ _ U1.out).mono ?_
  rintro e w2 ⟨rfl, hb2⟩
  have B2 := hid hb2; clear hb2
  go_wp2_with fail
  refine (open_at L P 0 _ kk _ (U1.out.below B2.out) HOP.out HPL.out).mono ?_
  rintro e w3 ⟨p3, c3, rfl, hu3, hb3⟩
  rw [HNP.out] at hu3 ⊢
  have h5 := opened_box w3 (.slice p3 np c3) (.int .i64 0)
  have hb5 := below_a0 w3 (.cells #[.slice p3 np c3, .int .i64 0] 32)
  have B5 := hid (below_step (below_step B2.out hb3) hb5)
  have U5 := hid (hu3.below hb5)
  have H5 := hid h5
  clear h5 hb5 hu3 hb3
  go_wp2_with fail
  obtain ⟨W5, hW5⟩ : ∃ W5, w3.alloc (.cells #[.slice p3 np c3, .int .i64 0] 32) = W5 := ⟨_, rfl⟩
  rw [hW5] at H5 B5 U5 ⊢
  have HS5 := hid (show W5.heap.size = w3.heap.size + 1 by rw [← hW5]; simp)
  clear hW5
  have P0 := blk_cell H5.out (j := 0) (v := .slice p3 np c3) rfl
  refine wp_region_held_drew (S := fun W' => (W'.cell? ⟨w3.heap.size, 0, none⟩ = some (.slice p3 np c3))) (by kernel_rfl) ?_ (fun hHeld => ?_)
  · exact P0
  refine wpAnyH_take (i := 1) (oi := ({ dst := some 58, op := Op.fieldAddr 32 (Operand.tmp 10) 0, type := 0, pos := "law.go:160", after := #[], guard := none } : Oper)) (v := ?_) rfl (by kernel_rfl) (by kernel_rfl) (by kernel_rfl) (fun _ _ _ h => h) (Or.inl ⟨by rfl, ?_⟩) (by assumption) ?_
  rotate_left
  · intro w hSw; (try dsimp only at hSw); go_simp <;> with_reducible rfl
  (try simp only [Act.put, List.setIfInBounds_toArray, List.set_cons_zero, List.set_cons_succ])
  refine wpAnyH_take (i := 2) (oi := ({ dst := some 59, op := Op.load 22 (Operand.tmp 58), type := 22, pos := "law.go:160", after := #[{ on := 1, ground := Ground.data }], guard := none } : Oper)) (v := ?_) rfl (by kernel_rfl) (by kernel_rfl) (by kernel_rfl) (fun _ _ _ h => h) (Or.inl ⟨by rfl, ?_⟩) (by assumption) ?_
  rotate_left
  · intro w hSw; (try dsimp only at hSw); go_simp <;> with_reducible rfl
  (try simp only [Act.put, List.setIfInBounds_toArray, List.set_cons_zero, List.set_cons_succ])
  refine wpAnyH_take (i := 6) (oi := ({ dst := some 63, op := Op.fieldAddr 32 (Operand.tmp 10) 0, type := 0, pos := "law.go:160", after := #[{ on := 8, ground := Ground.gcOnly Departure.lateStores }], guard := none } : Oper)) (v := ?_) rfl (by kernel_rfl) (by kernel_rfl) (by kernel_rfl) (fun _ _ _ h => h) (Or.inl ⟨by rfl, ?_⟩) (by assumption) ?_
  rotate_left
  · intro w hSw; (try dsimp only at hSw); go_simp <;> with_reducible rfl
  (try simp only [Act.put, List.setIfInBounds_toArray, List.set_cons_zero, List.set_cons_succ])
  refine wpAnyH_take (i := 7) (oi := ({ dst := some 64, op := Op.load 22 (Operand.tmp 63), type := 22, pos := "law.go:160", after := #[{ on := 6, ground := Ground.data }, { on := 8, ground := Ground.gcOnly Departure.lateStores }], guard := none } : Oper)) (v := ?_) rfl (by kernel_rfl) (by kernel_rfl) (by kernel_rfl) (fun _ _ _ h => h) (Or.inl ⟨by rfl, ?_⟩) (by assumption) ?_
  rotate_left
  · intro w hSw; (try dsimp only at hSw); go_simp <;> with_reducible rfl
  (try simp only [Act.put, List.setIfInBounds_toArray, List.set_cons_zero, List.set_cons_succ])
  refine wpAnyH_ready (rs := [0, 4]) (by kernel_rfl) (by simp) ?_
  refine (AllReadyH.cons (o := ({ dst := some 57, op := Op.buildSlice 22 0 #[], type := 22, pos := "law.go:160", after := #[], guard := none } : Oper)) rfl (fun K hK => ?_) (AllReadyH.cons (o := ({ dst := some 61, op := Op.buildSlice 22 1 #[(0, Operand.const (Value.int IntKind.u64 0))], type := 22, pos := "law.go:160", after := #[], guard := none } : Oper)) rfl (fun K hK => ?_) AllReadyH.nil))
  · skip
    go_simp
    refine hK.out _ _ ?_ (fun hHeld => ?_)
    · exact cell_alloc _ P0
    have OE : ((W5.alloc (.cells #[] 23)).drew).ownsRow W5.heap.size 23 1 (.slice (some ⟨W5.heap.size, 0, none⟩) 0 0) 0 [] := own_newB W5 W5.heap.size (Nat.le_refl _) 23
    have BE : Below W5.heap.size W5 (W5.alloc (.cells #[] 23)).drew := (below_a0 W5 (.cells #[] 23)).drew
    clear hK K
    (try simp only [Act.put, List.setIfInBounds_toArray, List.set_cons_zero, List.set_cons_succ])
    refine wpAnyH_ready (rs := [3, 4]) (by kernel_rfl) (by simp) ?_
    refine (AllReadyH.cons (o := ({ dst := some 60, op := Op.call { callee := Callee.builtin Builtin.append, args := #[Operand.tmp 57, Operand.tmp 59], argTypes := #[22, 22] }, type := 22, pos := "law.go:160", after := #[{ on := 0, ground := Ground.data }, { on := 2, ground := Ground.data }], guard := none } : Oper)) rfl (fun K hK => ?_) (AllReadyH.cons (o := ({ dst := some 61, op := Op.buildSlice 22 1 #[(0, Operand.const (Value.int IntKind.u64 0))], type := 22, pos := "law.go:160", after := #[], guard := none } : Oper)) rfl (fun K hK => ?_) AllReadyH.nil))
    · skip
      refine step_append_u64 (by rfl) (.tmp 57) (.tmp 59) 22 (by rfl) W5.heap.size 23 i0 (.int .u64 0) Try.underlying22 hi0 hz0 hz1 hz2 (by rfl) (.slice (some ⟨W5.heap.size, 0, none⟩) 0 0) 0 [] (by rfl) OE (.slice p3 np c3) P (by rfl) (U5.out.below BE).big (by rw [HNP.out]; omega) BE.size ?_
      intro v6 w6 hown hg6
      have O6 : w6.ownsRow W5.heap.size 23 1 v6 np (u64s P) := by rw [HNP.out, Nat.zero_add, List.nil_append] at hown; exact hown
      have B6 : Below W5.heap.size W5 w6 := BE.grown hg6 BE.size (fun k e => (OE.lt k e).1)
      clear hown hg6
      refine hK.out _ _ ?_ (fun hHeld => ?_)
      · exact cell_below B6 P0
      clear hK K
      (try simp only [Act.put, List.setIfInBounds_toArray, List.set_cons_zero, List.set_cons_succ])
      refine wpAnyH_ready (rs := [4]) (by kernel_rfl) (by simp) ?_
      refine (AllReadyH.cons (o := ({ dst := some 61, op := Op.buildSlice 22 1 #[(0, Operand.const (Value.int IntKind.u64 0))], type := 22, pos := "law.go:160", after := #[], guard := none } : Oper)) rfl (fun K hK => ?_) AllReadyH.nil)
      go_simp
      refine hK.out _ _ ?_ (fun hHeld => ?_)
      · exact cell_alloc _ (cell_below B6 P0)
      have CZ : (w6.alloc (.cells #[.int .u64 0] 23)).cell? ⟨w6.heap.size, 0, none⟩ = some (.int .u64 0) := Boxed.cell (Boxed.new w6 23 (.int .u64 0))
      have B7 := below_a B6 (.cells #[.int .u64 0] 23)
      have O7 := O6.alloc (.cells #[.int .u64 0] 23)
      clear hK K
      (try simp only [Act.put, List.setIfInBounds_toArray, List.set_cons_zero, List.set_cons_succ])
      refine wpAnyH_ready (rs := [5]) (by kernel_rfl) (by simp) ?_
      refine (AllReadyH.cons (o := ({ dst := some 62, op := Op.call { callee := Callee.builtin Builtin.append, args := #[Operand.tmp 60, Operand.tmp 61], argTypes := #[22, 22] }, type := 22, pos := "law.go:160", after := #[{ on := 3, ground := Ground.data }, { on := 4, ground := Ground.data }, { on := 3, ground := Ground.chain }], guard := none } : Oper)) rfl (fun K hK => ?_) AllReadyH.nil)
      refine step_app1 (by rfl) (.tmp 60) (.tmp 61) 22 (by rfl) W5.heap.size 23 i0 (.int .u64 0) 8 Try.underlying22 hi0 hz0 hz1 hz2 (by rfl) (by decide) v6 np (u64s P) (by rfl) O7 _ (.int .u64 0) 1 (by rfl) CZ (by rfl) (by omega) B7.size ?_
      intro v8 w8 hown hg8
      have B8 : Below W5.heap.size W5 w8 := B7.grown hg8 B7.size (fun k e => (O7.lt k e).1)
      obtain ⟨p8, c8, rfl⟩ := own_form hown
      have U8 := hid (u64_snoc0 hown (by rw [HLONG.out]; omega))
      clear hown hg8
      refine hK.out _ _ ?_ (fun hHeld => ?_)
      · exact cell_below B8 P0
      clear hK K
      (try simp only [Act.put, List.setIfInBounds_toArray, List.set_cons_zero, List.set_cons_succ])
      refine wpAnyH_take (i := 8) (oi := ({ dst := some 11, op := Op.assign (Operand.tmp 62), type := 22, pos := "law.go:160", after := #[{ on := 5, ground := Ground.data }, { on := 5, ground := Ground.chain }, { on := 0, ground := Ground.phase }, { on := 1, ground := Ground.phase }, { on := 2, ground := Ground.phase }, { on := 3, ground := Ground.phase }, { on := 4, ground := Ground.phase }, { on := 5, ground := Ground.phase }, { on := 6, ground := Ground.textOnly Departure.lateStores }, { on := 7, ground := Ground.textOnly Departure.lateStores }], guard := none } : Oper)) (v := ?_) rfl (by kernel_rfl) (by kernel_rfl) (by kernel_rfl) (fun _ _ _ h => h) (Or.inl ⟨by rfl, ?_⟩) (by assumption) ?_
      rotate_left
      · intro w hSw; (try dsimp only at hSw); go_simp <;> with_reducible rfl
      (try simp only [Act.put, List.setIfInBounds_toArray, List.set_cons_zero, List.set_cons_succ])
      refine wpAnyH_take (i := 9) (oi := ({ dst := some 12, op := Op.assign (Operand.tmp 64), type := 22, pos := "law.go:160", after := #[{ on := 7, ground := Ground.data }, { on := 8, ground := Ground.chain }, { on := 0, ground := Ground.phase }, { on := 1, ground := Ground.phase }, { on := 2, ground := Ground.phase }, { on := 3, ground := Ground.phase }, { on := 4, ground := Ground.phase }, { on := 5, ground := Ground.phase }, { on := 6, ground := Ground.phase }, { on := 7, ground := Ground.phase }, { on := 8, ground := Ground.phase }], guard := none } : Oper)) (v := ?_) rfl (by kernel_rfl) (by kernel_rfl) (by kernel_rfl) (fun _ _ _ h => h) (Or.inl ⟨by rfl, ?_⟩) (by assumption) ?_
      rotate_left
      · intro w hSw; (try dsimp only at hSw); go_simp <;> with_reducible rfl
      (try simp only [Act.put, List.setIfInBounds_toArray, List.set_cons_zero, List.set_cons_succ])
      refine wpAnyH_done (by kernel_rfl) ?_ _
      clear hHeld
      have B8' := hid B8
      have U1x := hid ((U1.out.below B5.out).below B8)
      have U5x := hid (U5.out.below B8)
      have C8 := hid (cell_below B8 (cell_below B5.out C1.out))
      have P8 := hid (cell_below B8 P0)
      clear B8 P0
      go_wp2_with fail
      refine (GM.out _ _ _ U1x.out).mono ?_
      rintro e w9 ⟨p9, c9, rfl, hu9, hb9⟩
      have U9 := hid hu9
      have D9 := hid hb9
      clear hu9 hb9
      go_wp2_with fail
      refine (open_at M [] 2 _ kk _ U9.out HOM.out HPM.out).mono ?_
      rintro e w10 ⟨p10, c10, rfl, hu10, hb10⟩
      have D11 := hid (below_a (below_step D9.out hb10) (.cells #[.slice p10 0 c10, .int .i64 2] 32))
      have Q0 := cell_below D11.out P8.out
      clear hu10 hb10
      go_wp2_with fail
      clear Q0
      refine (check_atv (x := 0) (rootB L) 0#64 4097 kk 2 P np p3 c3 z64 HNP.out CM1.out U5x D11.out).mono ?_
      rintro e w12 ⟨rfl, hb12⟩
      have D12 := hid (below_step D11.out hb12)
      clear hb12
      go_wp2_with fail
      refine (check_nil (rootB L) 4097 (-1) 2 CM2.out _).mono ?_
      rintro e w13 ⟨rfl, hb13⟩
      have D13 := hid (below_step D12.out hb13)
      have Q1 := cell_below D13.out C8.out
      clear hb13
      go_wp2_with fail
      clear Q1
      refine (check_at (rootB L) x N kk 40 (P ++ [0#64]) (np + 1) p8 c8 HLONG.out CL.out U8 D13.out).mono ?_
      rintro e w14 ⟨rfl, hb14⟩
      have D14 := hid (below_step D13.out hb14)
      have Q2 := cell_below D14.out P8.out
      have Q3 := cell_below D14.out C8.out
      clear hb14
      go_wp2_with fail
      have HE := hid (B1.out.trans ((B5.out.mono B1.out.size).trans ((B8'.out.mono (by have := B1.out.size; have := B5.out.size; omega)).trans (D14.out.mono (by have := B1.out.size; have := B5.out.size; have := B8'.out.size; omega)))))
      go_ret
      exact ⟨rfl, HE.out⟩
    · skip
      go_simp
      refine hK.out _ _ ?_ (fun hHeld => ?_)
      · exact cell_alloc _ (cell_alloc _ P0)
      have OE2 : (((W5.alloc (.cells #[] 23)).alloc (.cells #[.int .u64 0] 23)).drew).ownsRow W5.heap.size 23 1 (.slice (some ⟨W5.heap.size, 0, none⟩) 0 0) 0 [] := (own_newB W5 W5.heap.size (Nat.le_refl _) 23).alloc (.cells #[.int .u64 0] 23)
      have BE2 : Below W5.heap.size W5 ((W5.alloc (.cells #[] 23)).alloc (.cells #[.int .u64 0] 23)).drew := (below_a (below_a0 W5 (.cells #[] 23)) (.cells #[.int .u64 0] 23)).drew
      clear OE BE
      have OE := OE2
      have BE := BE2
      clear OE2 BE2
      have CZ : ((W5.alloc (.cells #[] 23)).alloc (.cells #[.int .u64 0] 23)).drew.cell? ⟨W5.heap.size + 1, 0, none⟩ = some (.int .u64 0) := by
        have h := Boxed.cell (Boxed.new (W5.alloc (.cells #[] 23)) 23 (.int .u64 0))
        rw [World.size_alloc] at h
        exact h
      clear hK K
      (try simp only [Act.put, List.setIfInBounds_toArray, List.set_cons_zero, List.set_cons_succ])
      refine wpAnyH_ready (rs := [3]) (by kernel_rfl) (by simp) ?_
      refine (AllReadyH.cons (o := ({ dst := some 60, op := Op.call { callee := Callee.builtin Builtin.append, args := #[Operand.tmp 57, Operand.tmp 59], argTypes := #[22, 22] }, type := 22, pos := "law.go:160", after := #[{ on := 0, ground := Ground.data }, { on := 2, ground := Ground.data }], guard := none } : Oper)) rfl (fun K hK => ?_) AllReadyH.nil)
      refine step_append_u64 (by rfl) (.tmp 57) (.tmp 59) 22 (by rfl) W5.heap.size 23 i0 (.int .u64 0) Try.underlying22 hi0 hz0 hz1 hz2 (by rfl) (.slice (some ⟨W5.heap.size, 0, none⟩) 0 0) 0 [] (by rfl) OE (.slice p3 np c3) P (by rfl) (U5.out.below BE).big (by rw [HNP.out]; omega) BE.size ?_
      intro v6 w6 hown hg6
      have O6 : w6.ownsRow W5.heap.size 23 1 v6 np (u64s P) := by rw [HNP.out, Nat.zero_add, List.nil_append] at hown; exact hown
      have B6 : Below W5.heap.size W5 w6 := BE.grown hg6 BE.size (fun k e => (OE.lt k e).1)
      have CZ6 := hg6.cell CZ (fun e => by simp [Value.ownBlock] at e)
      clear hown hg6
      refine hK.out _ _ ?_ (fun hHeld => ?_)
      · exact cell_below B6 P0
      clear hK K
      (try simp only [Act.put, List.setIfInBounds_toArray, List.set_cons_zero, List.set_cons_succ])
      refine wpAnyH_ready (rs := [5]) (by kernel_rfl) (by simp) ?_
      refine (AllReadyH.cons (o := ({ dst := some 62, op := Op.call { callee := Callee.builtin Builtin.append, args := #[Operand.tmp 60, Operand.tmp 61], argTypes := #[22, 22] }, type := 22, pos := "law.go:160", after := #[{ on := 3, ground := Ground.data }, { on := 4, ground := Ground.data }, { on := 3, ground := Ground.chain }], guard := none } : Oper)) rfl (fun K hK => ?_) AllReadyH.nil)
      refine step_app1 (by rfl) (.tmp 60) (.tmp 61) 22 (by rfl) W5.heap.size 23 i0 (.int .u64 0) 8 Try.underlying22 hi0 hz0 hz1 hz2 (by rfl) (by decide) v6 np (u64s P) (by rfl) O6 _ (.int .u64 0) 1 (by rfl) CZ6 (by rfl) (by omega) B6.size ?_
      intro v8 w8 hown hg8
      have B8 : Below W5.heap.size W5 w8 := B6.grown hg8 B6.size (fun k e => (O6.lt k e).1)
      obtain ⟨p8, c8, rfl⟩ := own_form hown
      have U8 := hid (u64_snoc0 hown (by rw [HLONG.out]; omega))
      clear hown hg8
      refine hK.out _ _ ?_ (fun hHeld => ?_)
      · exact cell_below B8 P0
      clear hK K
      (try simp only [Act.put, List.setIfInBounds_toArray, List.set_cons_zero, List.set_cons_succ])
      refine wpAnyH_take (i := 8) (oi := ({ dst := some 11, op := Op.assign (Operand.tmp 62), type := 22, pos := "law.go:160", after := #[{ on := 5, ground := Ground.data }, { on := 5, ground := Ground.chain }, { on := 0, ground := Ground.phase }, { on := 1, ground := Ground.phase }, { on := 2, ground := Ground.phase }, { on := 3, ground := Ground.phase }, { on := 4, ground := Ground.phase }, { on := 5, ground := Ground.phase }, { on := 6, ground := Ground.textOnly Departure.lateStores }, { on := 7, ground := Ground.textOnly Departure.lateStores }], guard := none } : Oper)) (v := ?_) rfl (by kernel_rfl) (by kernel_rfl) (by kernel_rfl) (fun _ _ _ h => h) (Or.inl ⟨by rfl, ?_⟩) (by assumption) ?_
      rotate_left
      · intro w hSw; (try dsimp only at hSw); go_simp <;> with_reducible rfl
      (try simp only [Act.put, List.setIfInBounds_toArray, List.set_cons_zero, List.set_cons_succ])
      refine wpAnyH_take (i := 9) (oi := ({ dst := some 12, op := Op.assign (Operand.tmp 64), type := 22, pos := "law.go:160", after := #[{ on := 7, ground := Ground.data }, { on := 8, ground := Ground.chain }, { on := 0, ground := Ground.phase }, { on := 1, ground := Ground.phase }, { on := 2, ground := Ground.phase }, { on := 3, ground := Ground.phase }, { on := 4, ground := Ground.phase }, { on := 5, ground := Ground.phase }, { on := 6, ground := Ground.phase }, { on := 7, ground := Ground.phase }, { on := 8, ground := Ground.phase }], guard := none } : Oper)) (v := ?_) rfl (by kernel_rfl) (by kernel_rfl) (by kernel_rfl) (fun _ _ _ h => h) (Or.inl ⟨by rfl, ?_⟩) (by assumption) ?_
      rotate_left
      · intro w hSw; (try dsimp only at hSw); go_simp <;> with_reducible rfl
      (try simp only [Act.put, List.setIfInBounds_toArray, List.set_cons_zero, List.set_cons_succ])
      refine wpAnyH_done (by kernel_rfl) ?_ _
      clear hHeld
      have B8' := hid B8
      have U1x := hid ((U1.out.below B5.out).below B8)
      have U5x := hid (U5.out.below B8)
      have C8 := hid (cell_below B8 (cell_below B5.out C1.out))
      have P8 := hid (cell_below B8 P0)
      clear B8 P0
      go_wp2_with fail
      refine (GM.out _ _ _ U1x.out).mono ?_
      rintro e w9 ⟨p9, c9, rfl, hu9, hb9⟩
      have U9 := hid hu9
      have D9 := hid hb9
      clear hu9 hb9
      go_wp2_with fail
      refine (open_at M [] 2 _ kk _ U9.out HOM.out HPM.out).mono ?_
      rintro e w10 ⟨p10, c10, rfl, hu10, hb10⟩
      have D11 := hid (below_a (below_step D9.out hb10) (.cells #[.slice p10 0 c10, .int .i64 2] 32))
      have Q0 := cell_below D11.out P8.out
      clear hu10 hb10
      go_wp2_with fail
      clear Q0
      refine (check_atv (x := 0) (rootB L) 0#64 4097 kk 2 P np p3 c3 z64 HNP.out CM1.out U5x D11.out).mono ?_
      rintro e w12 ⟨rfl, hb12⟩
      have D12 := hid (below_step D11.out hb12)
      clear hb12
      go_wp2_with fail
      refine (check_nil (rootB L) 4097 (-1) 2 CM2.out _).mono ?_
      rintro e w13 ⟨rfl, hb13⟩
      have D13 := hid (below_step D12.out hb13)
      have Q1 := cell_below D13.out C8.out
      clear hb13
      go_wp2_with fail
      clear Q1
      refine (check_at (rootB L) x N kk 40 (P ++ [0#64]) (np + 1) p8 c8 HLONG.out CL.out U8 D13.out).mono ?_
      rintro e w14 ⟨rfl, hb14⟩
      have D14 := hid (below_step D13.out hb14)
      have Q2 := cell_below D14.out P8.out
      have Q3 := cell_below D14.out C8.out
      clear hb14
      go_wp2_with fail
      have HE := hid (B1.out.trans ((B5.out.mono B1.out.size).trans ((B8'.out.mono (by have := B1.out.size; have := B5.out.size; omega)).trans (D14.out.mono (by have := B1.out.size; have := B5.out.size; have := B8'.out.size; omega)))))
      go_ret
      exact ⟨rfl, HE.out⟩
  · skip
    go_simp
    refine hK.out _ _ ?_ (fun hHeld => ?_)
    · exact cell_alloc _ P0
    clear hK K
    (try simp only [Act.put, List.setIfInBounds_toArray, List.set_cons_zero, List.set_cons_succ])
    refine wpAnyH_ready (rs := [0]) (by kernel_rfl) (by simp) ?_
    refine (AllReadyH.cons (o := ({ dst := some 57, op := Op.buildSlice 22 0 #[], type := 22, pos := "law.go:160", after := #[], guard := none } : Oper)) rfl (fun K hK => ?_) AllReadyH.nil)
    go_simp
    refine hK.out _ _ ?_ (fun hHeld => ?_)
    · exact cell_alloc _ (cell_alloc _ P0)
    have OE : (((W5.alloc (.cells #[.int .u64 0] 23)).alloc (.cells #[] 23)).drew).ownsRow W5.heap.size 23 1 (.slice (some ⟨W5.heap.size + 1, 0, none⟩) 0 0) 0 [] := by
      have h := own_newB (W5.alloc (.cells #[.int .u64 0] 23)) W5.heap.size (by simp) 23
      rw [World.size_alloc] at h
      exact h
    have BE : Below W5.heap.size W5 ((W5.alloc (.cells #[.int .u64 0] 23)).alloc (.cells #[] 23)).drew := (below_a (below_a0 W5 (.cells #[.int .u64 0] 23)) (.cells #[] 23)).drew
    have CZ : ((W5.alloc (.cells #[.int .u64 0] 23)).alloc (.cells #[] 23)).drew.cell? ⟨W5.heap.size, 0, none⟩ = some (.int .u64 0) := cell_alloc _ (Boxed.cell (Boxed.new W5 23 (.int .u64 0)))
    clear hK K
    (try simp only [Act.put, List.setIfInBounds_toArray, List.set_cons_zero, List.set_cons_succ])
    refine wpAnyH_ready (rs := [3]) (by kernel_rfl) (by simp) ?_
    refine (AllReadyH.cons (o := ({ dst := some 60, op := Op.call { callee := Callee.builtin Builtin.append, args := #[Operand.tmp 57, Operand.tmp 59], argTypes := #[22, 22] }, type := 22, pos := "law.go:160", after := #[{ on := 0, ground := Ground.data }, { on := 2, ground := Ground.data }], guard := none } : Oper)) rfl (fun K hK => ?_) AllReadyH.nil)
    refine step_append_u64 (by rfl) (.tmp 57) (.tmp 59) 22 (by rfl) W5.heap.size 23 i0 (.int .u64 0) Try.underlying22 hi0 hz0 hz1 hz2 (by rfl) (.slice (some ⟨W5.heap.size + 1, 0, none⟩) 0 0) 0 [] (by rfl) OE (.slice p3 np c3) P (by rfl) (U5.out.below BE).big (by rw [HNP.out]; omega) BE.size ?_
    intro v6 w6 hown hg6
    have O6 : w6.ownsRow W5.heap.size 23 1 v6 np (u64s P) := by rw [HNP.out, Nat.zero_add, List.nil_append] at hown; exact hown
    have B6 : Below W5.heap.size W5 w6 := BE.grown hg6 BE.size (fun k e => (OE.lt k e).1)
    have CZ6 := hg6.cell CZ (fun e => by simp [Value.ownBlock] at e)
    clear hown hg6
    refine hK.out _ _ ?_ (fun hHeld => ?_)
    · exact cell_below B6 P0
    clear hK K
    (try simp only [Act.put, List.setIfInBounds_toArray, List.set_cons_zero, List.set_cons_succ])
    refine wpAnyH_ready (rs := [5]) (by kernel_rfl) (by simp) ?_
    refine (AllReadyH.cons (o := ({ dst := some 62, op := Op.call { callee := Callee.builtin Builtin.append, args := #[Operand.tmp 60, Operand.tmp 61], argTypes := #[22, 22] }, type := 22, pos := "law.go:160", after := #[{ on := 3, ground := Ground.data }, { on := 4, ground := Ground.data }, { on := 3, ground := Ground.chain }], guard := none } : Oper)) rfl (fun K hK => ?_) AllReadyH.nil)
    refine step_app1 (by rfl) (.tmp 60) (.tmp 61) 22 (by rfl) W5.heap.size 23 i0 (.int .u64 0) 8 Try.underlying22 hi0 hz0 hz1 hz2 (by rfl) (by decide) v6 np (u64s P) (by rfl) O6 _ (.int .u64 0) 1 (by rfl) CZ6 (by rfl) (by omega) B6.size ?_
    intro v8 w8 hown hg8
    have B8 : Below W5.heap.size W5 w8 := B6.grown hg8 B6.size (fun k e => (O6.lt k e).1)
    obtain ⟨p8, c8, rfl⟩ := own_form hown
    have U8 := hid (u64_snoc0 hown (by rw [HLONG.out]; omega))
    clear hown hg8
    refine hK.out _ _ ?_ (fun hHeld => ?_)
    · exact cell_below B8 P0
    clear hK K
    (try simp only [Act.put, List.setIfInBounds_toArray, List.set_cons_zero, List.set_cons_succ])
    refine wpAnyH_take (i := 8) (oi := ({ dst := some 11, op := Op.assign (Operand.tmp 62), type := 22, pos := "law.go:160", after := #[{ on := 5, ground := Ground.data }, { on := 5, ground := Ground.chain }, { on := 0, ground := Ground.phase }, { on := 1, ground := Ground.phase }, { on := 2, ground := Ground.phase }, { on := 3, ground := Ground.phase }, { on := 4, ground := Ground.phase }, { on := 5, ground := Ground.phase }, { on := 6, ground := Ground.textOnly Departure.lateStores }, { on := 7, ground := Ground.textOnly Departure.lateStores }], guard := none } : Oper)) (v := ?_) rfl (by kernel_rfl) (by kernel_rfl) (by kernel_rfl) (fun _ _ _ h => h) (Or.inl ⟨by rfl, ?_⟩) (by assumption) ?_
    rotate_left
    · intro w hSw; (try dsimp only at hSw); go_simp <;> with_reducible rfl
    (try simp only [Act.put, List.setIfInBounds_toArray, List.set_cons_zero, List.set_cons_succ])
    refine wpAnyH_take (i := 9) (oi := ({ dst := some 12, op := Op.assign (Operand.tmp 64), type := 22, pos := "law.go:160", after := #[{ on := 7, ground := Ground.data }, { on := 8, ground := Ground.chain }, { on := 0, ground := Ground.phase }, { on := 1, ground := Ground.phase }, { on := 2, ground := Ground.phase }, { on := 3, ground := Ground.phase }, { on := 4, ground := Ground.phase }, { on := 5, ground := Ground.phase }, { on := 6, ground := Ground.phase }, { on := 7, ground := Ground.phase }, { on := 8, ground := Ground.phase }], guard := none } : Oper)) (v := ?_) rfl (by kernel_rfl) (by kernel_rfl) (by kernel_rfl) (fun _ _ _ h => h) (Or.inl ⟨by rfl, ?_⟩) (by assumption) ?_
    rotate_left
    · intro w hSw; (try dsimp only at hSw); go_simp <;> with_reducible rfl
    (try simp only [Act.put, List.setIfInBounds_toArray, List.set_cons_zero, List.set_cons_succ])
    refine wpAnyH_done (by kernel_rfl) ?_ _
    clear hHeld
    have B8' := hid B8
    have U1x := hid ((U1.out.below B5.out).below B8)
    have U5x := hid (U5.out.below B8)
    have C8 := hid (cell_below B8 (cell_below B5.out C1.out))
    have P8 := hid (cell_below B8 P0)
    clear B8 P0
    go_wp2_with fail
    refine (GM.out _ _ _ U1x.out).mono ?_
    rintro e w9 ⟨p9, c9, rfl, hu9, hb9⟩
    have U9 := hid hu9
    have D9 := hid hb9
    clear hu9 hb9
    go_wp2_with fail
    refine (open_at M [] 2 _ kk _ U9.out HOM.out HPM.out).mono ?_
    rintro e w10 ⟨p10, c10, rfl, hu10, hb10⟩
    have D11 := hid (below_a (below_step D9.out hb10) (.cells #[.slice p10 0 c10, .int .i64 2] 32))
    have Q0 := cell_below D11.out P8.out
    clear hu10 hb10
    go_wp2_with fail
    clear Q0
    refine (check_atv (x := 0) (rootB L) 0#64 4097 kk 2 P np p3 c3 z64 HNP.out CM1.out U5x D11.out).mono ?_
    rintro e w12 ⟨rfl, hb12⟩
    have D12 := hid (below_step D11.out hb12)
    clear hb12
    go_wp2_with fail
    refine (check_nil (rootB L) 4097 (-1) 2 CM2.out _).mono ?_
    rintro e w13 ⟨rfl, hb13⟩
    have D13 := hid (below_step D12.out hb13)
    have Q1 := cell_below D13.out C8.out
    clear hb13
    go_wp2_with fail
    clear Q1
    refine (check_at (rootB L) x N kk 40 (P ++ [0#64]) (np + 1) p8 c8 HLONG.out CL.out U8 D13.out).mono ?_
    rintro e w14 ⟨rfl, hb14⟩
    have D14 := hid (below_step D13.out hb14)
    have Q2 := cell_below D14.out P8.out
    have Q3 := cell_below D14.out C8.out
    clear hb14
    go_wp2_with fail
    have HE := hid (B1.out.trans ((B5.out.mono B1.out.size).trans ((B8'.out.mono (by have := B1.out.size; have := B5.out.size; omega)).trans (D14.out.mono (by have := B1.out.size; have := B5.out.size; have := B8'.out.size; omega)))))
    go_ret
    exact ⟨rfl, HE.out⟩
set_option maxRecDepth 100000 in
set_option maxHeartbeats 4000000 in
theorem refuses_in_more (l : List (BitVec 64)) (v : Value) (n kk : Nat) (hn : n ≤ 255) (W : World) (hv : U64Big W v l) (hi : Hid (kk < 1 + n % 100)) (hs : Hid (¬ (sibs 0 (1 + n % 100) kk).length = 0)) :
    Calls Try.prog 8 #[v, .int .u8 (n : Int), .int .i64 (kk : Int)] W fun e w' => e = .returned (.bool true) ∧ Below W.heap.size W w' := by
  obtain ⟨i0, hi0, hz0, hz1, hz2⟩ := info_parts infoU64
  have HV := hid hv
  clear hv
  obtain ⟨N, hN⟩ : ∃ N, 1 + n % 100 = N := ⟨_, rfl⟩
  have hN1 : 1 ≤ N := by omega
  have hN2 : N ≤ 100 := by omega
  obtain ⟨L, hL⟩ : ∃ L, growB l N = L := ⟨_, rfl⟩
  have hLl : L.length = N := by rw [← hL]; exact growB_len l N
  have GR := hid (fun (x : Int) (hx : x = (N : Int)) (w : World) (h : Below W.heap.size W w) => hL ▸ grown_v l v N (by omega) hx w (HV.out.below h))
  have HX := hid (show (1 : Int) + (n : Int) % 100 = (N : Int) by omega)
  have hK1 : kk < N := by have := hi.out; omega
  obtain ⟨P, hP⟩ : ∃ P, pathB L kk = P := ⟨_, rfl⟩
  obtain ⟨np, hnp⟩ : ∃ np, P.length = np := ⟨_, rfl⟩
  have hnps : np = (sibs 0 N kk).length := by rw [← hnp, ← hP, pathB_len, hLl]
  have hp12 : np ≤ 12 := by rw [hnps]; exact sibs_len12 kk (by omega)
  have OP := opens_path L N kk hLl hK1 (by omega)
  rw [hP] at OP
  have hKL : kk < L.length := by omega
  obtain ⟨x, hx⟩ : ∃ x, L[kk]'hKL = x := ⟨_, rfl⟩
  have HX1 := hid hx
  obtain ⟨M, hM⟩ : ∃ M, growB L 4097 = M := ⟨_, rfl⟩
  have hMl : M.length = 4097 := by rw [← hM]; exact growB_len L 4097
  have GM := hid (fun (w : World) (p : Option Addr) (c : Nat) (h : U64At w (.slice p N c) L) => hM ▸ grown_v L _ 4097 (by omega) rfl w h.big)
  have hplM : placeE M.length kk = 2 := by rw [hMl]; unfold placeE; rw [if_pos (by omega)]
  have HOM := hid (open_bad M kk (by rw [hplM]; omega))
  have HPM := hid hplM
  have hpl2 : ∀ j : Int, placeE 4097 j = 2 := fun j => by unfold placeE; rw [if_pos (by omega)]
  have CM1 := hid (check_place (rootB L) 0#64 4097 kk P 2 (hpl2 _) (by omega))
  have CM2 := hid (check_place (rootB L) 0#64 4097 (-1) [] 2 (hpl2 _) (by omega))
  have hlong : (P ++ [0#64]).length = np + 1 := by rw [List.length_append, hnp]; rfl
  have HLONG := hid hlong
  have CL := hid (show checkE (rootB L) (N : Int) (kk : Int) x (P ++ [0#64]) = 40 from check_len (by omega) hK1 (by rw [hlong, hnps]; omega))
  have hz : 1 ≤ np := by have := hs.out; rw [hN] at this; omega
  have s1 : ((np : Int) == 0) = false := by rw [beq_eq_false_iff_ne]; omega
  have s2 : decide ((0 : Int) < (np : Int)) = true := by simp; omega
  have s3 : 0 < np := by omega
  have hsh : (P.drop 1).length = np - 1 := by rw [List.length_drop, hnp]
  have HSH := hid hsh
  have CS := hid (show checkE (rootB L) (N : Int) (kk : Int) x (P.drop 1) = 40 from check_len (by omega) hK1 (by rw [hsh, ← hnps]; omega))
  clear hsh hz
  have HLl := hid hLl
  have HOP := hid OP.1
  have HPL := hid OP.2
  have HNP := hid hnp
  have t1 : decide ((kk : Int) < 0) = false := by simp
  have t2 : decide ((N : Int) ≤ (kk : Int)) = false := by simp; omega
  have t2' : decide (N ≤ kk) = false := by simp; omega
  have t3 : (0 : Int) ≤ (kk : Int) := by omega
  have t4 : (kk : Int) < (N : Int) := by omega
  clear hN hL hP OP hnp hnps hLl hx hM hMl hplM hpl2 hlong
  go_enter Try.func8, Try.ntmps8
  go_wp2_with fail
  refine (examples_any _).mono ?_
  rintro e w0 ⟨rfl, hb⟩
  have B0 := hid hb; clear hb
  go_wp2_with fail
  refine (GR.out _ HX.out _ B0.out).mono ?_
  rintro e w1 ⟨p1, c1, rfl, hu1, hb1⟩
  have U1 := hid hu1
  have B1 := hid (below_step B0.out hb1)
  obtain ⟨-, pp, cc, e1, -, -, -, h2⟩ := hu1
  have h2' := h2 (by have := HLl.out; omega)
  obtain ⟨b, o, e2, hc⟩ := h2'
  simp only [Value.slice.injEq] at e1
  obtain ⟨rfl, -, rfl⟩ := e1
  subst e2
  have hcell := hc kk hKL
  rw [HX1.out] at hcell
  have C1 := hid hcell
  clear hc hb1 hcell
  go_wp2_with fail
  refine (root_b _ _ _ U1.out).mono ?_
  rintro e w2 ⟨rfl, hb2⟩
  have B2 := hid hb2; clear hb2
  go_wp2_with fail
  refine (open_at L P 0 _ kk _ (U1.out.below B2.out) HOP.out HPL.out).mono ?_
  rintro e w3 ⟨p3, c3, rfl, hu3, hb3⟩
  rw [HNP.out] at hu3 ⊢
  have h5 := opened_box w3 (.slice p3 np c3) (.int .i64 0)
  have hb5 := below_a0 w3 (.cells #[.slice p3 np c3, .int .i64 0] 32)
  have B5 := hid (below_step (below_step B2.out hb3) hb5)
  have U5 := hid (hu3.below hb5)
  have H5 := hid h5
  clear h5 hb5 hu3 hb3
  go_wp2_with fail
  obtain ⟨W5, hW5⟩ : ∃ W5, w3.alloc (.cells #[.slice p3 np c3, .int .i64 0] 32) = W5 := ⟨_, rfl⟩
  rw [hW5] at H5 B5 U5 ⊢
  have HS5 := hid (show W5.heap.size = w3.heap.size + 1 by rw [← hW5]; simp)
  clear hW5
  have P0 := blk_cell H5.out (j := 0) (v := .slice p3 np c3) rfl
  refine wp_region_held_drew (S := fun W' => (W'.cell? ⟨w3.heap.size, 0, none⟩ = some (.slice p3 np c3))) (by kernel_rfl) ?_ (fun hHeld => ?_)
  · exact P0
  refine wpAnyH_take (i := 1) (oi := ({ dst := some 58, op := Op.fieldAddr 32 (Operand.tmp 10) 0, type := 0, pos := "law.go:160", after := #[], guard := none } : Oper)) (v := ?_) rfl (by kernel_rfl) (by kernel_rfl) (by kernel_rfl) (fun _ _ _ h => h) (Or.inl ⟨by rfl, ?_⟩) (by assumption) ?_
  rotate_left
  · intro w hSw; (try dsimp only at hSw); go_simp <;> with_reducible rfl
  (try simp only [Act.put, List.setIfInBounds_toArray, List.set_cons_zero, List.set_cons_succ])
  refine wpAnyH_take (i := 2) (oi := ({ dst := some 59, op := Op.load 22 (Operand.tmp 58), type := 22, pos := "law.go:160", after := #[{ on := 1, ground := Ground.data }], guard := none } : Oper)) (v := ?_) rfl (by kernel_rfl) (by kernel_rfl) (by kernel_rfl) (fun _ _ _ h => h) (Or.inl ⟨by rfl, ?_⟩) (by assumption) ?_
  rotate_left
  · intro w hSw; (try dsimp only at hSw); go_simp <;> with_reducible rfl
  (try simp only [Act.put, List.setIfInBounds_toArray, List.set_cons_zero, List.set_cons_succ])
  refine wpAnyH_take (i := 6) (oi := ({ dst := some 63, op := Op.fieldAddr 32 (Operand.tmp 10) 0, type := 0, pos := "law.go:160", after := #[{ on := 8, ground := Ground.gcOnly Departure.lateStores }], guard := none } : Oper)) (v := ?_) rfl (by kernel_rfl) (by kernel_rfl) (by kernel_rfl) (fun _ _ _ h => h) (Or.inl ⟨by rfl, ?_⟩) (by assumption) ?_
  rotate_left
  · intro w hSw; (try dsimp only at hSw); go_simp <;> with_reducible rfl
  (try simp only [Act.put, List.setIfInBounds_toArray, List.set_cons_zero, List.set_cons_succ])
  refine wpAnyH_take (i := 7) (oi := ({ dst := some 64, op := Op.load 22 (Operand.tmp 63), type := 22, pos := "law.go:160", after := #[{ on := 6, ground := Ground.data }, { on := 8, ground := Ground.gcOnly Departure.lateStores }], guard := none } : Oper)) (v := ?_) rfl (by kernel_rfl) (by kernel_rfl) (by kernel_rfl) (fun _ _ _ h => h) (Or.inl ⟨by rfl, ?_⟩) (by assumption) ?_
  rotate_left
  · intro w hSw; (try dsimp only at hSw); go_simp <;> with_reducible rfl
  (try simp only [Act.put, List.setIfInBounds_toArray, List.set_cons_zero, List.set_cons_succ])
  refine wpAnyH_ready (rs := [0, 4]) (by kernel_rfl) (by simp) ?_
  refine (AllReadyH.cons (o := ({ dst := some 57, op := Op.buildSlice 22 0 #[], type := 22, pos := "law.go:160", after := #[], guard := none } : Oper)) rfl (fun K hK => ?_) (AllReadyH.cons (o := ({ dst := some 61, op := Op.buildSlice 22 1 #[(0, Operand.const (Value.int IntKind.u64 0))], type := 22, pos := "law.go:160", after := #[], guard := none } : Oper)) rfl (fun K hK => ?_) AllReadyH.nil))
  · skip
    go_simp
    refine hK.out _ _ ?_ (fun hHeld => ?_)
    · exact cell_alloc _ P0
    have OE : ((W5.alloc (.cells #[] 23)).drew).ownsRow W5.heap.size 23 1 (.slice (some ⟨W5.heap.size, 0, none⟩) 0 0) 0 [] := own_newB W5 W5.heap.size (Nat.le_refl _) 23
    have BE : Below W5.heap.size W5 (W5.alloc (.cells #[] 23)).drew := (below_a0 W5 (.cells #[] 23)).drew
    clear hK K
    (try simp only [Act.put, List.setIfInBounds_toArray, List.set_cons_zero, List.set_cons_succ])
    refine wpAnyH_ready (rs := [3, 4]) (by kernel_rfl) (by simp) ?_
    refine (AllReadyH.cons (o := ({ dst := some 60, op := Op.call { callee := Callee.builtin Builtin.append, args := #[Operand.tmp 57, Operand.tmp 59], argTypes := #[22, 22] }, type := 22, pos := "law.go:160", after := #[{ on := 0, ground := Ground.data }, { on := 2, ground := Ground.data }], guard := none } : Oper)) rfl (fun K hK => ?_) (AllReadyH.cons (o := ({ dst := some 61, op := Op.buildSlice 22 1 #[(0, Operand.const (Value.int IntKind.u64 0))], type := 22, pos := "law.go:160", after := #[], guard := none } : Oper)) rfl (fun K hK => ?_) AllReadyH.nil))
    · skip
      refine step_append_u64 (by rfl) (.tmp 57) (.tmp 59) 22 (by rfl) W5.heap.size 23 i0 (.int .u64 0) Try.underlying22 hi0 hz0 hz1 hz2 (by rfl) (.slice (some ⟨W5.heap.size, 0, none⟩) 0 0) 0 [] (by rfl) OE (.slice p3 np c3) P (by rfl) (U5.out.below BE).big (by rw [HNP.out]; omega) BE.size ?_
      intro v6 w6 hown hg6
      have O6 : w6.ownsRow W5.heap.size 23 1 v6 np (u64s P) := by rw [HNP.out, Nat.zero_add, List.nil_append] at hown; exact hown
      have B6 : Below W5.heap.size W5 w6 := BE.grown hg6 BE.size (fun k e => (OE.lt k e).1)
      clear hown hg6
      refine hK.out _ _ ?_ (fun hHeld => ?_)
      · exact cell_below B6 P0
      clear hK K
      (try simp only [Act.put, List.setIfInBounds_toArray, List.set_cons_zero, List.set_cons_succ])
      refine wpAnyH_ready (rs := [4]) (by kernel_rfl) (by simp) ?_
      refine (AllReadyH.cons (o := ({ dst := some 61, op := Op.buildSlice 22 1 #[(0, Operand.const (Value.int IntKind.u64 0))], type := 22, pos := "law.go:160", after := #[], guard := none } : Oper)) rfl (fun K hK => ?_) AllReadyH.nil)
      go_simp
      refine hK.out _ _ ?_ (fun hHeld => ?_)
      · exact cell_alloc _ (cell_below B6 P0)
      have CZ : (w6.alloc (.cells #[.int .u64 0] 23)).cell? ⟨w6.heap.size, 0, none⟩ = some (.int .u64 0) := Boxed.cell (Boxed.new w6 23 (.int .u64 0))
      have B7 := below_a B6 (.cells #[.int .u64 0] 23)
      have O7 := O6.alloc (.cells #[.int .u64 0] 23)
      clear hK K
      (try simp only [Act.put, List.setIfInBounds_toArray, List.set_cons_zero, List.set_cons_succ])
      refine wpAnyH_ready (rs := [5]) (by kernel_rfl) (by simp) ?_
      refine (AllReadyH.cons (o := ({ dst := some 62, op := Op.call { callee := Callee.builtin Builtin.append, args := #[Operand.tmp 60, Operand.tmp 61], argTypes := #[22, 22] }, type := 22, pos := "law.go:160", after := #[{ on := 3, ground := Ground.data }, { on := 4, ground := Ground.data }, { on := 3, ground := Ground.chain }], guard := none } : Oper)) rfl (fun K hK => ?_) AllReadyH.nil)
      refine step_app1 (by rfl) (.tmp 60) (.tmp 61) 22 (by rfl) W5.heap.size 23 i0 (.int .u64 0) 8 Try.underlying22 hi0 hz0 hz1 hz2 (by rfl) (by decide) v6 np (u64s P) (by rfl) O7 _ (.int .u64 0) 1 (by rfl) CZ (by rfl) (by omega) B7.size ?_
      intro v8 w8 hown hg8
      have B8 : Below W5.heap.size W5 w8 := B7.grown hg8 B7.size (fun k e => (O7.lt k e).1)
      obtain ⟨p8, c8, rfl⟩ := own_form hown
      have U8 := hid (u64_snoc0 hown (by rw [HLONG.out]; omega))
      clear hown hg8
      refine hK.out _ _ ?_ (fun hHeld => ?_)
      · exact cell_below B8 P0
      clear hK K
      (try simp only [Act.put, List.setIfInBounds_toArray, List.set_cons_zero, List.set_cons_succ])
      refine wpAnyH_take (i := 8) (oi := ({ dst := some 11, op := Op.assign (Operand.tmp 62), type := 22, pos := "law.go:160", after := #[{ on := 5, ground := Ground.data }, { on := 5, ground := Ground.chain }, { on := 0, ground := Ground.phase }, { on := 1, ground := Ground.phase }, { on := 2, ground := Ground.phase }, { on := 3, ground := Ground.phase }, { on := 4, ground := Ground.phase }, { on := 5, ground := Ground.phase }, { on := 6, ground := Ground.textOnly Departure.lateStores }, { on := 7, ground := Ground.textOnly Departure.lateStores }], guard := none } : Oper)) (v := ?_) rfl (by kernel_rfl) (by kernel_rfl) (by kernel_rfl) (fun _ _ _ h => h) (Or.inl ⟨by rfl, ?_⟩) (by assumption) ?_
      rotate_left
      · intro w hSw; (try dsimp only at hSw); go_simp <;> with_reducible rfl
      (try simp only [Act.put, List.setIfInBounds_toArray, List.set_cons_zero, List.set_cons_succ])
      refine wpAnyH_take (i := 9) (oi := ({ dst := some 12, op := Op.assign (Operand.tmp 64), type := 22, pos := "law.go:160", after := #[{ on := 7, ground := Ground.data }, { on := 8, ground := Ground.chain }, { on := 0, ground := Ground.phase }, { on := 1, ground := Ground.phase }, { on := 2, ground := Ground.phase }, { on := 3, ground := Ground.phase }, { on := 4, ground := Ground.phase }, { on := 5, ground := Ground.phase }, { on := 6, ground := Ground.phase }, { on := 7, ground := Ground.phase }, { on := 8, ground := Ground.phase }], guard := none } : Oper)) (v := ?_) rfl (by kernel_rfl) (by kernel_rfl) (by kernel_rfl) (fun _ _ _ h => h) (Or.inl ⟨by rfl, ?_⟩) (by assumption) ?_
      rotate_left
      · intro w hSw; (try dsimp only at hSw); go_simp <;> with_reducible rfl
      (try simp only [Act.put, List.setIfInBounds_toArray, List.set_cons_zero, List.set_cons_succ])
      refine wpAnyH_done (by kernel_rfl) ?_ _
      clear hHeld
      have B8' := hid B8
      have U1x := hid ((U1.out.below B5.out).below B8)
      have U5x := hid (U5.out.below B8)
      have C8 := hid (cell_below B8 (cell_below B5.out C1.out))
      have P8 := hid (cell_below B8 P0)
      clear B8 P0
      have CU := cut_at U5x.out (by rw [HNP.out]; omega)
      obtain ⟨b3, o3, rfl, hnc, hsh⟩ := CU
      by_cases hc1 : c3 = 1
      · subst hc1
        have hnp1 : np - 1 = 0 := by omega
        rw [if_pos rfl, hnp1] at hsh
        have HS0 := hid (HSH.out.trans hnp1)
        clear hnp1
        have USH := hid hsh
        clear hsh
        go_wp2_with fail
        refine (GM.out _ _ _ U1x.out).mono ?_
        rintro e w9 ⟨p9, c9, rfl, hu9, hb9⟩
        have U9 := hid hu9
        have D9 := hid hb9
        clear hu9 hb9
        go_wp2_with fail
        refine (open_at M [] 2 _ kk _ U9.out HOM.out HPM.out).mono ?_
        rintro e w10 ⟨p10, c10, rfl, hu10, hb10⟩
        have D11 := hid (below_a (below_step D9.out hb10) (.cells #[.slice p10 0 c10, .int .i64 2] 32))
        have Q0 := cell_below D11.out P8.out
        clear hu10 hb10
        go_wp2_with fail
        clear Q0
        refine (check_atv (x := 0) (rootB L) 0#64 4097 kk 2 P np (some ⟨b3, o3, none⟩) 1 z64 HNP.out CM1.out U5x D11.out).mono ?_
        rintro e w12 ⟨rfl, hb12⟩
        have D12 := hid (below_step D11.out hb12)
        clear hb12
        go_wp2_with fail
        refine (check_nil (rootB L) 4097 (-1) 2 CM2.out _).mono ?_
        rintro e w13 ⟨rfl, hb13⟩
        have D13 := hid (below_step D12.out hb13)
        have Q1 := cell_below D13.out C8.out
        clear hb13
        go_wp2_with fail
        clear Q1
        refine (check_at (rootB L) x N kk 40 (P ++ [0#64]) (np + 1) p8 c8 HLONG.out CL.out U8 D13.out).mono ?_
        rintro e w14 ⟨rfl, hb14⟩
        have D14 := hid (below_step D13.out hb14)
        have Q2 := cell_below D14.out P8.out
        have Q3 := cell_below D14.out C8.out
        clear hb14
        go_wp2_with fail
        clear Q2 Q3
        refine (check_at (rootB L) x N kk 40 (P.drop 1) 0 (some ⟨b3, o3, none⟩) 0 HS0.out CS.out USH D14.out).mono ?_
        rintro e w15 ⟨rfl, hb15⟩
        have D15 := hid (below_step D14.out hb15)
        clear hb15
        go_wp2_with fail
        have HE := hid (B1.out.trans ((B5.out.mono B1.out.size).trans ((B8'.out.mono (by have := B1.out.size; have := B5.out.size; omega)).trans (D15.out.mono (by have := B1.out.size; have := B5.out.size; have := B8'.out.size; omega)))))
        go_ret
        exact ⟨rfl, HE.out⟩
      · rw [if_neg hc1] at hsh
        have USH := hid hsh
        clear hsh
        go_wp2_with fail
        refine (GM.out _ _ _ U1x.out).mono ?_
        rintro e w9 ⟨p9, c9, rfl, hu9, hb9⟩
        have U9 := hid hu9
        have D9 := hid hb9
        clear hu9 hb9
        go_wp2_with fail
        refine (open_at M [] 2 _ kk _ U9.out HOM.out HPM.out).mono ?_
        rintro e w10 ⟨p10, c10, rfl, hu10, hb10⟩
        have D11 := hid (below_a (below_step D9.out hb10) (.cells #[.slice p10 0 c10, .int .i64 2] 32))
        have Q0 := cell_below D11.out P8.out
        clear hu10 hb10
        go_wp2_with fail
        clear Q0
        refine (check_atv (x := 0) (rootB L) 0#64 4097 kk 2 P np (some ⟨b3, o3, none⟩) c3 z64 HNP.out CM1.out U5x D11.out).mono ?_
        rintro e w12 ⟨rfl, hb12⟩
        have D12 := hid (below_step D11.out hb12)
        clear hb12
        go_wp2_with fail
        refine (check_nil (rootB L) 4097 (-1) 2 CM2.out _).mono ?_
        rintro e w13 ⟨rfl, hb13⟩
        have D13 := hid (below_step D12.out hb13)
        have Q1 := cell_below D13.out C8.out
        clear hb13
        go_wp2_with fail
        clear Q1
        refine (check_at (rootB L) x N kk 40 (P ++ [0#64]) (np + 1) p8 c8 HLONG.out CL.out U8 D13.out).mono ?_
        rintro e w14 ⟨rfl, hb14⟩
        have D14 := hid (below_step D13.out hb14)
        have Q2 := cell_below D14.out P8.out
        have Q3 := cell_below D14.out C8.out
        clear hb14
        go_wp2_with fail
        clear Q2 Q3
        refine (check_at (rootB L) x N kk 40 (P.drop 1) (np - 1) (some ⟨b3, o3 + 1, none⟩) (c3 - 1) HSH.out CS.out USH D14.out).mono ?_
        rintro e w15 ⟨rfl, hb15⟩
        have D15 := hid (below_step D14.out hb15)
        clear hb15
        go_wp2_with fail
        have HE := hid (B1.out.trans ((B5.out.mono B1.out.size).trans ((B8'.out.mono (by have := B1.out.size; have := B5.out.size; omega)).trans (D15.out.mono (by have := B1.out.size; have := B5.out.size; have := B8'.out.size; omega)))))
        go_ret
        exact ⟨rfl, HE.out⟩
    · skip
      go_simp
      refine hK.out _ _ ?_ (fun hHeld => ?_)
      · exact cell_alloc _ (cell_alloc _ P0)
      have OE2 : (((W5.alloc (.cells #[] 23)).alloc (.cells #[.int .u64 0] 23)).drew).ownsRow W5.heap.size 23 1 (.slice (some ⟨W5.heap.size, 0, none⟩) 0 0) 0 [] := (own_newB W5 W5.heap.size (Nat.le_refl _) 23).alloc (.cells #[.int .u64 0] 23)
      have BE2 : Below W5.heap.size W5 ((W5.alloc (.cells #[] 23)).alloc (.cells #[.int .u64 0] 23)).drew := (below_a (below_a0 W5 (.cells #[] 23)) (.cells #[.int .u64 0] 23)).drew
      clear OE BE
      have OE := OE2
      have BE := BE2
      clear OE2 BE2
      have CZ : ((W5.alloc (.cells #[] 23)).alloc (.cells #[.int .u64 0] 23)).drew.cell? ⟨W5.heap.size + 1, 0, none⟩ = some (.int .u64 0) := by
        have h := Boxed.cell (Boxed.new (W5.alloc (.cells #[] 23)) 23 (.int .u64 0))
        rw [World.size_alloc] at h
        exact h
      clear hK K
      (try simp only [Act.put, List.setIfInBounds_toArray, List.set_cons_zero, List.set_cons_succ])
      refine wpAnyH_ready (rs := [3]) (by kernel_rfl) (by simp) ?_
      refine (AllReadyH.cons (o := ({ dst := some 60, op := Op.call { callee := Callee.builtin Builtin.append, args := #[Operand.tmp 57, Operand.tmp 59], argTypes := #[22, 22] }, type := 22, pos := "law.go:160", after := #[{ on := 0, ground := Ground.data }, { on := 2, ground := Ground.data }], guard := none } : Oper)) rfl (fun K hK => ?_) AllReadyH.nil)
      refine step_append_u64 (by rfl) (.tmp 57) (.tmp 59) 22 (by rfl) W5.heap.size 23 i0 (.int .u64 0) Try.underlying22 hi0 hz0 hz1 hz2 (by rfl) (.slice (some ⟨W5.heap.size, 0, none⟩) 0 0) 0 [] (by rfl) OE (.slice p3 np c3) P (by rfl) (U5.out.below BE).big (by rw [HNP.out]; omega) BE.size ?_
      intro v6 w6 hown hg6
      have O6 : w6.ownsRow W5.heap.size 23 1 v6 np (u64s P) := by rw [HNP.out, Nat.zero_add, List.nil_append] at hown; exact hown
      have B6 : Below W5.heap.size W5 w6 := BE.grown hg6 BE.size (fun k e => (OE.lt k e).1)
      have CZ6 := hg6.cell CZ (fun e => by simp [Value.ownBlock] at e)
      clear hown hg6
      refine hK.out _ _ ?_ (fun hHeld => ?_)
      · exact cell_below B6 P0
      clear hK K
      (try simp only [Act.put, List.setIfInBounds_toArray, List.set_cons_zero, List.set_cons_succ])
      refine wpAnyH_ready (rs := [5]) (by kernel_rfl) (by simp) ?_
      refine (AllReadyH.cons (o := ({ dst := some 62, op := Op.call { callee := Callee.builtin Builtin.append, args := #[Operand.tmp 60, Operand.tmp 61], argTypes := #[22, 22] }, type := 22, pos := "law.go:160", after := #[{ on := 3, ground := Ground.data }, { on := 4, ground := Ground.data }, { on := 3, ground := Ground.chain }], guard := none } : Oper)) rfl (fun K hK => ?_) AllReadyH.nil)
      refine step_app1 (by rfl) (.tmp 60) (.tmp 61) 22 (by rfl) W5.heap.size 23 i0 (.int .u64 0) 8 Try.underlying22 hi0 hz0 hz1 hz2 (by rfl) (by decide) v6 np (u64s P) (by rfl) O6 _ (.int .u64 0) 1 (by rfl) CZ6 (by rfl) (by omega) B6.size ?_
      intro v8 w8 hown hg8
      have B8 : Below W5.heap.size W5 w8 := B6.grown hg8 B6.size (fun k e => (O6.lt k e).1)
      obtain ⟨p8, c8, rfl⟩ := own_form hown
      have U8 := hid (u64_snoc0 hown (by rw [HLONG.out]; omega))
      clear hown hg8
      refine hK.out _ _ ?_ (fun hHeld => ?_)
      · exact cell_below B8 P0
      clear hK K
      (try simp only [Act.put, List.setIfInBounds_toArray, List.set_cons_zero, List.set_cons_succ])
      refine wpAnyH_take (i := 8) (oi := ({ dst := some 11, op := Op.assign (Operand.tmp 62), type := 22, pos := "law.go:160", after := #[{ on := 5, ground := Ground.data }, { on := 5, ground := Ground.chain }, { on := 0, ground := Ground.phase }, { on := 1, ground := Ground.phase }, { on := 2, ground := Ground.phase }, { on := 3, ground := Ground.phase }, { on := 4, ground := Ground.phase }, { on := 5, ground := Ground.phase }, { on := 6, ground := Ground.textOnly Departure.lateStores }, { on := 7, ground := Ground.textOnly Departure.lateStores }], guard := none } : Oper)) (v := ?_) rfl (by kernel_rfl) (by kernel_rfl) (by kernel_rfl) (fun _ _ _ h => h) (Or.inl ⟨by rfl, ?_⟩) (by assumption) ?_
      rotate_left
      · intro w hSw; (try dsimp only at hSw); go_simp <;> with_reducible rfl
      (try simp only [Act.put, List.setIfInBounds_toArray, List.set_cons_zero, List.set_cons_succ])
      refine wpAnyH_take (i := 9) (oi := ({ dst := some 12, op := Op.assign (Operand.tmp 64), type := 22, pos := "law.go:160", after := #[{ on := 7, ground := Ground.data }, { on := 8, ground := Ground.chain }, { on := 0, ground := Ground.phase }, { on := 1, ground := Ground.phase }, { on := 2, ground := Ground.phase }, { on := 3, ground := Ground.phase }, { on := 4, ground := Ground.phase }, { on := 5, ground := Ground.phase }, { on := 6, ground := Ground.phase }, { on := 7, ground := Ground.phase }, { on := 8, ground := Ground.phase }], guard := none } : Oper)) (v := ?_) rfl (by kernel_rfl) (by kernel_rfl) (by kernel_rfl) (fun _ _ _ h => h) (Or.inl ⟨by rfl, ?_⟩) (by assumption) ?_
      rotate_left
      · intro w hSw; (try dsimp only at hSw); go_simp <;> with_reducible rfl
      (try simp only [Act.put, List.setIfInBounds_toArray, List.set_cons_zero, List.set_cons_succ])
      refine wpAnyH_done (by kernel_rfl) ?_ _
      clear hHeld
      have B8' := hid B8
      have U1x := hid ((U1.out.below B5.out).below B8)
      have U5x := hid (U5.out.below B8)
      have C8 := hid (cell_below B8 (cell_below B5.out C1.out))
      have P8 := hid (cell_below B8 P0)
      clear B8 P0
      have CU := cut_at U5x.out (by rw [HNP.out]; omega)
      obtain ⟨b3, o3, rfl, hnc, hsh⟩ := CU
      by_cases hc1 : c3 = 1
      · subst hc1
        have hnp1 : np - 1 = 0 := by omega
        rw [if_pos rfl, hnp1] at hsh
        have HS0 := hid (HSH.out.trans hnp1)
        clear hnp1
        have USH := hid hsh
        clear hsh
        go_wp2_with fail
        refine (GM.out _ _ _ U1x.out).mono ?_
        rintro e w9 ⟨p9, c9, rfl, hu9, hb9⟩
        have U9 := hid hu9
        have D9 := hid hb9
        clear hu9 hb9
        go_wp2_with fail
        refine (open_at M [] 2 _ kk _ U9.out HOM.out HPM.out).mono ?_
        rintro e w10 ⟨p10, c10, rfl, hu10, hb10⟩
        have D11 := hid (below_a (below_step D9.out hb10) (.cells #[.slice p10 0 c10, .int .i64 2] 32))
        have Q0 := cell_below D11.out P8.out
        clear hu10 hb10
        go_wp2_with fail
        clear Q0
        refine (check_atv (x := 0) (rootB L) 0#64 4097 kk 2 P np (some ⟨b3, o3, none⟩) 1 z64 HNP.out CM1.out U5x D11.out).mono ?_
        rintro e w12 ⟨rfl, hb12⟩
        have D12 := hid (below_step D11.out hb12)
        clear hb12
        go_wp2_with fail
        refine (check_nil (rootB L) 4097 (-1) 2 CM2.out _).mono ?_
        rintro e w13 ⟨rfl, hb13⟩
        have D13 := hid (below_step D12.out hb13)
        have Q1 := cell_below D13.out C8.out
        clear hb13
        go_wp2_with fail
        clear Q1
        refine (check_at (rootB L) x N kk 40 (P ++ [0#64]) (np + 1) p8 c8 HLONG.out CL.out U8 D13.out).mono ?_
        rintro e w14 ⟨rfl, hb14⟩
        have D14 := hid (below_step D13.out hb14)
        have Q2 := cell_below D14.out P8.out
        have Q3 := cell_below D14.out C8.out
        clear hb14
        go_wp2_with fail
        clear Q2 Q3
        refine (check_at (rootB L) x N kk 40 (P.drop 1) 0 (some ⟨b3, o3, none⟩) 0 HS0.out CS.out USH D14.out).mono ?_
        rintro e w15 ⟨rfl, hb15⟩
        have D15 := hid (below_step D14.out hb15)
        clear hb15
        go_wp2_with fail
        have HE := hid (B1.out.trans ((B5.out.mono B1.out.size).trans ((B8'.out.mono (by have := B1.out.size; have := B5.out.size; omega)).trans (D15.out.mono (by have := B1.out.size; have := B5.out.size; have := B8'.out.size; omega)))))
        go_ret
        exact ⟨rfl, HE.out⟩
      · rw [if_neg hc1] at hsh
        have USH := hid hsh
        clear hsh
        go_wp2_with fail
        refine (GM.out _ _ _ U1x.out).mono ?_
        rintro e w9 ⟨p9, c9, rfl, hu9, hb9⟩
        have U9 := hid hu9
        have D9 := hid hb9
        clear hu9 hb9
        go_wp2_with fail
        refine (open_at M [] 2 _ kk _ U9.out HOM.out HPM.out).mono ?_
        rintro e w10 ⟨p10, c10, rfl, hu10, hb10⟩
        have D11 := hid (below_a (below_step D9.out hb10) (.cells #[.slice p10 0 c10, .int .i64 2] 32))
        have Q0 := cell_below D11.out P8.out
        clear hu10 hb10
        go_wp2_with fail
        clear Q0
        refine (check_atv (x := 0) (rootB L) 0#64 4097 kk 2 P np (some ⟨b3, o3, none⟩) c3 z64 HNP.out CM1.out U5x D11.out).mono ?_
        rintro e w12 ⟨rfl, hb12⟩
        have D12 := hid (below_step D11.out hb12)
        clear hb12
        go_wp2_with fail
        refine (check_nil (rootB L) 4097 (-1) 2 CM2.out _).mono ?_
        rintro e w13 ⟨rfl, hb13⟩
        have D13 := hid (below_step D12.out hb13)
        have Q1 := cell_below D13.out C8.out
        clear hb13
        go_wp2_with fail
        clear Q1
        refine (check_at (rootB L) x N kk 40 (P ++ [0#64]) (np + 1) p8 c8 HLONG.out CL.out U8 D13.out).mono ?_
        rintro e w14 ⟨rfl, hb14⟩
        have D14 := hid (below_step D13.out hb14)
        have Q2 := cell_below D14.out P8.out
        have Q3 := cell_below D14.out C8.out
        clear hb14
        go_wp2_with fail
        clear Q2 Q3
        refine (check_at (rootB L) x N kk 40 (P.drop 1) (np - 1) (some ⟨b3, o3 + 1, none⟩) (c3 - 1) HSH.out CS.out USH D14.out).mono ?_
        rintro e w15 ⟨rfl, hb15⟩
        have D15 := hid (below_step D14.out hb15)
        clear hb15
        go_wp2_with fail
        have HE := hid (B1.out.trans ((B5.out.mono B1.out.size).trans ((B8'.out.mono (by have := B1.out.size; have := B5.out.size; omega)).trans (D15.out.mono (by have := B1.out.size; have := B5.out.size; have := B8'.out.size; omega)))))
        go_ret
        exact ⟨rfl, HE.out⟩
  · skip
    go_simp
    refine hK.out _ _ ?_ (fun hHeld => ?_)
    · exact cell_alloc _ P0
    clear hK K
    (try simp only [Act.put, List.setIfInBounds_toArray, List.set_cons_zero, List.set_cons_succ])
    refine wpAnyH_ready (rs := [0]) (by kernel_rfl) (by simp) ?_
    refine (AllReadyH.cons (o := ({ dst := some 57, op := Op.buildSlice 22 0 #[], type := 22, pos := "law.go:160", after := #[], guard := none } : Oper)) rfl (fun K hK => ?_) AllReadyH.nil)
    go_simp
    refine hK.out _ _ ?_ (fun hHeld => ?_)
    · exact cell_alloc _ (cell_alloc _ P0)
    have OE : (((W5.alloc (.cells #[.int .u64 0] 23)).alloc (.cells #[] 23)).drew).ownsRow W5.heap.size 23 1 (.slice (some ⟨W5.heap.size + 1, 0, none⟩) 0 0) 0 [] := by
      have h := own_newB (W5.alloc (.cells #[.int .u64 0] 23)) W5.heap.size (by simp) 23
      rw [World.size_alloc] at h
      exact h
    have BE : Below W5.heap.size W5 ((W5.alloc (.cells #[.int .u64 0] 23)).alloc (.cells #[] 23)).drew := (below_a (below_a0 W5 (.cells #[.int .u64 0] 23)) (.cells #[] 23)).drew
    have CZ : ((W5.alloc (.cells #[.int .u64 0] 23)).alloc (.cells #[] 23)).drew.cell? ⟨W5.heap.size, 0, none⟩ = some (.int .u64 0) := cell_alloc _ (Boxed.cell (Boxed.new W5 23 (.int .u64 0)))
    clear hK K
    (try simp only [Act.put, List.setIfInBounds_toArray, List.set_cons_zero, List.set_cons_succ])
    refine wpAnyH_ready (rs := [3]) (by kernel_rfl) (by simp) ?_
    refine (AllReadyH.cons (o := ({ dst := some 60, op := Op.call { callee := Callee.builtin Builtin.append, args := #[Operand.tmp 57, Operand.tmp 59], argTypes := #[22, 22] }, type := 22, pos := "law.go:160", after := #[{ on := 0, ground := Ground.data }, { on := 2, ground := Ground.data }], guard := none } : Oper)) rfl (fun K hK => ?_) AllReadyH.nil)
    refine step_append_u64 (by rfl) (.tmp 57) (.tmp 59) 22 (by rfl) W5.heap.size 23 i0 (.int .u64 0) Try.underlying22 hi0 hz0 hz1 hz2 (by rfl) (.slice (some ⟨W5.heap.size + 1, 0, none⟩) 0 0) 0 [] (by rfl) OE (.slice p3 np c3) P (by rfl) (U5.out.below BE).big (by rw [HNP.out]; omega) BE.size ?_
    intro v6 w6 hown hg6
    have O6 : w6.ownsRow W5.heap.size 23 1 v6 np (u64s P) := by rw [HNP.out, Nat.zero_add, List.nil_append] at hown; exact hown
    have B6 : Below W5.heap.size W5 w6 := BE.grown hg6 BE.size (fun k e => (OE.lt k e).1)
    have CZ6 := hg6.cell CZ (fun e => by simp [Value.ownBlock] at e)
    clear hown hg6
    refine hK.out _ _ ?_ (fun hHeld => ?_)
    · exact cell_below B6 P0
    clear hK K
    (try simp only [Act.put, List.setIfInBounds_toArray, List.set_cons_zero, List.set_cons_succ])
    refine wpAnyH_ready (rs := [5]) (by kernel_rfl) (by simp) ?_
    refine (AllReadyH.cons (o := ({ dst := some 62, op := Op.call { callee := Callee.builtin Builtin.append, args := #[Operand.tmp 60, Operand.tmp 61], argTypes := #[22, 22] }, type := 22, pos := "law.go:160", after := #[{ on := 3, ground := Ground.data }, { on := 4, ground := Ground.data }, { on := 3, ground := Ground.chain }], guard := none } : Oper)) rfl (fun K hK => ?_) AllReadyH.nil)
    refine step_app1 (by rfl) (.tmp 60) (.tmp 61) 22 (by rfl) W5.heap.size 23 i0 (.int .u64 0) 8 Try.underlying22 hi0 hz0 hz1 hz2 (by rfl) (by decide) v6 np (u64s P) (by rfl) O6 _ (.int .u64 0) 1 (by rfl) CZ6 (by rfl) (by omega) B6.size ?_
    intro v8 w8 hown hg8
    have B8 : Below W5.heap.size W5 w8 := B6.grown hg8 B6.size (fun k e => (O6.lt k e).1)
    obtain ⟨p8, c8, rfl⟩ := own_form hown
    have U8 := hid (u64_snoc0 hown (by rw [HLONG.out]; omega))
    clear hown hg8
    refine hK.out _ _ ?_ (fun hHeld => ?_)
    · exact cell_below B8 P0
    clear hK K
    (try simp only [Act.put, List.setIfInBounds_toArray, List.set_cons_zero, List.set_cons_succ])
    refine wpAnyH_take (i := 8) (oi := ({ dst := some 11, op := Op.assign (Operand.tmp 62), type := 22, pos := "law.go:160", after := #[{ on := 5, ground := Ground.data }, { on := 5, ground := Ground.chain }, { on := 0, ground := Ground.phase }, { on := 1, ground := Ground.phase }, { on := 2, ground := Ground.phase }, { on := 3, ground := Ground.phase }, { on := 4, ground := Ground.phase }, { on := 5, ground := Ground.phase }, { on := 6, ground := Ground.textOnly Departure.lateStores }, { on := 7, ground := Ground.textOnly Departure.lateStores }], guard := none } : Oper)) (v := ?_) rfl (by kernel_rfl) (by kernel_rfl) (by kernel_rfl) (fun _ _ _ h => h) (Or.inl ⟨by rfl, ?_⟩) (by assumption) ?_
    rotate_left
    · intro w hSw; (try dsimp only at hSw); go_simp <;> with_reducible rfl
    (try simp only [Act.put, List.setIfInBounds_toArray, List.set_cons_zero, List.set_cons_succ])
    refine wpAnyH_take (i := 9) (oi := ({ dst := some 12, op := Op.assign (Operand.tmp 64), type := 22, pos := "law.go:160", after := #[{ on := 7, ground := Ground.data }, { on := 8, ground := Ground.chain }, { on := 0, ground := Ground.phase }, { on := 1, ground := Ground.phase }, { on := 2, ground := Ground.phase }, { on := 3, ground := Ground.phase }, { on := 4, ground := Ground.phase }, { on := 5, ground := Ground.phase }, { on := 6, ground := Ground.phase }, { on := 7, ground := Ground.phase }, { on := 8, ground := Ground.phase }], guard := none } : Oper)) (v := ?_) rfl (by kernel_rfl) (by kernel_rfl) (by kernel_rfl) (fun _ _ _ h => h) (Or.inl ⟨by rfl, ?_⟩) (by assumption) ?_
    rotate_left
    · intro w hSw; (try dsimp only at hSw); go_simp <;> with_reducible rfl
    (try simp only [Act.put, List.setIfInBounds_toArray, List.set_cons_zero, List.set_cons_succ])
    refine wpAnyH_done (by kernel_rfl) ?_ _
    clear hHeld
    have B8' := hid B8
    have U1x := hid ((U1.out.below B5.out).below B8)
    have U5x := hid (U5.out.below B8)
    have C8 := hid (cell_below B8 (cell_below B5.out C1.out))
    have P8 := hid (cell_below B8 P0)
    clear B8 P0
    have CU := cut_at U5x.out (by rw [HNP.out]; omega)
    obtain ⟨b3, o3, rfl, hnc, hsh⟩ := CU
    by_cases hc1 : c3 = 1
    · subst hc1
      have hnp1 : np - 1 = 0 := by omega
      rw [if_pos rfl, hnp1] at hsh
      have HS0 := hid (HSH.out.trans hnp1)
      clear hnp1
      have USH := hid hsh
      clear hsh
      go_wp2_with fail
      refine (GM.out _ _ _ U1x.out).mono ?_
      rintro e w9 ⟨p9, c9, rfl, hu9, hb9⟩
      have U9 := hid hu9
      have D9 := hid hb9
      clear hu9 hb9
      go_wp2_with fail
      refine (open_at M [] 2 _ kk _ U9.out HOM.out HPM.out).mono ?_
      rintro e w10 ⟨p10, c10, rfl, hu10, hb10⟩
      have D11 := hid (below_a (below_step D9.out hb10) (.cells #[.slice p10 0 c10, .int .i64 2] 32))
      have Q0 := cell_below D11.out P8.out
      clear hu10 hb10
      go_wp2_with fail
      clear Q0
      refine (check_atv (x := 0) (rootB L) 0#64 4097 kk 2 P np (some ⟨b3, o3, none⟩) 1 z64 HNP.out CM1.out U5x D11.out).mono ?_
      rintro e w12 ⟨rfl, hb12⟩
      have D12 := hid (below_step D11.out hb12)
      clear hb12
      go_wp2_with fail
      refine (check_nil (rootB L) 4097 (-1) 2 CM2.out _).mono ?_
      rintro e w13 ⟨rfl, hb13⟩
      have D13 := hid (below_step D12.out hb13)
      have Q1 := cell_below D13.out C8.out
      clear hb13
      go_wp2_with fail
      clear Q1
      refine (check_at (rootB L) x N kk 40 (P ++ [0#64]) (np + 1) p8 c8 HLONG.out CL.out U8 D13.out).mono ?_
      rintro e w14 ⟨rfl, hb14⟩
      have D14 := hid (below_step D13.out hb14)
      have Q2 := cell_below D14.out P8.out
      have Q3 := cell_below D14.out C8.out
      clear hb14
      go_wp2_with fail
      clear Q2 Q3
      refine (check_at (rootB L) x N kk 40 (P.drop 1) 0 (some ⟨b3, o3, none⟩) 0 HS0.out CS.out USH D14.out).mono ?_
      rintro e w15 ⟨rfl, hb15⟩
      have D15 := hid (below_step D14.out hb15)
      clear hb15
      go_wp2_with fail
      have HE := hid (B1.out.trans ((B5.out.mono B1.out.size).trans ((B8'.out.mono (by have := B1.out.size; have := B5.out.size; omega)).trans (D15.out.mono (by have := B1.out.size; have := B5.out.size; have := B8'.out.size; omega)))))
      go_ret
      exact ⟨rfl, HE.out⟩
    · rw [if_neg hc1] at hsh
      have USH := hid hsh
      clear hsh
      go_wp2_with fail
      refine (GM.out _ _ _ U1x.out).mono ?_
      rintro e w9 ⟨p9, c9, rfl, hu9, hb9⟩
      have U9 := hid hu9
      have D9 := hid hb9
      clear hu9 hb9
      go_wp2_with fail
      refine (open_at M [] 2 _ kk _ U9.out HOM.out HPM.out).mono ?_
      rintro e w10 ⟨p10, c10, rfl, hu10, hb10⟩
      have D11 := hid (below_a (below_step D9.out hb10) (.cells #[.slice p10 0 c10, .int .i64 2] 32))
      have Q0 := cell_below D11.out P8.out
      clear hu10 hb10
      go_wp2_with fail
      clear Q0
      refine (check_atv (x := 0) (rootB L) 0#64 4097 kk 2 P np (some ⟨b3, o3, none⟩) c3 z64 HNP.out CM1.out U5x D11.out).mono ?_
      rintro e w12 ⟨rfl, hb12⟩
      have D12 := hid (below_step D11.out hb12)
      clear hb12
      go_wp2_with fail
      refine (check_nil (rootB L) 4097 (-1) 2 CM2.out _).mono ?_
      rintro e w13 ⟨rfl, hb13⟩
      have D13 := hid (below_step D12.out hb13)
      have Q1 := cell_below D13.out C8.out
      clear hb13
      go_wp2_with fail
      clear Q1
      refine (check_at (rootB L) x N kk 40 (P ++ [0#64]) (np + 1) p8 c8 HLONG.out CL.out U8 D13.out).mono ?_
      rintro e w14 ⟨rfl, hb14⟩
      have D14 := hid (below_step D13.out hb14)
      have Q2 := cell_below D14.out P8.out
      have Q3 := cell_below D14.out C8.out
      clear hb14
      go_wp2_with fail
      clear Q2 Q3
      refine (check_at (rootB L) x N kk 40 (P.drop 1) (np - 1) (some ⟨b3, o3 + 1, none⟩) (c3 - 1) HSH.out CS.out USH D14.out).mono ?_
      rintro e w15 ⟨rfl, hb15⟩
      have D15 := hid (below_step D14.out hb15)
      clear hb15
      go_wp2_with fail
      have HE := hid (B1.out.trans ((B5.out.mono B1.out.size).trans ((B8'.out.mono (by have := B1.out.size; have := B5.out.size; omega)).trans (D15.out.mono (by have := B1.out.size; have := B5.out.size; have := B8'.out.size; omega)))))
      go_ret
      exact ⟨rfl, HE.out⟩

theorem refuses_any (l : List (BitVec 64)) (v : Value) (n : Nat) (i : Int) (hn : n ≤ 255) (W : World) (hv : U64Big W v l) :
    Calls Try.prog 8 #[v, .int .u8 (n : Int), .int .i64 i] W fun e w' => e = .returned (.bool true) ∧ Below W.heap.size W w' := by
  by_cases h1 : i < 0
  · exact refuses_out_low l v n i hn W hv h1
  · by_cases h2 : ((1 + n % 100 : Nat) : Int) ≤ i
    · exact refuses_out_high l v n i hn W hv ⟨by omega, h2⟩
    · obtain ⟨kk, rfl⟩ : ∃ k : Nat, i = (k : Int) := ⟨i.toNat, by omega⟩
      by_cases h3 : (sibs 0 (1 + n % 100) kk).length = 0
      · exact refuses_in_zero l v n kk hn W hv (hid (by omega)) (hid h3)
      · exact refuses_in_more l v n kk hn W hv (hid (by omega)) (hid h3)

theorem merkleRefuses_contract (H : Type) (enc : TypeId × Value → H) (W : World) (base : Nat) (args : Array Value) (ds gs : List (DataW H)) (before : List MemPlace)
    (hval : ∀ (j : Nat) t v, Try.f8.params[j]? = some t → args[j]? = some v → Value.okWide Try.prog W .any base t v)
    (hW : DataW.Whole enc Try.prog Try.f8.params.toList Rows.merkleRefusesSpec.vars false W args.toList ds gs before) :
    Calls Try.prog 8 args W fun e W' => ∃ v, e = .returned v ∧ Rows.merkleRefusesSpec.post enc Try.prog Try.f8 false true false false W args v W' := by
  have hW' := hW
  obtain ⟨p, q, hA0, hV, rfl, hfz, hnd⟩ := hW
  have hA : DataW.TrodAll enc Try.prog W 0 (fun _ => true) true Try.f8.params.toList args.toList ds p := hA0
  rw [Try.params8] at hA hval
  obtain ⟨v0, vs0, d0, ds0, p0, q0, hargs, rfl, rfl, h0, r0⟩ := trodAll_cons hA
  obtain ⟨v1, vs1, d1, ds1, p1, q1, rfl, rfl, rfl, h1, r1⟩ := trodAll_cons r0
  obtain ⟨v2, vs2, d2, ds2, p2, q2, rfl, rfl, rfl, h2, r2⟩ := trodAll_cons r1
  obtain ⟨rfl, rfl, rfl⟩ := trodAll_nil r2
  obtain rfl : args = #[v0, v1, v2] := by cases args; simp_all
  obtain ⟨rfl, rfl⟩ := trodVars_none hV
  obtain ⟨t0, in0⟩ := open_u64l (hval 0 _ v0 rfl rfl) h0
  obtain ⟨z1, rfl, rfl, rfl, wf1⟩ := open_int Try.underlying5 (hval 1 5 v1 rfl rfl) h1
  obtain ⟨t1, rfl, h8_1⟩ := bd8 wf1
  obtain ⟨t2, rfl, rfl, rfl, wf2⟩ := open_int Try.underlying3 (hval 2 3 v2 rfl rfl) h2
  have b64_2 := bd64 wf2
  refine (refuses_any t0 v0 t1 t2 h8_1 W in0).mono fun e W' ⟨he, hg⟩ => ?_
  subst he
  exact ⟨_, rfl, post_true (T := 4) (by kernel_rfl) (by kernel_rfl) rfl rfl (by kernel_rfl) hW' hg rfl⟩

set_option maxRecDepth 100000 in
theorem merkleRefuses_lifted (os : Os) (started : os.Started) (H : Type) (enc : TypeId × Value → H) :
    ReturnsInHanded {} Try.checked os 8 .any (Rows.merkleRefusesSpec.pre6 enc Try.prog Try.f8 Rows.merkleRefusesRow.domain false) (Rows.merkleRefusesSpec.post enc Try.prog Try.f8 false true false false) := by
  refine returnsInHanded_of_change (C := Try.checked) own started (by kernel_rfl) Try.func8
    (ChangeSpec.witness6 (enc := enc) (C := Try.checked) false ⟨#[], #[.slice none 0 0, .int .u8 0, .int .i64 0], []⟩ 8 (by kernel_rfl) (by kernel_rfl) (by kernel_rfl) (by kernel_rfl)) ?_
  intro W base args ds gs before hval hW _ _
  exact merkleRefuses_contract H enc W base args ds gs before hval hW

theorem merkleRefuses_holds : Rows.MerkleRefusesSaid :=
  OpenClaim.holds_of_wide 8 Try.f8 rfl rfl rfl rfl rfl rfl rfl ⟨rfl, rfl, rfl, rfl, rfl⟩ rfl rfl rfl rfl rfl (by kernel_rfl) Try.func8 (by kernel_rfl)
    (of_decide_eq_true (by kernel_rfl)) (by unfold Func.isWrapper; rw [if_neg (of_decide_eq_false (by kernel_rfl))]; exact ⟨rfl, rfl⟩)
    (fun os started H enc _ => merkleRefuses_lifted os started H enc)
end Go.Proofs.Ytagpinpelgkjcaa

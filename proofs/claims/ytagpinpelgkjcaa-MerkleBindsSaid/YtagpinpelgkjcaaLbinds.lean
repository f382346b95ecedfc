/-
  The law MerkleBinds of package merkle holds: another opening that is accepted for the same place and the same root leads to a collision, and Collide finds it.
  No condition: every input that the row speaks of.
-/
import Derived.Test.YtagpinpelgkjcaaLchanges
import Derived.Test.YtagpinpelgkjcaaLj
namespace Go.Proofs.Ytagpinpelgkjcaa
open Go.ChangeShapes Go.WideShapes Go.ChangeAt Go.RowKit
set_option linter.unusedVariables false

theorem same_c (a b : List (BitVec 64)) (t : Bool) (ht : decide (a = b) = t) (v u : Value) (w : World) (ha : U64At w v a) (hb : U64At w u b) : Calls Try.prog 14 #[v, u] w fun e w' => e = .returned (.bool t) ∧ Below w.heap.size w w' := by
  subst ht
  exact same_b a b v u w ha hb
theorem pair_ne {a b : Pair} (h : a ≠ b) : (((a.1.toNat : Int) == (b.1.toNat : Int)) && ((a.2.toNat : Int) == (b.2.toNat : Int))) = false := by
  by_cases h1 : a.1 = b.1
  · rw [bv_ne (fun h2 => h (Prod.ext h1 h2)), Bool.and_false]
  · rw [bv_ne h1, Bool.false_and]
attribute [local go_sem] equal_p2
theorem U64At.cells {w : World} {p : Option Addr} {n c k : Nat} {l : List (BitVec 64)} {t : BitVec 64} (h : U64At w (.slice p n c) l) (ht : l[k]? = some t) : ∃ b o, p = some ⟨b, o, none⟩ ∧ w.cell? ⟨b, o + k, none⟩ = some (.int .u64 (t.toNat : Int)) := by
  obtain ⟨-, p', c', e, -, -, -, h2⟩ := h
  simp only [Value.slice.injEq] at e
  obtain ⟨rfl, -, rfl⟩ := e
  obtain ⟨hk, rfl⟩ := List.getElem?_eq_some_iff.1 ht
  obtain ⟨b, o, rfl, hc⟩ := h2 (by omega)
  exact ⟨b, o, rfl, hc k hk⟩
theorem zip_self_none (l : List Pair) : (l.zip l).find? hits = none := by
  rw [List.find?_eq_none]
  intro z hz
  have h : z.1 = z.2 := by
    obtain ⟨k, hk⟩ := List.getElem?_of_mem hz
    rw [List.getElem?_zip_eq_some] at hk
    exact Option.some.inj (hk.1.symm.trans hk.2)
  simp [hits, h]
theorem coll_same (n i : Int) (a : BitVec 64) (p : List (BitVec 64)) : collideB n i a p a p = none := by
  unfold collideB
  split
  · rfl
  · split
    · exact zip_self_none _
    · rfl
theorem coll_hit {n i : Int} {a c : BitVec 64} {p q : List (BitVec 64)} {z : Pair × Pair} (h : collideB n i a p c q = some z) : z.1 ≠ z.2 ∧ joinP z.1 = joinP z.2 := by
  unfold collideB at h
  split at h
  · cases h
  · split at h
    · have := List.find?_some h
      simpa [hits] using this
    · cases h
theorem coll_binds (l : List (BitVec 64)) (kk : Nat) (hk : kk < l.length) (hn : l.length ≤ 4096) (xf : BitVec 64) (XP : List (BitVec 64)) (he : checkE (rootB l) l.length kk xf XP = 0) (hc : collideB l.length kk l[kk] (pathB l kk) xf XP = none) : xf = l[kk] ∧ XP = pathB l kk := by
  have hp : placeE l.length kk = 0 := place_zero (by omega) (by omega) (by omega)
  unfold checkE at he
  rw [if_neg (by simpa using hp)] at he
  split at he
  · rename_i h
    obtain ⟨h1, h2⟩ := h
    have h3 : (pathB l kk).length = (aheads l.length kk).length := by rw [pathB_len, aheads_len]
    unfold collideB at hc
    rw [if_neg (by simpa using hp), if_pos ⟨by simpa using h3, h1⟩] at hc
    have hb := binds l.length kk l[kk] xf (pathB l kk) XP h3 (by simpa using h1) (by simpa using hc) (by
      have h4 := root_path l kk hk
      rw [h4]
      simpa using h2.symm)
    exact ⟨hb.1.symm, hb.2.symm⟩
  · cases he
set_option maxRecDepth 100000 in
set_option maxHeartbeats 4000000 in
theorem binds_nil (p xa : Option Addr) (N i c ql xc : Nat) (xf : BitVec 64) (W : World) (h : N = 0) :
    Calls Try.prog 5 #[.slice p N c, .int .u8 (i : Int), .agg #[.int .u64 (xf.toNat : Int), .slice xa ql xc]] W fun e w' => e = .returned (.bool true) ∧ Below W.heap.size W w' := by
  have t1 : ((N : Int) == 0) = true := by rw [beq_iff_eq]; omega
  go_enter Try.func5, Try.ntmps5
  go_wp2_with fail
  refine (examples_any _).mono ?_
  rintro e w0 ⟨rfl, hb⟩
  have hbx := hb.block _ (show W.heap.size < _ by simp)
  have B0 := hid (show Below W.heap.size W w0 from (below_a0 W _).trans (hb.mono (by simp)))
  have hx0 : w0.heap[W.heap.size]? = some (.cells #[.int .u64 (xf.toNat : Int), .slice xa ql xc] 25 (0, 0)) := hbx.trans (World.alloc_heap_new W _)
  have X0 := blk_cell hx0 (j := 0) (v := .int .u64 (xf.toNat : Int)) rfl
  have X1 := blk_cell hx0 (j := 1) (v := .slice xa ql xc) rfl
  have HX0 := hid hx0
  clear hb hbx hx0
  go_wp2_with fail
  go_ret
  exact ⟨rfl, B0.out⟩
set_option maxRecDepth 100000 in
set_option maxHeartbeats 4000000 in
theorem binds_long (p xa : Option Addr) (N i c ql xc : Nat) (xf : BitVec 64) (W : World) (h0 : N ≠ 0) (h : 40 < N) :
    Calls Try.prog 5 #[.slice p N c, .int .u8 (i : Int), .agg #[.int .u64 (xf.toNat : Int), .slice xa ql xc]] W fun e w' => e = .returned (.bool true) ∧ Below W.heap.size W w' := by
  have t1 : ((N : Int) == 0) = false := by rw [beq_eq_false_iff_ne]; omega
  have t2 : decide ((40 : Int) < (N : Int)) = true := by simp; omega
  go_enter Try.func5, Try.ntmps5
  go_wp2_with fail
  refine (examples_any _).mono ?_
  rintro e w0 ⟨rfl, hb⟩
  have hbx := hb.block _ (show W.heap.size < _ by simp)
  have B0 := hid (show Below W.heap.size W w0 from (below_a0 W _).trans (hb.mono (by simp)))
  have hx0 : w0.heap[W.heap.size]? = some (.cells #[.int .u64 (xf.toNat : Int), .slice xa ql xc] 25 (0, 0)) := hbx.trans (World.alloc_heap_new W _)
  have X0 := blk_cell hx0 (j := 0) (v := .int .u64 (xf.toNat : Int)) rfl
  have X1 := blk_cell hx0 (j := 1) (v := .slice xa ql xc) rfl
  have HX0 := hid hx0
  clear hb hbx hx0
  go_wp2_with fail
  go_ret
  exact ⟨rfl, B0.out⟩
set_option maxRecDepth 100000 in
set_option maxHeartbeats 4000000 in
theorem binds_path (p xa : Option Addr) (N i c ql xc : Nat) (xf : BitVec 64) (W : World) (h0 : N ≠ 0) (h1 : N ≤ 40) (h : 40 < ql) :
    Calls Try.prog 5 #[.slice p N c, .int .u8 (i : Int), .agg #[.int .u64 (xf.toNat : Int), .slice xa ql xc]] W fun e w' => e = .returned (.bool true) ∧ Below W.heap.size W w' := by
  have t1 : ((N : Int) == 0) = false := by rw [beq_eq_false_iff_ne]; omega
  have t2 : decide ((40 : Int) < (N : Int)) = false := by simp; omega
  have t3 : decide ((40 : Int) < (ql : Int)) = true := by simp; omega
  go_enter Try.func5, Try.ntmps5
  go_wp2_with fail
  refine (examples_any _).mono ?_
  rintro e w0 ⟨rfl, hb⟩
  have hbx := hb.block _ (show W.heap.size < _ by simp)
  have B0 := hid (show Below W.heap.size W w0 from (below_a0 W _).trans (hb.mono (by simp)))
  have hx0 : w0.heap[W.heap.size]? = some (.cells #[.int .u64 (xf.toNat : Int), .slice xa ql xc] 25 (0, 0)) := hbx.trans (World.alloc_heap_new W _)
  have X0 := blk_cell hx0 (j := 0) (v := .int .u64 (xf.toNat : Int)) rfl
  have X1 := blk_cell hx0 (j := 1) (v := .slice xa ql xc) rfl
  have HX0 := hid hx0
  clear hb hbx hx0
  go_wp2_with fail
  go_ret
  exact ⟨rfl, B0.out⟩
set_option maxRecDepth 100000 in
set_option maxHeartbeats 8000000 in
theorem binds_walk (l XP : List (BitVec 64)) (p xa : Option Addr) (N i c ql xc : Nat) (xf : BitVec 64) (W : World) (hv : U64At W (.slice p N c) l) (hl : l.length = N) (h1 : 1 ≤ N) (h2 : N ≤ 40) (hx : U64At W (.slice xa ql xc) XP) (hxl : XP.length = ql) (h3 : ql ≤ 40) (hi : i ≤ 255)  :
    Calls Try.prog 5 #[.slice p N c, .int .u8 (i : Int), .agg #[.int .u64 (xf.toNat : Int), .slice xa ql xc]] W fun e w' => e = .returned (.bool true) ∧ Below W.heap.size W w' := by
  obtain ⟨kk, hK⟩ : ∃ kk, i % N = kk := ⟨_, rfl⟩
  have hK1 : kk < N := by rw [← hK]; exact Nat.mod_lt _ h1
  have hKL : kk < l.length := by omega
  obtain ⟨lf, hlf⟩ : ∃ lf, l[kk]'hKL = lf := ⟨_, rfl⟩
  obtain ⟨P, hP⟩ : ∃ P, pathB l kk = P := ⟨_, rfl⟩
  obtain ⟨np, hnp⟩ : ∃ np, P.length = np := ⟨_, rfl⟩
  have OP := opens_path l N kk hl hK1 (by omega)
  rw [hP] at OP
  have CK := check_ok l kk hKL (by omega)
  rw [hlf, hP, hl] at CK
  have hnk : (sibs 0 N kk).length = np := by rw [← hnp, ← hP, pathB_len, hl]
  have t1 : ((N : Int) == 0) = false := by rw [beq_eq_false_iff_ne]; omega
  have t2 : decide ((40 : Int) < (N : Int)) = false := by simp; omega
  have t3 : decide ((40 : Int) < (ql : Int)) = false := by simp; omega
  have t4 : (0 : Int) ≤ (kk : Int) := by omega
  have t5 : (kk : Int) < (N : Int) := by omega
  have HKI := hid (show (i : Int) % (N : Int) = (kk : Int) by omega)
  have CB := hid (show checkE (rootB l) N kk xf XP = 0 → collideB N kk lf P xf XP = none → xf = lf ∧ XP = P by have h := coll_binds l kk hKL (by omega) xf XP; rw [hlf, hP, hl] at h; exact h)
  have HV := hid hv
  have HX := hid hx
  have HXL := hid hxl
  have HNP := hid hnp
  have HNK := hid hnk
  have HCK := hid CK
  have HOP := hid OP.1
  have HPL := hid OP.2
  obtain ⟨b, o, hpe, hce⟩ := hv.cells (k := kk) (t := lf) (by rw [← hlf]; exact List.getElem?_eq_getElem hKL)
  subst hpe
  have HCE := hid hce
  clear hK hlf hP hnp OP CK hnk hv hx hxl hce
  go_enter Try.func5, Try.ntmps5
  go_wp2_with fail
  refine (examples_any _).mono ?_
  rintro e w0 ⟨rfl, hb⟩
  have hbx := hb.block _ (show W.heap.size < _ by simp)
  have B0 := hid (show Below W.heap.size W w0 from (below_a0 W _).trans (hb.mono (by simp)))
  have hx0 : w0.heap[W.heap.size]? = some (.cells #[.int .u64 (xf.toNat : Int), .slice xa ql xc] 25 (0, 0)) := hbx.trans (World.alloc_heap_new W _)
  have X0 := blk_cell hx0 (j := 0) (v := .int .u64 (xf.toNat : Int)) rfl
  have X1 := blk_cell hx0 (j := 1) (v := .slice xa ql xc) rfl
  have HX0 := hid hx0
  clear hb hbx hx0
  go_wp2_with fail
  rw [HKI.out]
  clear X0 X1
  refine (root_b _ _ _ (HV.out.below B0.out)).mono ?_
  rintro e w1 ⟨rfl, hb1⟩
  have B1 := hid (below_step B0.out hb1)
  have B01 := hid hb1
  clear hb1
  go_wp2_with fail
  refine (open_at l P 0 _ kk _ (HV.out.below B1.out) HOP.out HPL.out).mono ?_
  rintro e w2 ⟨p2, c2, rfl, hu2, hb2⟩
  rw [HNP.out] at hu2 ⊢
  obtain ⟨X, hX⟩ : ∃ X, (Obj.cells #[.slice p2 np c2, .int .i64 0] 32) = X := ⟨_, rfl⟩
  have B2 := hid (below_a (below_step B1.out hb2) X)
  have U2 := hid (hu2.below (below_a0 w2 X))
  have hcl := cell_below B2.out HCE.out
  have B02 := hid (B01.out.trans ((below_a hb2 X).mono B01.out.size))
  subst hX
  clear hu2 hb2
  go_wp2_with fail
  have H3 := hid (opened_box w2 (.slice p2 np c2) (.int .i64 0))
  have HS3 := hid (show (w2.alloc (.cells #[.slice p2 np c2, .int .i64 0] 32)).heap.size = w2.heap.size + 1 by simp)
  obtain ⟨W3, hW3⟩ : ∃ W3, w2.alloc (.cells #[.slice p2 np c2, .int .i64 0] 32) = W3 := ⟨_, rfl⟩
  rw [hW3] at H3 HS3 B2 U2 hcl B02 ⊢
  clear hW3
  have P0 := blk_cell H3.out (j := 0) (v := .slice p2 np c2) rfl
  refine wp_region_held_drew (S := fun W' => (W'.cell? ⟨b, o + kk, none⟩ = some (.int .u64 (lf.toNat : Int)) ∧ W'.cell? ⟨w2.heap.size, 0, none⟩ = some (.slice p2 np c2))) (by kernel_rfl) ?_ (fun hHeld => ?_)
  · exact ⟨hcl, P0⟩
  refine wpAnyH_take (i := 0) (oi := ({ dst := some 43, op := Op.move (Operand.tmp 0), type := 22, pos := "law.go:91", after := #[], guard := none } : Oper)) (v := ?_) rfl (by kernel_rfl) (by kernel_rfl) (by kernel_rfl) (fun _ _ _ h => h) (Or.inl ⟨by rfl, ?_⟩) (by assumption) ?_
  rotate_left
  · intro w hSw; (try dsimp only at hSw); go_simp <;> with_reducible rfl
  (try simp only [Act.put, List.setIfInBounds_toArray, List.set_cons_zero, List.set_cons_succ])
  refine wpAnyH_take (i := 1) (oi := ({ dst := some 44, op := Op.move (Operand.tmp 8), type := 3, pos := "law.go:91", after := #[], guard := none } : Oper)) (v := ?_) rfl (by kernel_rfl) (by kernel_rfl) (by kernel_rfl) (fun _ _ _ h => h) (Or.inl ⟨by rfl, ?_⟩) (by assumption) ?_
  rotate_left
  · intro w hSw; (try dsimp only at hSw); go_simp <;> with_reducible rfl
  (try simp only [Act.put, List.setIfInBounds_toArray, List.set_cons_zero, List.set_cons_succ])
  refine wpAnyH_take (i := 2) (oi := ({ dst := some 45, op := Op.indexAddr 22 (Operand.tmp 43) (Operand.tmp 44), type := 0, pos := "law.go:91", after := #[{ on := 0, ground := Ground.data }, { on := 1, ground := Ground.data }], guard := none } : Oper)) (v := ?_) rfl (by kernel_rfl) (by kernel_rfl) (by kernel_rfl) (fun _ _ _ h => h) (Or.inl ⟨by rfl, ?_⟩) (by assumption) ?_
  rotate_left
  · intro w hSw; (try dsimp only at hSw); go_simp <;> with_reducible rfl
  (try simp only [Act.put, List.setIfInBounds_toArray, List.set_cons_zero, List.set_cons_succ])
  refine wpAnyH_take (i := 3) (oi := ({ dst := some 46, op := Op.load 23 (Operand.tmp 45), type := 23, pos := "law.go:91", after := #[{ on := 2, ground := Ground.data }], guard := none } : Oper)) (v := ?_) rfl (by kernel_rfl) (by kernel_rfl) (by kernel_rfl) (fun _ _ _ h => h) (Or.inl ⟨by rfl, ?_⟩) (by assumption) ?_
  rotate_left
  · intro w hSw; (try dsimp only at hSw); go_simp <;> with_reducible rfl
  (try simp only [Act.put, List.setIfInBounds_toArray, List.set_cons_zero, List.set_cons_succ])
  refine wpAnyH_take (i := 4) (oi := ({ dst := some 47, op := Op.fieldAddr 32 (Operand.tmp 10) 0, type := 0, pos := "law.go:91", after := #[], guard := none } : Oper)) (v := ?_) rfl (by kernel_rfl) (by kernel_rfl) (by kernel_rfl) (fun _ _ _ h => h) (Or.inl ⟨by rfl, ?_⟩) (by assumption) ?_
  rotate_left
  · intro w hSw; (try dsimp only at hSw); go_simp <;> with_reducible rfl
  (try simp only [Act.put, List.setIfInBounds_toArray, List.set_cons_zero, List.set_cons_succ])
  refine wpAnyH_take (i := 5) (oi := ({ dst := some 48, op := Op.load 22 (Operand.tmp 47), type := 22, pos := "law.go:91", after := #[{ on := 4, ground := Ground.data }], guard := none } : Oper)) (v := ?_) rfl (by kernel_rfl) (by kernel_rfl) (by kernel_rfl) (fun _ _ _ h => h) (Or.inl ⟨by rfl, ?_⟩) (by assumption) ?_
  rotate_left
  · intro w hSw; (try dsimp only at hSw); go_simp <;> with_reducible rfl
  (try simp only [Act.put, List.setIfInBounds_toArray, List.set_cons_zero, List.set_cons_succ])
  refine wpAnyH_take (i := 6) (oi := ({ dst := some 49, op := Op.build 25 #[(0, Operand.tmp 46), (1, Operand.tmp 48)], type := 25, pos := "law.go:91", after := #[{ on := 3, ground := Ground.data }, { on := 5, ground := Ground.data }], guard := none } : Oper)) (v := ?_) rfl (by kernel_rfl) (by kernel_rfl) (by kernel_rfl) (fun _ _ _ h => h) (Or.inl ⟨by rfl, ?_⟩) (by assumption) ?_
  rotate_left
  · intro w hSw; (try dsimp only at hSw); go_simp <;> with_reducible rfl
  (try simp only [Act.put, List.setIfInBounds_toArray, List.set_cons_zero, List.set_cons_succ])
  refine wpAnyH_ready (rs := [7]) (by kernel_rfl) (by simp) ?_
  refine (AllReadyH.cons (o := ({ dst := some 11, op := Op.alloc 25, type := 0, pos := "law.go:91", after := #[], guard := none } : Oper)) rfl (fun K hK => ?_) AllReadyH.nil)
  go_simp
  refine hK.out _ _ ?_ (fun hHeld => ?_)
  · exact ⟨cell_alloc _ hcl, cell_alloc _ P0⟩
  clear hK K
  (try simp only [Act.put, List.setIfInBounds_toArray, List.set_cons_zero, List.set_cons_succ])
  refine wpAnyH_ready (rs := [8]) (by kernel_rfl) (by simp) ?_
  refine (AllReadyH.cons (o := ({ dst := none, op := Op.store 25 (Operand.tmp 11) (Operand.tmp 49), type := 0, pos := "law.go:91", after := #[{ on := 7, ground := Ground.data }, { on := 6, ground := Ground.data }, { on := 0, ground := Ground.phase }, { on := 1, ground := Ground.phase }, { on := 2, ground := Ground.phase }, { on := 3, ground := Ground.phase }, { on := 4, ground := Ground.phase }, { on := 5, ground := Ground.phase }, { on := 6, ground := Ground.phase }, { on := 7, ground := Ground.phase }], guard := none } : Oper)) rfl (fun K hK => ?_) AllReadyH.nil)
  go_simp
  refine hK.out _ _ ?_ (fun hHeld => ?_)
  · exact ⟨cell_alloc _ hcl, cell_alloc _ P0⟩
  clear hK K
  (try simp only [Act.put, List.setIfInBounds_toArray, List.set_cons_zero, List.set_cons_succ])
  refine wpAnyH_done (by kernel_rfl) ?_ _
  clear hHeld hcl P0
  have h4 : (W3.alloc (.cells #[.int .u64 (lf.toNat : Int), .slice p2 np c2] 25)).drew.heap[W3.heap.size]? = some (.cells #[.int .u64 (lf.toNat : Int), .slice p2 np c2] 25 (0, 0)) := World.alloc_heap_new W3 _
  have b4 : Below W3.heap.size W3 (W3.alloc (.cells #[.int .u64 (lf.toNat : Int), .slice p2 np c2] 25)).drew := (below_a0 W3 _).drew
  obtain ⟨W4, hW4⟩ : ∃ W4, (W3.alloc (.cells #[.int .u64 (lf.toNat : Int), .slice p2 np c2] 25)).drew = W4 := ⟨_, rfl⟩
  rw [hW4] at h4 b4 ⊢
  clear hW4
  have h3 := (b4.block _ (Array.getElem?_eq_some_iff.1 H3.out).1).trans H3.out
  have hx1 := ((B02.out.trans (b4.mono B02.out.size)).block _ (Array.getElem?_eq_some_iff.1 HX0.out).1).trans HX0.out
  have B4 := hid (B2.out.trans (b4.mono B2.out.size))
  have P1 := blk_cell h3 (j := 1) (v := .int .i64 0) rfl
  have O0 := blk_cell h4 (j := 0) (v := .int .u64 (lf.toNat : Int)) rfl
  have O1 := blk_cell h4 (j := 1) (v := .slice p2 np c2) rfl
  have X0 := blk_cell hx1 (j := 0) (v := .int .u64 (xf.toNat : Int)) rfl
  have X1 := blk_cell hx1 (j := 1) (v := .slice xa ql xc) rfl
  have U4 := hid (U2.out.below b4)
  have V4 := hid (HX.out.below B4.out)
  have HO4 := hid h4
  have HX4 := hid hx1
  clear h3 h4 hx1 b4
  go_wp2_with fail
  clear P1 O0 O1 X0 X1
  refine (check_at (rootB l) lf N kk 0 P np p2 c2 HNP.out HCK.out U4 (Below.refl _ _)).mono ?_
  rintro e W5 ⟨rfl, b5⟩
  have h4 := (b5.block _ (Array.getElem?_eq_some_iff.1 HO4.out).1).trans HO4.out
  have hx1 := (b5.block _ (Array.getElem?_eq_some_iff.1 HX4.out).1).trans HX4.out
  have O0 := blk_cell h4 (j := 0) (v := .int .u64 (lf.toNat : Int)) rfl
  have O1 := blk_cell h4 (j := 1) (v := .slice p2 np c2) rfl
  have X0 := blk_cell hx1 (j := 0) (v := .int .u64 (xf.toNat : Int)) rfl
  have X1 := blk_cell hx1 (j := 1) (v := .slice xa ql xc) rfl
  have HO5 := hid h4
  have HX5 := hid hx1
  have U5 := hid (U4.out.below b5)
  have V5 := hid (V4.out.below b5)
  have B5 := hid (below_step B4.out b5)
  clear h4 hx1 b5
  have CO := hid (fun (r : Option (Pair × Pair)) (hr : Hid (collideB N kk lf P xf XP = r)) (W' : World) (h : Below W5.heap.size W5 W') => hr.out ▸ collide_own N kk hK1 (by omega) lf xf P XP np ql HNK.out HNP.out HXL.out p2 xa c2 xc W' (U5.out.below h) (V5.out.below h))
  by_cases hs : xf = lf
  · have s1 : ((xf.toNat : Int) == (lf.toNat : Int)) = true := by rw [hs]; simp
    by_cases hpq : XP = P
    · have HC := hid (show collideB N kk lf P xf XP = none by rw [hs, hpq]; exact coll_same _ _ _ _)
      have HE := hid (show checkE (rootB l) N kk xf XP = 0 by rw [hs, hpq]; exact HCK.out)
      have SA := hid (fun W' (h : Below W5.heap.size W5 W') => same_c XP P true (by simpa using hpq) _ _ W' (V5.out.below h) (U5.out.below h))
      clear hs hpq
      go_wp2_with fail
      refine (SA.out _ (Below.refl _ _)).mono ?_
      rintro e W6 ⟨rfl, b6⟩
      have x6 := (b6.block _ (Array.getElem?_eq_some_iff.1 HX5.out).1).trans HX5.out
      have o6 := (b6.block _ (Array.getElem?_eq_some_iff.1 HO5.out).1).trans HO5.out
      clear O0 O1 X0 X1
      have O0 := blk_cell o6 (j := 0) (v := .int .u64 (lf.toNat : Int)) rfl
      have O1 := blk_cell o6 (j := 1) (v := .slice p2 np c2) rfl
      have X0 := blk_cell x6 (j := 0) (v := .int .u64 (xf.toNat : Int)) rfl
      have X1 := blk_cell x6 (j := 1) (v := .slice xa ql xc) rfl
      have B6 := hid b6
      clear x6 o6 b6
      go_wp2_with fail
      clear O0 O1 X0 X1
      refine (CO.out none HC _ B6.out).mono ?_
      rintro e W7 ⟨rfl, b7⟩
      unfold collV
      go_wp2_with fail
      have h8 := World.alloc_heap_new W7 (.cells #[.int .u64 0, .int .u64 0, .int .u64 0, .int .u64 0] 37)
      have b8 := below_a (B6.out.trans (b7.mono B6.out.size)) (.cells #[.int .u64 0, .int .u64 0, .int .u64 0, .int .u64 0] 37)
      obtain ⟨W8, hW8⟩ : ∃ W8, W7.alloc (.cells #[.int .u64 0, .int .u64 0, .int .u64 0, .int .u64 0] 37) = W8 := ⟨_, rfl⟩
      rw [hW8] at h8 b8 ⊢
      clear hW8
      have B8 := hid b8
      have D0 := blk_cell h8 (j := 0) (v := .int .u64 0) rfl
      have D1 := blk_cell h8 (j := 1) (v := .int .u64 0) rfl
      have D2 := blk_cell h8 (j := 2) (v := .int .u64 0) rfl
      have D3 := blk_cell h8 (j := 3) (v := .int .u64 0) rfl
      clear h8 b8 b7
      have hsd := (Below.refl W8.heap.size W8).drew
      refine wp_region_held_drew (S := fun W' => (W'.cell? ⟨W7.heap.size, 0, none⟩ = some (.int .u64 0) ∧ W'.cell? ⟨W7.heap.size, 1, none⟩ = some (.int .u64 0) ∧ W'.cell? ⟨W7.heap.size, 2, none⟩ = some (.int .u64 0) ∧ W'.cell? ⟨W7.heap.size, 3, none⟩ = some (.int .u64 0) ∧ Below W8.heap.size W8 W')) (by kernel_rfl) ?_ (fun hHeld => ?_)
      · exact ⟨D0, D1, D2, D3, hsd⟩
      refine wpAnyH_take (i := 0) (oi := ({ dst := some 83, op := Op.move (Operand.tmp 14), type := 4, pos := "law.go:97", after := #[], guard := none } : Oper)) (v := ?_) rfl (by kernel_rfl) (by kernel_rfl) (by kernel_rfl) (fun _ _ _ h => h) (Or.inl ⟨by rfl, ?_⟩) (by assumption) ?_
      rotate_left
      · intro w hSw; (try dsimp only at hSw); go_simp <;> with_reducible rfl
      (try simp only [Act.put, List.setIfInBounds_toArray, List.set_cons_zero, List.set_cons_succ])
      refine wpAnyH_take (i := 1) (oi := ({ dst := some 84, op := Op.move (Operand.tmp 83), type := 4, pos := "law.go:97", after := #[{ on := 0, ground := Ground.data }], guard := none } : Oper)) (v := ?_) rfl (by kernel_rfl) (by kernel_rfl) (by kernel_rfl) (fun _ _ _ h => h) (Or.inl ⟨by rfl, ?_⟩) (by assumption) ?_
      rotate_left
      · intro w hSw; (try dsimp only at hSw); go_simp <;> with_reducible rfl
      (try simp only [Act.put, List.setIfInBounds_toArray, List.set_cons_zero, List.set_cons_succ])
      refine wpAnyH_take (i := 2) (oi := ({ dst := some 85, op := Op.indexAddr 37 (Operand.tmp 13) (Operand.const (Value.int IntKind.i64 0)), type := 0, pos := "law.go:97", after := #[{ on := 1, ground := Ground.guard }], guard := some (1, true) } : Oper)) (v := undef) rfl (by kernel_rfl) (by kernel_rfl) (by kernel_rfl) (fun _ _ _ h => h) (Or.inr ⟨by rfl, rfl⟩) (by assumption) ?_
      (try simp only [Act.put, List.setIfInBounds_toArray, List.set_cons_zero, List.set_cons_succ])
      refine wpAnyH_take (i := 3) (oi := ({ dst := some 86, op := Op.load 36 (Operand.tmp 85), type := 36, pos := "law.go:97", after := #[{ on := 2, ground := Ground.data }, { on := 1, ground := Ground.guard }], guard := some (1, true) } : Oper)) (v := undef) rfl (by kernel_rfl) (by kernel_rfl) (by kernel_rfl) (fun _ _ _ h => h) (Or.inr ⟨by rfl, rfl⟩) (by assumption) ?_
      (try simp only [Act.put, List.setIfInBounds_toArray, List.set_cons_zero, List.set_cons_succ])
      refine wpAnyH_take (i := 4) (oi := ({ dst := some 87, op := Op.indexAddr 37 (Operand.tmp 13) (Operand.const (Value.int IntKind.i64 1)), type := 0, pos := "law.go:97", after := #[{ on := 1, ground := Ground.guard }], guard := some (1, true) } : Oper)) (v := undef) rfl (by kernel_rfl) (by kernel_rfl) (by kernel_rfl) (fun _ _ _ h => h) (Or.inr ⟨by rfl, rfl⟩) (by assumption) ?_
      (try simp only [Act.put, List.setIfInBounds_toArray, List.set_cons_zero, List.set_cons_succ])
      refine wpAnyH_take (i := 5) (oi := ({ dst := some 88, op := Op.load 36 (Operand.tmp 87), type := 36, pos := "law.go:97", after := #[{ on := 4, ground := Ground.data }, { on := 1, ground := Ground.guard }], guard := some (1, true) } : Oper)) (v := undef) rfl (by kernel_rfl) (by kernel_rfl) (by kernel_rfl) (fun _ _ _ h => h) (Or.inr ⟨by rfl, rfl⟩) (by assumption) ?_
      (try simp only [Act.put, List.setIfInBounds_toArray, List.set_cons_zero, List.set_cons_succ])
      refine wpAnyH_take (i := 6) (oi := ({ dst := some 89, op := Op.binOp BinOp.eql 36 (Operand.tmp 86) (Operand.tmp 88) 36, type := 4, pos := "law.go:97", after := #[{ on := 3, ground := Ground.data }, { on := 5, ground := Ground.data }, { on := 1, ground := Ground.guard }], guard := some (1, true) } : Oper)) (v := undef) rfl (by kernel_rfl) (by kernel_rfl) (by kernel_rfl) (fun _ _ _ h => h) (Or.inr ⟨by rfl, rfl⟩) (by assumption) ?_
      (try simp only [Act.put, List.setIfInBounds_toArray, List.set_cons_zero, List.set_cons_succ])
      refine wpAnyH_take (i := 7) (oi := ({ dst := some 90, op := Op.move (Operand.tmp 89), type := 4, pos := "law.go:97", after := #[{ on := 6, ground := Ground.data }, { on := 1, ground := Ground.chain }, { on := 1, ground := Ground.guard }], guard := some (1, true) } : Oper)) (v := undef) rfl (by kernel_rfl) (by kernel_rfl) (by kernel_rfl) (fun _ _ _ h => h) (Or.inr ⟨by rfl, rfl⟩) (by assumption) ?_
      (try simp only [Act.put, List.setIfInBounds_toArray, List.set_cons_zero, List.set_cons_succ])
      refine wpAnyH_take (i := 8) (oi := ({ dst := some 91, op := Op.indexAddr 37 (Operand.tmp 13) (Operand.const (Value.int IntKind.i64 0)), type := 0, pos := "law.go:97", after := #[{ on := 7, ground := Ground.guard }], guard := some (7, false) } : Oper)) (v := undef) rfl (by kernel_rfl) (by kernel_rfl) (by kernel_rfl) (fun _ _ _ h => h) (Or.inr ⟨by rfl, rfl⟩) (by assumption) ?_
      (try simp only [Act.put, List.setIfInBounds_toArray, List.set_cons_zero, List.set_cons_succ])
      refine wpAnyH_take (i := 9) (oi := ({ dst := some 92, op := Op.indexAddr 36 (Operand.tmp 91) (Operand.const (Value.int IntKind.i64 0)), type := 0, pos := "law.go:97", after := #[{ on := 8, ground := Ground.data }, { on := 7, ground := Ground.guard }], guard := some (7, false) } : Oper)) (v := undef) rfl (by kernel_rfl) (by kernel_rfl) (by kernel_rfl) (fun _ _ _ h => h) (Or.inr ⟨by rfl, rfl⟩) (by assumption) ?_
      (try simp only [Act.put, List.setIfInBounds_toArray, List.set_cons_zero, List.set_cons_succ])
      refine wpAnyH_take (i := 10) (oi := ({ dst := some 93, op := Op.load 23 (Operand.tmp 92), type := 23, pos := "law.go:97", after := #[{ on := 9, ground := Ground.data }, { on := 7, ground := Ground.guard }], guard := some (7, false) } : Oper)) (v := undef) rfl (by kernel_rfl) (by kernel_rfl) (by kernel_rfl) (fun _ _ _ h => h) (Or.inr ⟨by rfl, rfl⟩) (by assumption) ?_
      (try simp only [Act.put, List.setIfInBounds_toArray, List.set_cons_zero, List.set_cons_succ])
      refine wpAnyH_take (i := 11) (oi := ({ dst := some 94, op := Op.indexAddr 37 (Operand.tmp 13) (Operand.const (Value.int IntKind.i64 0)), type := 0, pos := "law.go:97", after := #[{ on := 7, ground := Ground.guard }], guard := some (7, false) } : Oper)) (v := undef) rfl (by kernel_rfl) (by kernel_rfl) (by kernel_rfl) (fun _ _ _ h => h) (Or.inr ⟨by rfl, rfl⟩) (by assumption) ?_
      (try simp only [Act.put, List.setIfInBounds_toArray, List.set_cons_zero, List.set_cons_succ])
      refine wpAnyH_take (i := 12) (oi := ({ dst := some 95, op := Op.indexAddr 36 (Operand.tmp 94) (Operand.const (Value.int IntKind.i64 1)), type := 0, pos := "law.go:97", after := #[{ on := 11, ground := Ground.data }, { on := 7, ground := Ground.guard }], guard := some (7, false) } : Oper)) (v := undef) rfl (by kernel_rfl) (by kernel_rfl) (by kernel_rfl) (fun _ _ _ h => h) (Or.inr ⟨by rfl, rfl⟩) (by assumption) ?_
      (try simp only [Act.put, List.setIfInBounds_toArray, List.set_cons_zero, List.set_cons_succ])
      refine wpAnyH_take (i := 13) (oi := ({ dst := some 96, op := Op.load 23 (Operand.tmp 95), type := 23, pos := "law.go:97", after := #[{ on := 12, ground := Ground.data }, { on := 7, ground := Ground.guard }], guard := some (7, false) } : Oper)) (v := undef) rfl (by kernel_rfl) (by kernel_rfl) (by kernel_rfl) (fun _ _ _ h => h) (Or.inr ⟨by rfl, rfl⟩) (by assumption) ?_
      (try simp only [Act.put, List.setIfInBounds_toArray, List.set_cons_zero, List.set_cons_succ])
      refine wpAnyH_take (i := 14) (oi := ({ dst := some 97, op := Op.call { callee := Callee.value (Operand.func 20), args := #[Operand.tmp 93, Operand.tmp 96], argTypes := #[23, 23] }, type := 23, pos := "law.go:97", after := #[{ on := 10, ground := Ground.data }, { on := 13, ground := Ground.data }, { on := 7, ground := Ground.chain }, { on := 7, ground := Ground.guard }], guard := some (7, false) } : Oper)) (v := undef) rfl (by kernel_rfl) (by kernel_rfl) (by kernel_rfl) (fun _ _ _ h => h) (Or.inr ⟨by rfl, rfl⟩) (by assumption) ?_
      (try simp only [Act.put, List.setIfInBounds_toArray, List.set_cons_zero, List.set_cons_succ])
      refine wpAnyH_take (i := 15) (oi := ({ dst := some 98, op := Op.indexAddr 37 (Operand.tmp 13) (Operand.const (Value.int IntKind.i64 1)), type := 0, pos := "law.go:97", after := #[{ on := 7, ground := Ground.guard }], guard := some (7, false) } : Oper)) (v := undef) rfl (by kernel_rfl) (by kernel_rfl) (by kernel_rfl) (fun _ _ _ h => h) (Or.inr ⟨by rfl, rfl⟩) (by assumption) ?_
      (try simp only [Act.put, List.setIfInBounds_toArray, List.set_cons_zero, List.set_cons_succ])
      refine wpAnyH_take (i := 16) (oi := ({ dst := some 99, op := Op.indexAddr 36 (Operand.tmp 98) (Operand.const (Value.int IntKind.i64 0)), type := 0, pos := "law.go:97", after := #[{ on := 15, ground := Ground.data }, { on := 7, ground := Ground.guard }], guard := some (7, false) } : Oper)) (v := undef) rfl (by kernel_rfl) (by kernel_rfl) (by kernel_rfl) (fun _ _ _ h => h) (Or.inr ⟨by rfl, rfl⟩) (by assumption) ?_
      (try simp only [Act.put, List.setIfInBounds_toArray, List.set_cons_zero, List.set_cons_succ])
      refine wpAnyH_take (i := 17) (oi := ({ dst := some 100, op := Op.load 23 (Operand.tmp 99), type := 23, pos := "law.go:97", after := #[{ on := 16, ground := Ground.data }, { on := 7, ground := Ground.guard }], guard := some (7, false) } : Oper)) (v := undef) rfl (by kernel_rfl) (by kernel_rfl) (by kernel_rfl) (fun _ _ _ h => h) (Or.inr ⟨by rfl, rfl⟩) (by assumption) ?_
      (try simp only [Act.put, List.setIfInBounds_toArray, List.set_cons_zero, List.set_cons_succ])
      refine wpAnyH_take (i := 18) (oi := ({ dst := some 101, op := Op.indexAddr 37 (Operand.tmp 13) (Operand.const (Value.int IntKind.i64 1)), type := 0, pos := "law.go:97", after := #[{ on := 7, ground := Ground.guard }], guard := some (7, false) } : Oper)) (v := undef) rfl (by kernel_rfl) (by kernel_rfl) (by kernel_rfl) (fun _ _ _ h => h) (Or.inr ⟨by rfl, rfl⟩) (by assumption) ?_
      (try simp only [Act.put, List.setIfInBounds_toArray, List.set_cons_zero, List.set_cons_succ])
      refine wpAnyH_take (i := 19) (oi := ({ dst := some 102, op := Op.indexAddr 36 (Operand.tmp 101) (Operand.const (Value.int IntKind.i64 1)), type := 0, pos := "law.go:97", after := #[{ on := 18, ground := Ground.data }, { on := 7, ground := Ground.guard }], guard := some (7, false) } : Oper)) (v := undef) rfl (by kernel_rfl) (by kernel_rfl) (by kernel_rfl) (fun _ _ _ h => h) (Or.inr ⟨by rfl, rfl⟩) (by assumption) ?_
      (try simp only [Act.put, List.setIfInBounds_toArray, List.set_cons_zero, List.set_cons_succ])
      refine wpAnyH_take (i := 20) (oi := ({ dst := some 103, op := Op.load 23 (Operand.tmp 102), type := 23, pos := "law.go:97", after := #[{ on := 19, ground := Ground.data }, { on := 7, ground := Ground.guard }], guard := some (7, false) } : Oper)) (v := undef) rfl (by kernel_rfl) (by kernel_rfl) (by kernel_rfl) (fun _ _ _ h => h) (Or.inr ⟨by rfl, rfl⟩) (by assumption) ?_
      (try simp only [Act.put, List.setIfInBounds_toArray, List.set_cons_zero, List.set_cons_succ])
      refine wpAnyH_take (i := 21) (oi := ({ dst := some 104, op := Op.call { callee := Callee.value (Operand.func 20), args := #[Operand.tmp 100, Operand.tmp 103], argTypes := #[23, 23] }, type := 23, pos := "law.go:97", after := #[{ on := 17, ground := Ground.data }, { on := 20, ground := Ground.data }, { on := 14, ground := Ground.chain }, { on := 7, ground := Ground.guard }], guard := some (7, false) } : Oper)) (v := undef) rfl (by kernel_rfl) (by kernel_rfl) (by kernel_rfl) (fun _ _ _ h => h) (Or.inr ⟨by rfl, rfl⟩) (by assumption) ?_
      (try simp only [Act.put, List.setIfInBounds_toArray, List.set_cons_zero, List.set_cons_succ])
      refine wpAnyH_take (i := 22) (oi := ({ dst := some 105, op := Op.binOp BinOp.neq 23 (Operand.tmp 97) (Operand.tmp 104) 23, type := 4, pos := "law.go:97", after := #[{ on := 14, ground := Ground.data }, { on := 21, ground := Ground.data }, { on := 7, ground := Ground.guard }], guard := some (7, false) } : Oper)) (v := undef) rfl (by kernel_rfl) (by kernel_rfl) (by kernel_rfl) (fun _ _ _ h => h) (Or.inr ⟨by rfl, rfl⟩) (by assumption) ?_
      (try simp only [Act.put, List.setIfInBounds_toArray, List.set_cons_zero, List.set_cons_succ])
      refine wpAnyH_take (i := 23) (oi := ({ dst := some 106, op := Op.pick (Operand.tmp 90) (Operand.const (Value.bool true)) (Operand.tmp 105), type := 4, pos := "law.go:97", after := #[{ on := 7, ground := Ground.data }, { on := 22, ground := Ground.data }, { on := 1, ground := Ground.guard }], guard := some (1, true) } : Oper)) (v := undef) rfl (by kernel_rfl) (by kernel_rfl) (by kernel_rfl) (fun _ _ _ h => h) (Or.inr ⟨by rfl, rfl⟩) (by assumption) ?_
      (try simp only [Act.put, List.setIfInBounds_toArray, List.set_cons_zero, List.set_cons_succ])
      refine wpAnyH_take (i := 24) (oi := ({ dst := some 107, op := Op.pick (Operand.tmp 84) (Operand.tmp 106) (Operand.const (Value.bool false)), type := 4, pos := "law.go:97", after := #[{ on := 1, ground := Ground.data }, { on := 23, ground := Ground.data }], guard := none } : Oper)) (v := ?_) rfl (by kernel_rfl) (by kernel_rfl) (by kernel_rfl) (fun _ _ _ h => h) (Or.inl ⟨by rfl, ?_⟩) (by assumption) ?_
      rotate_left
      · intro w hSw; (try dsimp only at hSw); go_simp <;> with_reducible rfl
      (try simp only [Act.put, List.setIfInBounds_toArray, List.set_cons_zero, List.set_cons_succ])
      refine wpAnyH_done (by kernel_rfl) ?_ _
      have R14 := hid hsd
      have b9 := B8.out.trans (hsd.mono B8.out.size)
      have x9 := (b9.block _ (Array.getElem?_eq_some_iff.1 HX5.out).1).trans HX5.out
      have X0 := blk_cell x9 (j := 0) (v := .int .u64 (xf.toNat : Int)) rfl
      have X1 := blk_cell x9 (j := 1) (v := .slice xa ql xc) rfl
      have B9 := hid b9
      have V9 := hid (V5.out.below b9)
      clear hHeld D0 D1 D2 D3 x9 b9
      go_wp2_with fail
      clear X0 X1
      refine (check_at (rootB l) xf N kk 0 XP ql xa xc HXL.out HE.out V9 (Below.refl _ _)).mono ?_
      rintro e W10 ⟨rfl, b10⟩
      have BE := hid (B5.out.trans ((below_step B9.out b10).mono B5.out.size))
      go_wp2_with fail
      go_ret
      exact ⟨rfl, BE.out⟩
    · have SA := hid (fun W' (h : Below W5.heap.size W5 W') => same_c XP P false (by simpa using hpq) _ _ W' (V5.out.below h) (U5.out.below h))
      have NS := hid (fun h : xf = lf ∧ XP = P => hpq h.2)
      clear hs hpq
      go_wp2_with fail
      refine (SA.out _ (Below.refl _ _)).mono ?_
      rintro e W6 ⟨rfl, b6⟩
      have x6 := (b6.block _ (Array.getElem?_eq_some_iff.1 HX5.out).1).trans HX5.out
      have o6 := (b6.block _ (Array.getElem?_eq_some_iff.1 HO5.out).1).trans HO5.out
      clear O0 O1 X0 X1
      have O0 := blk_cell o6 (j := 0) (v := .int .u64 (lf.toNat : Int)) rfl
      have O1 := blk_cell o6 (j := 1) (v := .slice p2 np c2) rfl
      have X0 := blk_cell x6 (j := 0) (v := .int .u64 (xf.toNat : Int)) rfl
      have X1 := blk_cell x6 (j := 1) (v := .slice xa ql xc) rfl
      have B6 := hid b6
      clear x6 o6 b6
      go_wp2_with fail
      clear O0 O1 X0 X1
      obtain ⟨E, hE⟩ : ∃ E, checkE (rootB l) N kk xf XP = E := ⟨_, rfl⟩
      have HE := hid hE
      by_cases he : E = 0
      · have e1 : (E == 0) = true := by rw [beq_iff_eq]; exact he
        have e2 : (E != 0) = false := by rw [he]; rfl
        cases hr : collideB N kk lf P xf XP with
        | none => exact absurd (CB.out (hE.trans he) hr) NS.out
        | some z =>
          obtain ⟨za, zb⟩ := z
          have HC := hid hr
          obtain ⟨hz1, hz2⟩ := coll_hit hr
          simp only at hz1 hz2
          have HJ := hid (show joinB zb.1 zb.2 = joinB za.1 za.2 from hz2.symm)
          have tz : (((za.1.toNat : Int) == (zb.1.toNat : Int)) && ((za.2.toNat : Int) == (zb.2.toNat : Int))) = false := pair_ne hz1
          clear hz1 hz2
          clear hr hE he
          refine (CO.out (some (za, zb)) HC _ B6.out).mono ?_
          rintro e W7 ⟨rfl, b7⟩
          unfold collV
          go_wp2_with fail
          have h8 := World.alloc_heap_new W7 (.cells #[.int .u64 (za.1.toNat : Int), .int .u64 (za.2.toNat : Int), .int .u64 (zb.1.toNat : Int), .int .u64 (zb.2.toNat : Int)] 37)
          have b8 := below_a (B6.out.trans (b7.mono B6.out.size)) (.cells #[.int .u64 (za.1.toNat : Int), .int .u64 (za.2.toNat : Int), .int .u64 (zb.1.toNat : Int), .int .u64 (zb.2.toNat : Int)] 37)
          obtain ⟨W8, hW8⟩ : ∃ W8, W7.alloc (.cells #[.int .u64 (za.1.toNat : Int), .int .u64 (za.2.toNat : Int), .int .u64 (zb.1.toNat : Int), .int .u64 (zb.2.toNat : Int)] 37) = W8 := ⟨_, rfl⟩
          rw [hW8] at h8 b8 ⊢
          clear hW8
          have B8 := hid b8
          have D0 := blk_cell h8 (j := 0) (v := .int .u64 (za.1.toNat : Int)) rfl
          have D1 := blk_cell h8 (j := 1) (v := .int .u64 (za.2.toNat : Int)) rfl
          have D2 := blk_cell h8 (j := 2) (v := .int .u64 (zb.1.toNat : Int)) rfl
          have D3 := blk_cell h8 (j := 3) (v := .int .u64 (zb.2.toNat : Int)) rfl
          clear h8 b8 b7
          have hsd := (Below.refl W8.heap.size W8).drew
          refine wp_region_held_drew (S := fun W' => (W'.cell? ⟨W7.heap.size, 0, none⟩ = some (.int .u64 (za.1.toNat : Int)) ∧ W'.cell? ⟨W7.heap.size, 1, none⟩ = some (.int .u64 (za.2.toNat : Int)) ∧ W'.cell? ⟨W7.heap.size, 2, none⟩ = some (.int .u64 (zb.1.toNat : Int)) ∧ W'.cell? ⟨W7.heap.size, 3, none⟩ = some (.int .u64 (zb.2.toNat : Int)) ∧ Below W8.heap.size W8 W')) (by kernel_rfl) ?_ (fun hHeld => ?_)
          · exact ⟨D0, D1, D2, D3, hsd⟩
          refine wpAnyH_take (i := 0) (oi := ({ dst := some 83, op := Op.move (Operand.tmp 14), type := 4, pos := "law.go:97", after := #[], guard := none } : Oper)) (v := ?_) rfl (by kernel_rfl) (by kernel_rfl) (by kernel_rfl) (fun _ _ _ h => h) (Or.inl ⟨by rfl, ?_⟩) (by assumption) ?_
          rotate_left
          · intro w hSw; (try dsimp only at hSw); go_simp <;> with_reducible rfl
          (try simp only [Act.put, List.setIfInBounds_toArray, List.set_cons_zero, List.set_cons_succ])
          refine wpAnyH_take (i := 1) (oi := ({ dst := some 84, op := Op.move (Operand.tmp 83), type := 4, pos := "law.go:97", after := #[{ on := 0, ground := Ground.data }], guard := none } : Oper)) (v := ?_) rfl (by kernel_rfl) (by kernel_rfl) (by kernel_rfl) (fun _ _ _ h => h) (Or.inl ⟨by rfl, ?_⟩) (by assumption) ?_
          rotate_left
          · intro w hSw; (try dsimp only at hSw); go_simp <;> with_reducible rfl
          (try simp only [Act.put, List.setIfInBounds_toArray, List.set_cons_zero, List.set_cons_succ])
          refine wpAnyH_take (i := 2) (oi := ({ dst := some 85, op := Op.indexAddr 37 (Operand.tmp 13) (Operand.const (Value.int IntKind.i64 0)), type := 0, pos := "law.go:97", after := #[{ on := 1, ground := Ground.guard }], guard := some (1, true) } : Oper)) (v := ?_) rfl (by kernel_rfl) (by kernel_rfl) (by kernel_rfl) (fun _ _ _ h => h) (Or.inl ⟨by rfl, ?_⟩) (by assumption) ?_
          rotate_left
          · intro w hSw; (try dsimp only at hSw); go_simp <;> with_reducible rfl
          (try simp only [Act.put, List.setIfInBounds_toArray, List.set_cons_zero, List.set_cons_succ])
          refine wpAnyH_take (i := 3) (oi := ({ dst := some 86, op := Op.load 36 (Operand.tmp 85), type := 36, pos := "law.go:97", after := #[{ on := 2, ground := Ground.data }, { on := 1, ground := Ground.guard }], guard := some (1, true) } : Oper)) (v := ?_) rfl (by kernel_rfl) (by kernel_rfl) (by kernel_rfl) (fun _ _ _ h => h) (Or.inl ⟨by rfl, ?_⟩) (by assumption) ?_
          rotate_left
          · intro w hSw; (try dsimp only at hSw); go_simp <;> with_reducible rfl
          (try simp only [Act.put, List.setIfInBounds_toArray, List.set_cons_zero, List.set_cons_succ])
          refine wpAnyH_take (i := 4) (oi := ({ dst := some 87, op := Op.indexAddr 37 (Operand.tmp 13) (Operand.const (Value.int IntKind.i64 1)), type := 0, pos := "law.go:97", after := #[{ on := 1, ground := Ground.guard }], guard := some (1, true) } : Oper)) (v := ?_) rfl (by kernel_rfl) (by kernel_rfl) (by kernel_rfl) (fun _ _ _ h => h) (Or.inl ⟨by rfl, ?_⟩) (by assumption) ?_
          rotate_left
          · intro w hSw; (try dsimp only at hSw); go_simp <;> with_reducible rfl
          (try simp only [Act.put, List.setIfInBounds_toArray, List.set_cons_zero, List.set_cons_succ])
          refine wpAnyH_take (i := 5) (oi := ({ dst := some 88, op := Op.load 36 (Operand.tmp 87), type := 36, pos := "law.go:97", after := #[{ on := 4, ground := Ground.data }, { on := 1, ground := Ground.guard }], guard := some (1, true) } : Oper)) (v := ?_) rfl (by kernel_rfl) (by kernel_rfl) (by kernel_rfl) (fun _ _ _ h => h) (Or.inl ⟨by rfl, ?_⟩) (by assumption) ?_
          rotate_left
          · intro w hSw; (try dsimp only at hSw); go_simp <;> with_reducible rfl
          (try simp only [Act.put, List.setIfInBounds_toArray, List.set_cons_zero, List.set_cons_succ])
          refine wpAnyH_take (i := 6) (oi := ({ dst := some 89, op := Op.binOp BinOp.eql 36 (Operand.tmp 86) (Operand.tmp 88) 36, type := 4, pos := "law.go:97", after := #[{ on := 3, ground := Ground.data }, { on := 5, ground := Ground.data }, { on := 1, ground := Ground.guard }], guard := some (1, true) } : Oper)) (v := ?_) rfl (by kernel_rfl) (by kernel_rfl) (by kernel_rfl) (fun _ _ _ h => h) (Or.inl ⟨by rfl, ?_⟩) (by assumption) ?_
          rotate_left
          · intro w hSw; (try dsimp only at hSw); go_simp <;> with_reducible rfl
          (try simp only [Act.put, List.setIfInBounds_toArray, List.set_cons_zero, List.set_cons_succ])
          refine wpAnyH_take (i := 7) (oi := ({ dst := some 90, op := Op.move (Operand.tmp 89), type := 4, pos := "law.go:97", after := #[{ on := 6, ground := Ground.data }, { on := 1, ground := Ground.chain }, { on := 1, ground := Ground.guard }], guard := some (1, true) } : Oper)) (v := ?_) rfl (by kernel_rfl) (by kernel_rfl) (by kernel_rfl) (fun _ _ _ h => h) (Or.inl ⟨by rfl, ?_⟩) (by assumption) ?_
          rotate_left
          · intro w hSw; (try dsimp only at hSw); go_simp <;> with_reducible rfl
          (try simp only [Act.put, List.setIfInBounds_toArray, List.set_cons_zero, List.set_cons_succ])
          refine wpAnyH_take (i := 8) (oi := ({ dst := some 91, op := Op.indexAddr 37 (Operand.tmp 13) (Operand.const (Value.int IntKind.i64 0)), type := 0, pos := "law.go:97", after := #[{ on := 7, ground := Ground.guard }], guard := some (7, false) } : Oper)) (v := ?_) rfl (by kernel_rfl) (by kernel_rfl) (by kernel_rfl) (fun _ _ _ h => h) (Or.inl ⟨by rfl, ?_⟩) (by assumption) ?_
          rotate_left
          · intro w hSw; (try dsimp only at hSw); go_simp <;> with_reducible rfl
          (try simp only [Act.put, List.setIfInBounds_toArray, List.set_cons_zero, List.set_cons_succ])
          refine wpAnyH_take (i := 9) (oi := ({ dst := some 92, op := Op.indexAddr 36 (Operand.tmp 91) (Operand.const (Value.int IntKind.i64 0)), type := 0, pos := "law.go:97", after := #[{ on := 8, ground := Ground.data }, { on := 7, ground := Ground.guard }], guard := some (7, false) } : Oper)) (v := ?_) rfl (by kernel_rfl) (by kernel_rfl) (by kernel_rfl) (fun _ _ _ h => h) (Or.inl ⟨by rfl, ?_⟩) (by assumption) ?_
          rotate_left
          · intro w hSw; (try dsimp only at hSw); go_simp <;> with_reducible rfl
          (try simp only [Act.put, List.setIfInBounds_toArray, List.set_cons_zero, List.set_cons_succ])
          refine wpAnyH_take (i := 10) (oi := ({ dst := some 93, op := Op.load 23 (Operand.tmp 92), type := 23, pos := "law.go:97", after := #[{ on := 9, ground := Ground.data }, { on := 7, ground := Ground.guard }], guard := some (7, false) } : Oper)) (v := ?_) rfl (by kernel_rfl) (by kernel_rfl) (by kernel_rfl) (fun _ _ _ h => h) (Or.inl ⟨by rfl, ?_⟩) (by assumption) ?_
          rotate_left
          · intro w hSw; (try dsimp only at hSw); go_simp <;> with_reducible rfl
          (try simp only [Act.put, List.setIfInBounds_toArray, List.set_cons_zero, List.set_cons_succ])
          refine wpAnyH_take (i := 11) (oi := ({ dst := some 94, op := Op.indexAddr 37 (Operand.tmp 13) (Operand.const (Value.int IntKind.i64 0)), type := 0, pos := "law.go:97", after := #[{ on := 7, ground := Ground.guard }], guard := some (7, false) } : Oper)) (v := ?_) rfl (by kernel_rfl) (by kernel_rfl) (by kernel_rfl) (fun _ _ _ h => h) (Or.inl ⟨by rfl, ?_⟩) (by assumption) ?_
          rotate_left
          · intro w hSw; (try dsimp only at hSw); go_simp <;> with_reducible rfl
          (try simp only [Act.put, List.setIfInBounds_toArray, List.set_cons_zero, List.set_cons_succ])
          refine wpAnyH_take (i := 12) (oi := ({ dst := some 95, op := Op.indexAddr 36 (Operand.tmp 94) (Operand.const (Value.int IntKind.i64 1)), type := 0, pos := "law.go:97", after := #[{ on := 11, ground := Ground.data }, { on := 7, ground := Ground.guard }], guard := some (7, false) } : Oper)) (v := ?_) rfl (by kernel_rfl) (by kernel_rfl) (by kernel_rfl) (fun _ _ _ h => h) (Or.inl ⟨by rfl, ?_⟩) (by assumption) ?_
          rotate_left
          · intro w hSw; (try dsimp only at hSw); go_simp <;> with_reducible rfl
          (try simp only [Act.put, List.setIfInBounds_toArray, List.set_cons_zero, List.set_cons_succ])
          refine wpAnyH_take (i := 13) (oi := ({ dst := some 96, op := Op.load 23 (Operand.tmp 95), type := 23, pos := "law.go:97", after := #[{ on := 12, ground := Ground.data }, { on := 7, ground := Ground.guard }], guard := some (7, false) } : Oper)) (v := ?_) rfl (by kernel_rfl) (by kernel_rfl) (by kernel_rfl) (fun _ _ _ h => h) (Or.inl ⟨by rfl, ?_⟩) (by assumption) ?_
          rotate_left
          · intro w hSw; (try dsimp only at hSw); go_simp <;> with_reducible rfl
          (try simp only [Act.put, List.setIfInBounds_toArray, List.set_cons_zero, List.set_cons_succ])
          refine wpAnyH_take (i := 15) (oi := ({ dst := some 98, op := Op.indexAddr 37 (Operand.tmp 13) (Operand.const (Value.int IntKind.i64 1)), type := 0, pos := "law.go:97", after := #[{ on := 7, ground := Ground.guard }], guard := some (7, false) } : Oper)) (v := ?_) rfl (by kernel_rfl) (by kernel_rfl) (by kernel_rfl) (fun _ _ _ h => h) (Or.inl ⟨by rfl, ?_⟩) (by assumption) ?_
          rotate_left
          · intro w hSw; (try dsimp only at hSw); go_simp <;> with_reducible rfl
          (try simp only [Act.put, List.setIfInBounds_toArray, List.set_cons_zero, List.set_cons_succ])
          refine wpAnyH_take (i := 16) (oi := ({ dst := some 99, op := Op.indexAddr 36 (Operand.tmp 98) (Operand.const (Value.int IntKind.i64 0)), type := 0, pos := "law.go:97", after := #[{ on := 15, ground := Ground.data }, { on := 7, ground := Ground.guard }], guard := some (7, false) } : Oper)) (v := ?_) rfl (by kernel_rfl) (by kernel_rfl) (by kernel_rfl) (fun _ _ _ h => h) (Or.inl ⟨by rfl, ?_⟩) (by assumption) ?_
          rotate_left
          · intro w hSw; (try dsimp only at hSw); go_simp <;> with_reducible rfl
          (try simp only [Act.put, List.setIfInBounds_toArray, List.set_cons_zero, List.set_cons_succ])
          refine wpAnyH_take (i := 17) (oi := ({ dst := some 100, op := Op.load 23 (Operand.tmp 99), type := 23, pos := "law.go:97", after := #[{ on := 16, ground := Ground.data }, { on := 7, ground := Ground.guard }], guard := some (7, false) } : Oper)) (v := ?_) rfl (by kernel_rfl) (by kernel_rfl) (by kernel_rfl) (fun _ _ _ h => h) (Or.inl ⟨by rfl, ?_⟩) (by assumption) ?_
          rotate_left
          · intro w hSw; (try dsimp only at hSw); go_simp <;> with_reducible rfl
          (try simp only [Act.put, List.setIfInBounds_toArray, List.set_cons_zero, List.set_cons_succ])
          refine wpAnyH_take (i := 18) (oi := ({ dst := some 101, op := Op.indexAddr 37 (Operand.tmp 13) (Operand.const (Value.int IntKind.i64 1)), type := 0, pos := "law.go:97", after := #[{ on := 7, ground := Ground.guard }], guard := some (7, false) } : Oper)) (v := ?_) rfl (by kernel_rfl) (by kernel_rfl) (by kernel_rfl) (fun _ _ _ h => h) (Or.inl ⟨by rfl, ?_⟩) (by assumption) ?_
          rotate_left
          · intro w hSw; (try dsimp only at hSw); go_simp <;> with_reducible rfl
          (try simp only [Act.put, List.setIfInBounds_toArray, List.set_cons_zero, List.set_cons_succ])
          refine wpAnyH_take (i := 19) (oi := ({ dst := some 102, op := Op.indexAddr 36 (Operand.tmp 101) (Operand.const (Value.int IntKind.i64 1)), type := 0, pos := "law.go:97", after := #[{ on := 18, ground := Ground.data }, { on := 7, ground := Ground.guard }], guard := some (7, false) } : Oper)) (v := ?_) rfl (by kernel_rfl) (by kernel_rfl) (by kernel_rfl) (fun _ _ _ h => h) (Or.inl ⟨by rfl, ?_⟩) (by assumption) ?_
          rotate_left
          · intro w hSw; (try dsimp only at hSw); go_simp <;> with_reducible rfl
          (try simp only [Act.put, List.setIfInBounds_toArray, List.set_cons_zero, List.set_cons_succ])
          refine wpAnyH_take (i := 20) (oi := ({ dst := some 103, op := Op.load 23 (Operand.tmp 102), type := 23, pos := "law.go:97", after := #[{ on := 19, ground := Ground.data }, { on := 7, ground := Ground.guard }], guard := some (7, false) } : Oper)) (v := ?_) rfl (by kernel_rfl) (by kernel_rfl) (by kernel_rfl) (fun _ _ _ h => h) (Or.inl ⟨by rfl, ?_⟩) (by assumption) ?_
          rotate_left
          · intro w hSw; (try dsimp only at hSw); go_simp <;> with_reducible rfl
          (try simp only [Act.put, List.setIfInBounds_toArray, List.set_cons_zero, List.set_cons_succ])
          refine wpAnyH_ready (rs := [14]) (by kernel_rfl) (by simp) ?_
          refine AllReadyH.cons (o := ({ dst := some 97, op := Op.call { callee := Callee.value (Operand.func 20), args := #[Operand.tmp 93, Operand.tmp 96], argTypes := #[23, 23] }, type := 23, pos := "law.go:97", after := #[{ on := 10, ground := Ground.data }, { on := 13, ground := Ground.data }, { on := 7, ground := Ground.chain }, { on := 7, ground := Ground.guard }], guard := some (7, false) } : Oper)) rfl (fun K hK => ?_) ?_
          rotate_left
          · exact AllReadyH.nil
          go_simp
          go_at_call 20
          with_reducible refine (j_b za.1 za.2 _ rfl rfl rfl _).mono ?_
          rintro e y0 ⟨rfl, hq0⟩
          have hB0 := below_step hsd hq0
          clear hHeld
          first | (with_reducible refine hK.out _ _ ?_ (fun hHeld => ?_)) | (go_wp2_with fail; with_reducible refine hK.out _ _ ?_ (fun hHeld => ?_))
          · exact ⟨cell_below hB0 D0, cell_below hB0 D1, cell_below hB0 D2, cell_below hB0 D3, hB0⟩
          clear hK K
          (try simp only [Act.put, List.setIfInBounds_toArray, List.set_cons_zero, List.set_cons_succ])
          refine wpAnyH_ready (rs := [21]) (by kernel_rfl) (by simp) ?_
          refine AllReadyH.cons (o := ({ dst := some 104, op := Op.call { callee := Callee.value (Operand.func 20), args := #[Operand.tmp 100, Operand.tmp 103], argTypes := #[23, 23] }, type := 23, pos := "law.go:97", after := #[{ on := 17, ground := Ground.data }, { on := 20, ground := Ground.data }, { on := 14, ground := Ground.chain }, { on := 7, ground := Ground.guard }], guard := some (7, false) } : Oper)) rfl (fun K hK => ?_) ?_
          rotate_left
          · exact AllReadyH.nil
          go_simp
          go_at_call 20
          with_reducible refine (j_b zb.1 zb.2 _ HJ.out rfl rfl _).mono ?_
          rintro e y1 ⟨rfl, hq1⟩
          have hB1 := below_step hB0 hq1
          clear hHeld
          first | (with_reducible refine hK.out _ _ ?_ (fun hHeld => ?_)) | (go_wp2_with fail; with_reducible refine hK.out _ _ ?_ (fun hHeld => ?_))
          · exact ⟨cell_below hB1 D0, cell_below hB1 D1, cell_below hB1 D2, cell_below hB1 D3, hB1⟩
          clear hK K
          (try simp only [Act.put, List.setIfInBounds_toArray, List.set_cons_zero, List.set_cons_succ])
          refine wpAnyH_take (i := 22) (oi := ({ dst := some 105, op := Op.binOp BinOp.neq 23 (Operand.tmp 97) (Operand.tmp 104) 23, type := 4, pos := "law.go:97", after := #[{ on := 14, ground := Ground.data }, { on := 21, ground := Ground.data }, { on := 7, ground := Ground.guard }], guard := some (7, false) } : Oper)) (v := ?_) rfl (by kernel_rfl) (by kernel_rfl) (by kernel_rfl) (fun _ _ _ h => h) (Or.inl ⟨by rfl, ?_⟩) (by assumption) ?_
          rotate_left
          · intro w hSw; (try dsimp only at hSw); go_simp <;> with_reducible rfl
          (try simp only [Act.put, List.setIfInBounds_toArray, List.set_cons_zero, List.set_cons_succ])
          refine wpAnyH_take (i := 23) (oi := ({ dst := some 106, op := Op.pick (Operand.tmp 90) (Operand.const (Value.bool true)) (Operand.tmp 105), type := 4, pos := "law.go:97", after := #[{ on := 7, ground := Ground.data }, { on := 22, ground := Ground.data }, { on := 1, ground := Ground.guard }], guard := some (1, true) } : Oper)) (v := ?_) rfl (by kernel_rfl) (by kernel_rfl) (by kernel_rfl) (fun _ _ _ h => h) (Or.inl ⟨by rfl, ?_⟩) (by assumption) ?_
          rotate_left
          · intro w hSw; (try dsimp only at hSw); go_simp <;> with_reducible rfl
          (try simp only [Act.put, List.setIfInBounds_toArray, List.set_cons_zero, List.set_cons_succ])
          refine wpAnyH_take (i := 24) (oi := ({ dst := some 107, op := Op.pick (Operand.tmp 84) (Operand.tmp 106) (Operand.const (Value.bool false)), type := 4, pos := "law.go:97", after := #[{ on := 1, ground := Ground.data }, { on := 23, ground := Ground.data }], guard := none } : Oper)) (v := ?_) rfl (by kernel_rfl) (by kernel_rfl) (by kernel_rfl) (fun _ _ _ h => h) (Or.inl ⟨by rfl, ?_⟩) (by assumption) ?_
          rotate_left
          · intro w hSw; (try dsimp only at hSw); go_simp <;> with_reducible rfl
          (try simp only [Act.put, List.setIfInBounds_toArray, List.set_cons_zero, List.set_cons_succ])
          refine wpAnyH_done (by kernel_rfl) ?_ _
          have R14 := hid hB1
          have b9 := B8.out.trans (hB1.mono B8.out.size)
          have x9 := (b9.block _ (Array.getElem?_eq_some_iff.1 HX5.out).1).trans HX5.out
          have X0 := blk_cell x9 (j := 0) (v := .int .u64 (xf.toNat : Int)) rfl
          have X1 := blk_cell x9 (j := 1) (v := .slice xa ql xc) rfl
          have B9 := hid b9
          have V9 := hid (V5.out.below b9)
          clear hHeld D0 D1 D2 D3 x9 b9
          go_wp2_with fail
          clear X0 X1
          refine (check_at (rootB l) xf N kk E XP ql xa xc HXL.out HE.out V9 (Below.refl _ _)).mono ?_
          rintro e W10 ⟨rfl, b10⟩
          have BE := hid (B5.out.trans ((below_step B9.out b10).mono B5.out.size))
          go_wp2_with fail
          go_ret
          exact ⟨rfl, BE.out⟩
      · have e1 : (E == 0) = false := by rw [beq_eq_false_iff_ne]; exact he
        have e2 : (E != 0) = true := by rw [bne_iff_ne]; exact he
        cases hr : collideB N kk lf P xf XP with
        | none =>
          have HC := hid hr
          clear hr hE he
          refine (CO.out none HC _ B6.out).mono ?_
          rintro e W7 ⟨rfl, b7⟩
          unfold collV
          go_wp2_with fail
          have h8 := World.alloc_heap_new W7 (.cells #[.int .u64 0, .int .u64 0, .int .u64 0, .int .u64 0] 37)
          have b8 := below_a (B6.out.trans (b7.mono B6.out.size)) (.cells #[.int .u64 0, .int .u64 0, .int .u64 0, .int .u64 0] 37)
          obtain ⟨W8, hW8⟩ : ∃ W8, W7.alloc (.cells #[.int .u64 0, .int .u64 0, .int .u64 0, .int .u64 0] 37) = W8 := ⟨_, rfl⟩
          rw [hW8] at h8 b8 ⊢
          clear hW8
          have B8 := hid b8
          have D0 := blk_cell h8 (j := 0) (v := .int .u64 0) rfl
          have D1 := blk_cell h8 (j := 1) (v := .int .u64 0) rfl
          have D2 := blk_cell h8 (j := 2) (v := .int .u64 0) rfl
          have D3 := blk_cell h8 (j := 3) (v := .int .u64 0) rfl
          clear h8 b8 b7
          have hsd := (Below.refl W8.heap.size W8).drew
          refine wp_region_held_drew (S := fun W' => (W'.cell? ⟨W7.heap.size, 0, none⟩ = some (.int .u64 0) ∧ W'.cell? ⟨W7.heap.size, 1, none⟩ = some (.int .u64 0) ∧ W'.cell? ⟨W7.heap.size, 2, none⟩ = some (.int .u64 0) ∧ W'.cell? ⟨W7.heap.size, 3, none⟩ = some (.int .u64 0) ∧ Below W8.heap.size W8 W')) (by kernel_rfl) ?_ (fun hHeld => ?_)
          · exact ⟨D0, D1, D2, D3, hsd⟩
          refine wpAnyH_take (i := 0) (oi := ({ dst := some 83, op := Op.move (Operand.tmp 14), type := 4, pos := "law.go:97", after := #[], guard := none } : Oper)) (v := ?_) rfl (by kernel_rfl) (by kernel_rfl) (by kernel_rfl) (fun _ _ _ h => h) (Or.inl ⟨by rfl, ?_⟩) (by assumption) ?_
          rotate_left
          · intro w hSw; (try dsimp only at hSw); go_simp <;> with_reducible rfl
          (try simp only [Act.put, List.setIfInBounds_toArray, List.set_cons_zero, List.set_cons_succ])
          refine wpAnyH_take (i := 1) (oi := ({ dst := some 84, op := Op.move (Operand.tmp 83), type := 4, pos := "law.go:97", after := #[{ on := 0, ground := Ground.data }], guard := none } : Oper)) (v := ?_) rfl (by kernel_rfl) (by kernel_rfl) (by kernel_rfl) (fun _ _ _ h => h) (Or.inl ⟨by rfl, ?_⟩) (by assumption) ?_
          rotate_left
          · intro w hSw; (try dsimp only at hSw); go_simp <;> with_reducible rfl
          (try simp only [Act.put, List.setIfInBounds_toArray, List.set_cons_zero, List.set_cons_succ])
          refine wpAnyH_take (i := 2) (oi := ({ dst := some 85, op := Op.indexAddr 37 (Operand.tmp 13) (Operand.const (Value.int IntKind.i64 0)), type := 0, pos := "law.go:97", after := #[{ on := 1, ground := Ground.guard }], guard := some (1, true) } : Oper)) (v := undef) rfl (by kernel_rfl) (by kernel_rfl) (by kernel_rfl) (fun _ _ _ h => h) (Or.inr ⟨by rfl, rfl⟩) (by assumption) ?_
          (try simp only [Act.put, List.setIfInBounds_toArray, List.set_cons_zero, List.set_cons_succ])
          refine wpAnyH_take (i := 3) (oi := ({ dst := some 86, op := Op.load 36 (Operand.tmp 85), type := 36, pos := "law.go:97", after := #[{ on := 2, ground := Ground.data }, { on := 1, ground := Ground.guard }], guard := some (1, true) } : Oper)) (v := undef) rfl (by kernel_rfl) (by kernel_rfl) (by kernel_rfl) (fun _ _ _ h => h) (Or.inr ⟨by rfl, rfl⟩) (by assumption) ?_
          (try simp only [Act.put, List.setIfInBounds_toArray, List.set_cons_zero, List.set_cons_succ])
          refine wpAnyH_take (i := 4) (oi := ({ dst := some 87, op := Op.indexAddr 37 (Operand.tmp 13) (Operand.const (Value.int IntKind.i64 1)), type := 0, pos := "law.go:97", after := #[{ on := 1, ground := Ground.guard }], guard := some (1, true) } : Oper)) (v := undef) rfl (by kernel_rfl) (by kernel_rfl) (by kernel_rfl) (fun _ _ _ h => h) (Or.inr ⟨by rfl, rfl⟩) (by assumption) ?_
          (try simp only [Act.put, List.setIfInBounds_toArray, List.set_cons_zero, List.set_cons_succ])
          refine wpAnyH_take (i := 5) (oi := ({ dst := some 88, op := Op.load 36 (Operand.tmp 87), type := 36, pos := "law.go:97", after := #[{ on := 4, ground := Ground.data }, { on := 1, ground := Ground.guard }], guard := some (1, true) } : Oper)) (v := undef) rfl (by kernel_rfl) (by kernel_rfl) (by kernel_rfl) (fun _ _ _ h => h) (Or.inr ⟨by rfl, rfl⟩) (by assumption) ?_
          (try simp only [Act.put, List.setIfInBounds_toArray, List.set_cons_zero, List.set_cons_succ])
          refine wpAnyH_take (i := 6) (oi := ({ dst := some 89, op := Op.binOp BinOp.eql 36 (Operand.tmp 86) (Operand.tmp 88) 36, type := 4, pos := "law.go:97", after := #[{ on := 3, ground := Ground.data }, { on := 5, ground := Ground.data }, { on := 1, ground := Ground.guard }], guard := some (1, true) } : Oper)) (v := undef) rfl (by kernel_rfl) (by kernel_rfl) (by kernel_rfl) (fun _ _ _ h => h) (Or.inr ⟨by rfl, rfl⟩) (by assumption) ?_
          (try simp only [Act.put, List.setIfInBounds_toArray, List.set_cons_zero, List.set_cons_succ])
          refine wpAnyH_take (i := 7) (oi := ({ dst := some 90, op := Op.move (Operand.tmp 89), type := 4, pos := "law.go:97", after := #[{ on := 6, ground := Ground.data }, { on := 1, ground := Ground.chain }, { on := 1, ground := Ground.guard }], guard := some (1, true) } : Oper)) (v := undef) rfl (by kernel_rfl) (by kernel_rfl) (by kernel_rfl) (fun _ _ _ h => h) (Or.inr ⟨by rfl, rfl⟩) (by assumption) ?_
          (try simp only [Act.put, List.setIfInBounds_toArray, List.set_cons_zero, List.set_cons_succ])
          refine wpAnyH_take (i := 8) (oi := ({ dst := some 91, op := Op.indexAddr 37 (Operand.tmp 13) (Operand.const (Value.int IntKind.i64 0)), type := 0, pos := "law.go:97", after := #[{ on := 7, ground := Ground.guard }], guard := some (7, false) } : Oper)) (v := undef) rfl (by kernel_rfl) (by kernel_rfl) (by kernel_rfl) (fun _ _ _ h => h) (Or.inr ⟨by rfl, rfl⟩) (by assumption) ?_
          (try simp only [Act.put, List.setIfInBounds_toArray, List.set_cons_zero, List.set_cons_succ])
          refine wpAnyH_take (i := 9) (oi := ({ dst := some 92, op := Op.indexAddr 36 (Operand.tmp 91) (Operand.const (Value.int IntKind.i64 0)), type := 0, pos := "law.go:97", after := #[{ on := 8, ground := Ground.data }, { on := 7, ground := Ground.guard }], guard := some (7, false) } : Oper)) (v := undef) rfl (by kernel_rfl) (by kernel_rfl) (by kernel_rfl) (fun _ _ _ h => h) (Or.inr ⟨by rfl, rfl⟩) (by assumption) ?_
          (try simp only [Act.put, List.setIfInBounds_toArray, List.set_cons_zero, List.set_cons_succ])
          refine wpAnyH_take (i := 10) (oi := ({ dst := some 93, op := Op.load 23 (Operand.tmp 92), type := 23, pos := "law.go:97", after := #[{ on := 9, ground := Ground.data }, { on := 7, ground := Ground.guard }], guard := some (7, false) } : Oper)) (v := undef) rfl (by kernel_rfl) (by kernel_rfl) (by kernel_rfl) (fun _ _ _ h => h) (Or.inr ⟨by rfl, rfl⟩) (by assumption) ?_
          (try simp only [Act.put, List.setIfInBounds_toArray, List.set_cons_zero, List.set_cons_succ])
          refine wpAnyH_take (i := 11) (oi := ({ dst := some 94, op := Op.indexAddr 37 (Operand.tmp 13) (Operand.const (Value.int IntKind.i64 0)), type := 0, pos := "law.go:97", after := #[{ on := 7, ground := Ground.guard }], guard := some (7, false) } : Oper)) (v := undef) rfl (by kernel_rfl) (by kernel_rfl) (by kernel_rfl) (fun _ _ _ h => h) (Or.inr ⟨by rfl, rfl⟩) (by assumption) ?_
          (try simp only [Act.put, List.setIfInBounds_toArray, List.set_cons_zero, List.set_cons_succ])
          refine wpAnyH_take (i := 12) (oi := ({ dst := some 95, op := Op.indexAddr 36 (Operand.tmp 94) (Operand.const (Value.int IntKind.i64 1)), type := 0, pos := "law.go:97", after := #[{ on := 11, ground := Ground.data }, { on := 7, ground := Ground.guard }], guard := some (7, false) } : Oper)) (v := undef) rfl (by kernel_rfl) (by kernel_rfl) (by kernel_rfl) (fun _ _ _ h => h) (Or.inr ⟨by rfl, rfl⟩) (by assumption) ?_
          (try simp only [Act.put, List.setIfInBounds_toArray, List.set_cons_zero, List.set_cons_succ])
          refine wpAnyH_take (i := 13) (oi := ({ dst := some 96, op := Op.load 23 (Operand.tmp 95), type := 23, pos := "law.go:97", after := #[{ on := 12, ground := Ground.data }, { on := 7, ground := Ground.guard }], guard := some (7, false) } : Oper)) (v := undef) rfl (by kernel_rfl) (by kernel_rfl) (by kernel_rfl) (fun _ _ _ h => h) (Or.inr ⟨by rfl, rfl⟩) (by assumption) ?_
          (try simp only [Act.put, List.setIfInBounds_toArray, List.set_cons_zero, List.set_cons_succ])
          refine wpAnyH_take (i := 14) (oi := ({ dst := some 97, op := Op.call { callee := Callee.value (Operand.func 20), args := #[Operand.tmp 93, Operand.tmp 96], argTypes := #[23, 23] }, type := 23, pos := "law.go:97", after := #[{ on := 10, ground := Ground.data }, { on := 13, ground := Ground.data }, { on := 7, ground := Ground.chain }, { on := 7, ground := Ground.guard }], guard := some (7, false) } : Oper)) (v := undef) rfl (by kernel_rfl) (by kernel_rfl) (by kernel_rfl) (fun _ _ _ h => h) (Or.inr ⟨by rfl, rfl⟩) (by assumption) ?_
          (try simp only [Act.put, List.setIfInBounds_toArray, List.set_cons_zero, List.set_cons_succ])
          refine wpAnyH_take (i := 15) (oi := ({ dst := some 98, op := Op.indexAddr 37 (Operand.tmp 13) (Operand.const (Value.int IntKind.i64 1)), type := 0, pos := "law.go:97", after := #[{ on := 7, ground := Ground.guard }], guard := some (7, false) } : Oper)) (v := undef) rfl (by kernel_rfl) (by kernel_rfl) (by kernel_rfl) (fun _ _ _ h => h) (Or.inr ⟨by rfl, rfl⟩) (by assumption) ?_
          (try simp only [Act.put, List.setIfInBounds_toArray, List.set_cons_zero, List.set_cons_succ])
          refine wpAnyH_take (i := 16) (oi := ({ dst := some 99, op := Op.indexAddr 36 (Operand.tmp 98) (Operand.const (Value.int IntKind.i64 0)), type := 0, pos := "law.go:97", after := #[{ on := 15, ground := Ground.data }, { on := 7, ground := Ground.guard }], guard := some (7, false) } : Oper)) (v := undef) rfl (by kernel_rfl) (by kernel_rfl) (by kernel_rfl) (fun _ _ _ h => h) (Or.inr ⟨by rfl, rfl⟩) (by assumption) ?_
          (try simp only [Act.put, List.setIfInBounds_toArray, List.set_cons_zero, List.set_cons_succ])
          refine wpAnyH_take (i := 17) (oi := ({ dst := some 100, op := Op.load 23 (Operand.tmp 99), type := 23, pos := "law.go:97", after := #[{ on := 16, ground := Ground.data }, { on := 7, ground := Ground.guard }], guard := some (7, false) } : Oper)) (v := undef) rfl (by kernel_rfl) (by kernel_rfl) (by kernel_rfl) (fun _ _ _ h => h) (Or.inr ⟨by rfl, rfl⟩) (by assumption) ?_
          (try simp only [Act.put, List.setIfInBounds_toArray, List.set_cons_zero, List.set_cons_succ])
          refine wpAnyH_take (i := 18) (oi := ({ dst := some 101, op := Op.indexAddr 37 (Operand.tmp 13) (Operand.const (Value.int IntKind.i64 1)), type := 0, pos := "law.go:97", after := #[{ on := 7, ground := Ground.guard }], guard := some (7, false) } : Oper)) (v := undef) rfl (by kernel_rfl) (by kernel_rfl) (by kernel_rfl) (fun _ _ _ h => h) (Or.inr ⟨by rfl, rfl⟩) (by assumption) ?_
          (try simp only [Act.put, List.setIfInBounds_toArray, List.set_cons_zero, List.set_cons_succ])
          refine wpAnyH_take (i := 19) (oi := ({ dst := some 102, op := Op.indexAddr 36 (Operand.tmp 101) (Operand.const (Value.int IntKind.i64 1)), type := 0, pos := "law.go:97", after := #[{ on := 18, ground := Ground.data }, { on := 7, ground := Ground.guard }], guard := some (7, false) } : Oper)) (v := undef) rfl (by kernel_rfl) (by kernel_rfl) (by kernel_rfl) (fun _ _ _ h => h) (Or.inr ⟨by rfl, rfl⟩) (by assumption) ?_
          (try simp only [Act.put, List.setIfInBounds_toArray, List.set_cons_zero, List.set_cons_succ])
          refine wpAnyH_take (i := 20) (oi := ({ dst := some 103, op := Op.load 23 (Operand.tmp 102), type := 23, pos := "law.go:97", after := #[{ on := 19, ground := Ground.data }, { on := 7, ground := Ground.guard }], guard := some (7, false) } : Oper)) (v := undef) rfl (by kernel_rfl) (by kernel_rfl) (by kernel_rfl) (fun _ _ _ h => h) (Or.inr ⟨by rfl, rfl⟩) (by assumption) ?_
          (try simp only [Act.put, List.setIfInBounds_toArray, List.set_cons_zero, List.set_cons_succ])
          refine wpAnyH_take (i := 21) (oi := ({ dst := some 104, op := Op.call { callee := Callee.value (Operand.func 20), args := #[Operand.tmp 100, Operand.tmp 103], argTypes := #[23, 23] }, type := 23, pos := "law.go:97", after := #[{ on := 17, ground := Ground.data }, { on := 20, ground := Ground.data }, { on := 14, ground := Ground.chain }, { on := 7, ground := Ground.guard }], guard := some (7, false) } : Oper)) (v := undef) rfl (by kernel_rfl) (by kernel_rfl) (by kernel_rfl) (fun _ _ _ h => h) (Or.inr ⟨by rfl, rfl⟩) (by assumption) ?_
          (try simp only [Act.put, List.setIfInBounds_toArray, List.set_cons_zero, List.set_cons_succ])
          refine wpAnyH_take (i := 22) (oi := ({ dst := some 105, op := Op.binOp BinOp.neq 23 (Operand.tmp 97) (Operand.tmp 104) 23, type := 4, pos := "law.go:97", after := #[{ on := 14, ground := Ground.data }, { on := 21, ground := Ground.data }, { on := 7, ground := Ground.guard }], guard := some (7, false) } : Oper)) (v := undef) rfl (by kernel_rfl) (by kernel_rfl) (by kernel_rfl) (fun _ _ _ h => h) (Or.inr ⟨by rfl, rfl⟩) (by assumption) ?_
          (try simp only [Act.put, List.setIfInBounds_toArray, List.set_cons_zero, List.set_cons_succ])
          refine wpAnyH_take (i := 23) (oi := ({ dst := some 106, op := Op.pick (Operand.tmp 90) (Operand.const (Value.bool true)) (Operand.tmp 105), type := 4, pos := "law.go:97", after := #[{ on := 7, ground := Ground.data }, { on := 22, ground := Ground.data }, { on := 1, ground := Ground.guard }], guard := some (1, true) } : Oper)) (v := undef) rfl (by kernel_rfl) (by kernel_rfl) (by kernel_rfl) (fun _ _ _ h => h) (Or.inr ⟨by rfl, rfl⟩) (by assumption) ?_
          (try simp only [Act.put, List.setIfInBounds_toArray, List.set_cons_zero, List.set_cons_succ])
          refine wpAnyH_take (i := 24) (oi := ({ dst := some 107, op := Op.pick (Operand.tmp 84) (Operand.tmp 106) (Operand.const (Value.bool false)), type := 4, pos := "law.go:97", after := #[{ on := 1, ground := Ground.data }, { on := 23, ground := Ground.data }], guard := none } : Oper)) (v := ?_) rfl (by kernel_rfl) (by kernel_rfl) (by kernel_rfl) (fun _ _ _ h => h) (Or.inl ⟨by rfl, ?_⟩) (by assumption) ?_
          rotate_left
          · intro w hSw; (try dsimp only at hSw); go_simp <;> with_reducible rfl
          (try simp only [Act.put, List.setIfInBounds_toArray, List.set_cons_zero, List.set_cons_succ])
          refine wpAnyH_done (by kernel_rfl) ?_ _
          have R14 := hid hsd
          have b9 := B8.out.trans (hsd.mono B8.out.size)
          have x9 := (b9.block _ (Array.getElem?_eq_some_iff.1 HX5.out).1).trans HX5.out
          have X0 := blk_cell x9 (j := 0) (v := .int .u64 (xf.toNat : Int)) rfl
          have X1 := blk_cell x9 (j := 1) (v := .slice xa ql xc) rfl
          have B9 := hid b9
          have V9 := hid (V5.out.below b9)
          clear hHeld D0 D1 D2 D3 x9 b9
          go_wp2_with fail
          clear X0 X1
          refine (check_at (rootB l) xf N kk E XP ql xa xc HXL.out HE.out V9 (Below.refl _ _)).mono ?_
          rintro e W10 ⟨rfl, b10⟩
          have BE := hid (B5.out.trans ((below_step B9.out b10).mono B5.out.size))
          go_wp2_with fail
          go_ret
          exact ⟨rfl, BE.out⟩
        | some z =>
          obtain ⟨za, zb⟩ := z
          have HC := hid hr
          obtain ⟨hz1, hz2⟩ := coll_hit hr
          simp only at hz1 hz2
          have HJ := hid (show joinB zb.1 zb.2 = joinB za.1 za.2 from hz2.symm)
          have tz : (((za.1.toNat : Int) == (zb.1.toNat : Int)) && ((za.2.toNat : Int) == (zb.2.toNat : Int))) = false := pair_ne hz1
          clear hz1 hz2
          clear hr hE he
          refine (CO.out (some (za, zb)) HC _ B6.out).mono ?_
          rintro e W7 ⟨rfl, b7⟩
          unfold collV
          go_wp2_with fail
          have h8 := World.alloc_heap_new W7 (.cells #[.int .u64 (za.1.toNat : Int), .int .u64 (za.2.toNat : Int), .int .u64 (zb.1.toNat : Int), .int .u64 (zb.2.toNat : Int)] 37)
          have b8 := below_a (B6.out.trans (b7.mono B6.out.size)) (.cells #[.int .u64 (za.1.toNat : Int), .int .u64 (za.2.toNat : Int), .int .u64 (zb.1.toNat : Int), .int .u64 (zb.2.toNat : Int)] 37)
          obtain ⟨W8, hW8⟩ : ∃ W8, W7.alloc (.cells #[.int .u64 (za.1.toNat : Int), .int .u64 (za.2.toNat : Int), .int .u64 (zb.1.toNat : Int), .int .u64 (zb.2.toNat : Int)] 37) = W8 := ⟨_, rfl⟩
          rw [hW8] at h8 b8 ⊢
          clear hW8
          have B8 := hid b8
          have D0 := blk_cell h8 (j := 0) (v := .int .u64 (za.1.toNat : Int)) rfl
          have D1 := blk_cell h8 (j := 1) (v := .int .u64 (za.2.toNat : Int)) rfl
          have D2 := blk_cell h8 (j := 2) (v := .int .u64 (zb.1.toNat : Int)) rfl
          have D3 := blk_cell h8 (j := 3) (v := .int .u64 (zb.2.toNat : Int)) rfl
          clear h8 b8 b7
          have hsd := (Below.refl W8.heap.size W8).drew
          refine wp_region_held_drew (S := fun W' => (W'.cell? ⟨W7.heap.size, 0, none⟩ = some (.int .u64 (za.1.toNat : Int)) ∧ W'.cell? ⟨W7.heap.size, 1, none⟩ = some (.int .u64 (za.2.toNat : Int)) ∧ W'.cell? ⟨W7.heap.size, 2, none⟩ = some (.int .u64 (zb.1.toNat : Int)) ∧ W'.cell? ⟨W7.heap.size, 3, none⟩ = some (.int .u64 (zb.2.toNat : Int)) ∧ Below W8.heap.size W8 W')) (by kernel_rfl) ?_ (fun hHeld => ?_)
          · exact ⟨D0, D1, D2, D3, hsd⟩
          refine wpAnyH_take (i := 0) (oi := ({ dst := some 83, op := Op.move (Operand.tmp 14), type := 4, pos := "law.go:97", after := #[], guard := none } : Oper)) (v := ?_) rfl (by kernel_rfl) (by kernel_rfl) (by kernel_rfl) (fun _ _ _ h => h) (Or.inl ⟨by rfl, ?_⟩) (by assumption) ?_
          rotate_left
          · intro w hSw; (try dsimp only at hSw); go_simp <;> with_reducible rfl
          (try simp only [Act.put, List.setIfInBounds_toArray, List.set_cons_zero, List.set_cons_succ])
          refine wpAnyH_take (i := 1) (oi := ({ dst := some 84, op := Op.move (Operand.tmp 83), type := 4, pos := "law.go:97", after := #[{ on := 0, ground := Ground.data }], guard := none } : Oper)) (v := ?_) rfl (by kernel_rfl) (by kernel_rfl) (by kernel_rfl) (fun _ _ _ h => h) (Or.inl ⟨by rfl, ?_⟩) (by assumption) ?_
          rotate_left
          · intro w hSw; (try dsimp only at hSw); go_simp <;> with_reducible rfl
          (try simp only [Act.put, List.setIfInBounds_toArray, List.set_cons_zero, List.set_cons_succ])
          refine wpAnyH_take (i := 2) (oi := ({ dst := some 85, op := Op.indexAddr 37 (Operand.tmp 13) (Operand.const (Value.int IntKind.i64 0)), type := 0, pos := "law.go:97", after := #[{ on := 1, ground := Ground.guard }], guard := some (1, true) } : Oper)) (v := ?_) rfl (by kernel_rfl) (by kernel_rfl) (by kernel_rfl) (fun _ _ _ h => h) (Or.inl ⟨by rfl, ?_⟩) (by assumption) ?_
          rotate_left
          · intro w hSw; (try dsimp only at hSw); go_simp <;> with_reducible rfl
          (try simp only [Act.put, List.setIfInBounds_toArray, List.set_cons_zero, List.set_cons_succ])
          refine wpAnyH_take (i := 3) (oi := ({ dst := some 86, op := Op.load 36 (Operand.tmp 85), type := 36, pos := "law.go:97", after := #[{ on := 2, ground := Ground.data }, { on := 1, ground := Ground.guard }], guard := some (1, true) } : Oper)) (v := ?_) rfl (by kernel_rfl) (by kernel_rfl) (by kernel_rfl) (fun _ _ _ h => h) (Or.inl ⟨by rfl, ?_⟩) (by assumption) ?_
          rotate_left
          · intro w hSw; (try dsimp only at hSw); go_simp <;> with_reducible rfl
          (try simp only [Act.put, List.setIfInBounds_toArray, List.set_cons_zero, List.set_cons_succ])
          refine wpAnyH_take (i := 4) (oi := ({ dst := some 87, op := Op.indexAddr 37 (Operand.tmp 13) (Operand.const (Value.int IntKind.i64 1)), type := 0, pos := "law.go:97", after := #[{ on := 1, ground := Ground.guard }], guard := some (1, true) } : Oper)) (v := ?_) rfl (by kernel_rfl) (by kernel_rfl) (by kernel_rfl) (fun _ _ _ h => h) (Or.inl ⟨by rfl, ?_⟩) (by assumption) ?_
          rotate_left
          · intro w hSw; (try dsimp only at hSw); go_simp <;> with_reducible rfl
          (try simp only [Act.put, List.setIfInBounds_toArray, List.set_cons_zero, List.set_cons_succ])
          refine wpAnyH_take (i := 5) (oi := ({ dst := some 88, op := Op.load 36 (Operand.tmp 87), type := 36, pos := "law.go:97", after := #[{ on := 4, ground := Ground.data }, { on := 1, ground := Ground.guard }], guard := some (1, true) } : Oper)) (v := ?_) rfl (by kernel_rfl) (by kernel_rfl) (by kernel_rfl) (fun _ _ _ h => h) (Or.inl ⟨by rfl, ?_⟩) (by assumption) ?_
          rotate_left
          · intro w hSw; (try dsimp only at hSw); go_simp <;> with_reducible rfl
          (try simp only [Act.put, List.setIfInBounds_toArray, List.set_cons_zero, List.set_cons_succ])
          refine wpAnyH_take (i := 6) (oi := ({ dst := some 89, op := Op.binOp BinOp.eql 36 (Operand.tmp 86) (Operand.tmp 88) 36, type := 4, pos := "law.go:97", after := #[{ on := 3, ground := Ground.data }, { on := 5, ground := Ground.data }, { on := 1, ground := Ground.guard }], guard := some (1, true) } : Oper)) (v := ?_) rfl (by kernel_rfl) (by kernel_rfl) (by kernel_rfl) (fun _ _ _ h => h) (Or.inl ⟨by rfl, ?_⟩) (by assumption) ?_
          rotate_left
          · intro w hSw; (try dsimp only at hSw); go_simp <;> with_reducible rfl
          (try simp only [Act.put, List.setIfInBounds_toArray, List.set_cons_zero, List.set_cons_succ])
          refine wpAnyH_take (i := 7) (oi := ({ dst := some 90, op := Op.move (Operand.tmp 89), type := 4, pos := "law.go:97", after := #[{ on := 6, ground := Ground.data }, { on := 1, ground := Ground.chain }, { on := 1, ground := Ground.guard }], guard := some (1, true) } : Oper)) (v := ?_) rfl (by kernel_rfl) (by kernel_rfl) (by kernel_rfl) (fun _ _ _ h => h) (Or.inl ⟨by rfl, ?_⟩) (by assumption) ?_
          rotate_left
          · intro w hSw; (try dsimp only at hSw); go_simp <;> with_reducible rfl
          (try simp only [Act.put, List.setIfInBounds_toArray, List.set_cons_zero, List.set_cons_succ])
          refine wpAnyH_take (i := 8) (oi := ({ dst := some 91, op := Op.indexAddr 37 (Operand.tmp 13) (Operand.const (Value.int IntKind.i64 0)), type := 0, pos := "law.go:97", after := #[{ on := 7, ground := Ground.guard }], guard := some (7, false) } : Oper)) (v := ?_) rfl (by kernel_rfl) (by kernel_rfl) (by kernel_rfl) (fun _ _ _ h => h) (Or.inl ⟨by rfl, ?_⟩) (by assumption) ?_
          rotate_left
          · intro w hSw; (try dsimp only at hSw); go_simp <;> with_reducible rfl
          (try simp only [Act.put, List.setIfInBounds_toArray, List.set_cons_zero, List.set_cons_succ])
          refine wpAnyH_take (i := 9) (oi := ({ dst := some 92, op := Op.indexAddr 36 (Operand.tmp 91) (Operand.const (Value.int IntKind.i64 0)), type := 0, pos := "law.go:97", after := #[{ on := 8, ground := Ground.data }, { on := 7, ground := Ground.guard }], guard := some (7, false) } : Oper)) (v := ?_) rfl (by kernel_rfl) (by kernel_rfl) (by kernel_rfl) (fun _ _ _ h => h) (Or.inl ⟨by rfl, ?_⟩) (by assumption) ?_
          rotate_left
          · intro w hSw; (try dsimp only at hSw); go_simp <;> with_reducible rfl
          (try simp only [Act.put, List.setIfInBounds_toArray, List.set_cons_zero, List.set_cons_succ])
          refine wpAnyH_take (i := 10) (oi := ({ dst := some 93, op := Op.load 23 (Operand.tmp 92), type := 23, pos := "law.go:97", after := #[{ on := 9, ground := Ground.data }, { on := 7, ground := Ground.guard }], guard := some (7, false) } : Oper)) (v := ?_) rfl (by kernel_rfl) (by kernel_rfl) (by kernel_rfl) (fun _ _ _ h => h) (Or.inl ⟨by rfl, ?_⟩) (by assumption) ?_
          rotate_left
          · intro w hSw; (try dsimp only at hSw); go_simp <;> with_reducible rfl
          (try simp only [Act.put, List.setIfInBounds_toArray, List.set_cons_zero, List.set_cons_succ])
          refine wpAnyH_take (i := 11) (oi := ({ dst := some 94, op := Op.indexAddr 37 (Operand.tmp 13) (Operand.const (Value.int IntKind.i64 0)), type := 0, pos := "law.go:97", after := #[{ on := 7, ground := Ground.guard }], guard := some (7, false) } : Oper)) (v := ?_) rfl (by kernel_rfl) (by kernel_rfl) (by kernel_rfl) (fun _ _ _ h => h) (Or.inl ⟨by rfl, ?_⟩) (by assumption) ?_
          rotate_left
          · intro w hSw; (try dsimp only at hSw); go_simp <;> with_reducible rfl
          (try simp only [Act.put, List.setIfInBounds_toArray, List.set_cons_zero, List.set_cons_succ])
          refine wpAnyH_take (i := 12) (oi := ({ dst := some 95, op := Op.indexAddr 36 (Operand.tmp 94) (Operand.const (Value.int IntKind.i64 1)), type := 0, pos := "law.go:97", after := #[{ on := 11, ground := Ground.data }, { on := 7, ground := Ground.guard }], guard := some (7, false) } : Oper)) (v := ?_) rfl (by kernel_rfl) (by kernel_rfl) (by kernel_rfl) (fun _ _ _ h => h) (Or.inl ⟨by rfl, ?_⟩) (by assumption) ?_
          rotate_left
          · intro w hSw; (try dsimp only at hSw); go_simp <;> with_reducible rfl
          (try simp only [Act.put, List.setIfInBounds_toArray, List.set_cons_zero, List.set_cons_succ])
          refine wpAnyH_take (i := 13) (oi := ({ dst := some 96, op := Op.load 23 (Operand.tmp 95), type := 23, pos := "law.go:97", after := #[{ on := 12, ground := Ground.data }, { on := 7, ground := Ground.guard }], guard := some (7, false) } : Oper)) (v := ?_) rfl (by kernel_rfl) (by kernel_rfl) (by kernel_rfl) (fun _ _ _ h => h) (Or.inl ⟨by rfl, ?_⟩) (by assumption) ?_
          rotate_left
          · intro w hSw; (try dsimp only at hSw); go_simp <;> with_reducible rfl
          (try simp only [Act.put, List.setIfInBounds_toArray, List.set_cons_zero, List.set_cons_succ])
          refine wpAnyH_take (i := 15) (oi := ({ dst := some 98, op := Op.indexAddr 37 (Operand.tmp 13) (Operand.const (Value.int IntKind.i64 1)), type := 0, pos := "law.go:97", after := #[{ on := 7, ground := Ground.guard }], guard := some (7, false) } : Oper)) (v := ?_) rfl (by kernel_rfl) (by kernel_rfl) (by kernel_rfl) (fun _ _ _ h => h) (Or.inl ⟨by rfl, ?_⟩) (by assumption) ?_
          rotate_left
          · intro w hSw; (try dsimp only at hSw); go_simp <;> with_reducible rfl
          (try simp only [Act.put, List.setIfInBounds_toArray, List.set_cons_zero, List.set_cons_succ])
          refine wpAnyH_take (i := 16) (oi := ({ dst := some 99, op := Op.indexAddr 36 (Operand.tmp 98) (Operand.const (Value.int IntKind.i64 0)), type := 0, pos := "law.go:97", after := #[{ on := 15, ground := Ground.data }, { on := 7, ground := Ground.guard }], guard := some (7, false) } : Oper)) (v := ?_) rfl (by kernel_rfl) (by kernel_rfl) (by kernel_rfl) (fun _ _ _ h => h) (Or.inl ⟨by rfl, ?_⟩) (by assumption) ?_
          rotate_left
          · intro w hSw; (try dsimp only at hSw); go_simp <;> with_reducible rfl
          (try simp only [Act.put, List.setIfInBounds_toArray, List.set_cons_zero, List.set_cons_succ])
          refine wpAnyH_take (i := 17) (oi := ({ dst := some 100, op := Op.load 23 (Operand.tmp 99), type := 23, pos := "law.go:97", after := #[{ on := 16, ground := Ground.data }, { on := 7, ground := Ground.guard }], guard := some (7, false) } : Oper)) (v := ?_) rfl (by kernel_rfl) (by kernel_rfl) (by kernel_rfl) (fun _ _ _ h => h) (Or.inl ⟨by rfl, ?_⟩) (by assumption) ?_
          rotate_left
          · intro w hSw; (try dsimp only at hSw); go_simp <;> with_reducible rfl
          (try simp only [Act.put, List.setIfInBounds_toArray, List.set_cons_zero, List.set_cons_succ])
          refine wpAnyH_take (i := 18) (oi := ({ dst := some 101, op := Op.indexAddr 37 (Operand.tmp 13) (Operand.const (Value.int IntKind.i64 1)), type := 0, pos := "law.go:97", after := #[{ on := 7, ground := Ground.guard }], guard := some (7, false) } : Oper)) (v := ?_) rfl (by kernel_rfl) (by kernel_rfl) (by kernel_rfl) (fun _ _ _ h => h) (Or.inl ⟨by rfl, ?_⟩) (by assumption) ?_
          rotate_left
          · intro w hSw; (try dsimp only at hSw); go_simp <;> with_reducible rfl
          (try simp only [Act.put, List.setIfInBounds_toArray, List.set_cons_zero, List.set_cons_succ])
          refine wpAnyH_take (i := 19) (oi := ({ dst := some 102, op := Op.indexAddr 36 (Operand.tmp 101) (Operand.const (Value.int IntKind.i64 1)), type := 0, pos := "law.go:97", after := #[{ on := 18, ground := Ground.data }, { on := 7, ground := Ground.guard }], guard := some (7, false) } : Oper)) (v := ?_) rfl (by kernel_rfl) (by kernel_rfl) (by kernel_rfl) (fun _ _ _ h => h) (Or.inl ⟨by rfl, ?_⟩) (by assumption) ?_
          rotate_left
          · intro w hSw; (try dsimp only at hSw); go_simp <;> with_reducible rfl
          (try simp only [Act.put, List.setIfInBounds_toArray, List.set_cons_zero, List.set_cons_succ])
          refine wpAnyH_take (i := 20) (oi := ({ dst := some 103, op := Op.load 23 (Operand.tmp 102), type := 23, pos := "law.go:97", after := #[{ on := 19, ground := Ground.data }, { on := 7, ground := Ground.guard }], guard := some (7, false) } : Oper)) (v := ?_) rfl (by kernel_rfl) (by kernel_rfl) (by kernel_rfl) (fun _ _ _ h => h) (Or.inl ⟨by rfl, ?_⟩) (by assumption) ?_
          rotate_left
          · intro w hSw; (try dsimp only at hSw); go_simp <;> with_reducible rfl
          (try simp only [Act.put, List.setIfInBounds_toArray, List.set_cons_zero, List.set_cons_succ])
          refine wpAnyH_ready (rs := [14]) (by kernel_rfl) (by simp) ?_
          refine AllReadyH.cons (o := ({ dst := some 97, op := Op.call { callee := Callee.value (Operand.func 20), args := #[Operand.tmp 93, Operand.tmp 96], argTypes := #[23, 23] }, type := 23, pos := "law.go:97", after := #[{ on := 10, ground := Ground.data }, { on := 13, ground := Ground.data }, { on := 7, ground := Ground.chain }, { on := 7, ground := Ground.guard }], guard := some (7, false) } : Oper)) rfl (fun K hK => ?_) ?_
          rotate_left
          · exact AllReadyH.nil
          go_simp
          go_at_call 20
          with_reducible refine (j_b za.1 za.2 _ rfl rfl rfl _).mono ?_
          rintro e y0 ⟨rfl, hq0⟩
          have hB0 := below_step hsd hq0
          clear hHeld
          first | (with_reducible refine hK.out _ _ ?_ (fun hHeld => ?_)) | (go_wp2_with fail; with_reducible refine hK.out _ _ ?_ (fun hHeld => ?_))
          · exact ⟨cell_below hB0 D0, cell_below hB0 D1, cell_below hB0 D2, cell_below hB0 D3, hB0⟩
          clear hK K
          (try simp only [Act.put, List.setIfInBounds_toArray, List.set_cons_zero, List.set_cons_succ])
          refine wpAnyH_ready (rs := [21]) (by kernel_rfl) (by simp) ?_
          refine AllReadyH.cons (o := ({ dst := some 104, op := Op.call { callee := Callee.value (Operand.func 20), args := #[Operand.tmp 100, Operand.tmp 103], argTypes := #[23, 23] }, type := 23, pos := "law.go:97", after := #[{ on := 17, ground := Ground.data }, { on := 20, ground := Ground.data }, { on := 14, ground := Ground.chain }, { on := 7, ground := Ground.guard }], guard := some (7, false) } : Oper)) rfl (fun K hK => ?_) ?_
          rotate_left
          · exact AllReadyH.nil
          go_simp
          go_at_call 20
          with_reducible refine (j_b zb.1 zb.2 _ HJ.out rfl rfl _).mono ?_
          rintro e y1 ⟨rfl, hq1⟩
          have hB1 := below_step hB0 hq1
          clear hHeld
          first | (with_reducible refine hK.out _ _ ?_ (fun hHeld => ?_)) | (go_wp2_with fail; with_reducible refine hK.out _ _ ?_ (fun hHeld => ?_))
          · exact ⟨cell_below hB1 D0, cell_below hB1 D1, cell_below hB1 D2, cell_below hB1 D3, hB1⟩
          clear hK K
          (try simp only [Act.put, List.setIfInBounds_toArray, List.set_cons_zero, List.set_cons_succ])
          refine wpAnyH_take (i := 22) (oi := ({ dst := some 105, op := Op.binOp BinOp.neq 23 (Operand.tmp 97) (Operand.tmp 104) 23, type := 4, pos := "law.go:97", after := #[{ on := 14, ground := Ground.data }, { on := 21, ground := Ground.data }, { on := 7, ground := Ground.guard }], guard := some (7, false) } : Oper)) (v := ?_) rfl (by kernel_rfl) (by kernel_rfl) (by kernel_rfl) (fun _ _ _ h => h) (Or.inl ⟨by rfl, ?_⟩) (by assumption) ?_
          rotate_left
          · intro w hSw; (try dsimp only at hSw); go_simp <;> with_reducible rfl
          (try simp only [Act.put, List.setIfInBounds_toArray, List.set_cons_zero, List.set_cons_succ])
          refine wpAnyH_take (i := 23) (oi := ({ dst := some 106, op := Op.pick (Operand.tmp 90) (Operand.const (Value.bool true)) (Operand.tmp 105), type := 4, pos := "law.go:97", after := #[{ on := 7, ground := Ground.data }, { on := 22, ground := Ground.data }, { on := 1, ground := Ground.guard }], guard := some (1, true) } : Oper)) (v := ?_) rfl (by kernel_rfl) (by kernel_rfl) (by kernel_rfl) (fun _ _ _ h => h) (Or.inl ⟨by rfl, ?_⟩) (by assumption) ?_
          rotate_left
          · intro w hSw; (try dsimp only at hSw); go_simp <;> with_reducible rfl
          (try simp only [Act.put, List.setIfInBounds_toArray, List.set_cons_zero, List.set_cons_succ])
          refine wpAnyH_take (i := 24) (oi := ({ dst := some 107, op := Op.pick (Operand.tmp 84) (Operand.tmp 106) (Operand.const (Value.bool false)), type := 4, pos := "law.go:97", after := #[{ on := 1, ground := Ground.data }, { on := 23, ground := Ground.data }], guard := none } : Oper)) (v := ?_) rfl (by kernel_rfl) (by kernel_rfl) (by kernel_rfl) (fun _ _ _ h => h) (Or.inl ⟨by rfl, ?_⟩) (by assumption) ?_
          rotate_left
          · intro w hSw; (try dsimp only at hSw); go_simp <;> with_reducible rfl
          (try simp only [Act.put, List.setIfInBounds_toArray, List.set_cons_zero, List.set_cons_succ])
          refine wpAnyH_done (by kernel_rfl) ?_ _
          have R14 := hid hB1
          have b9 := B8.out.trans (hB1.mono B8.out.size)
          have x9 := (b9.block _ (Array.getElem?_eq_some_iff.1 HX5.out).1).trans HX5.out
          have X0 := blk_cell x9 (j := 0) (v := .int .u64 (xf.toNat : Int)) rfl
          have X1 := blk_cell x9 (j := 1) (v := .slice xa ql xc) rfl
          have B9 := hid b9
          have V9 := hid (V5.out.below b9)
          clear hHeld D0 D1 D2 D3 x9 b9
          go_wp2_with fail
          clear X0 X1
          refine (check_at (rootB l) xf N kk E XP ql xa xc HXL.out HE.out V9 (Below.refl _ _)).mono ?_
          rintro e W10 ⟨rfl, b10⟩
          have BE := hid (B5.out.trans ((below_step B9.out b10).mono B5.out.size))
          go_wp2_with fail
          go_ret
          exact ⟨rfl, BE.out⟩
  · have s1 := bv_ne hs
    have NS := hid (fun h : xf = lf ∧ XP = P => hs h.1)
    have B6 := hid (Below.refl W5.heap.size W5)
    clear hs
    go_wp2_with fail
    clear O0 O1 X0 X1
    obtain ⟨E, hE⟩ : ∃ E, checkE (rootB l) N kk xf XP = E := ⟨_, rfl⟩
    have HE := hid hE
    by_cases he : E = 0
    · have e1 : (E == 0) = true := by rw [beq_iff_eq]; exact he
      have e2 : (E != 0) = false := by rw [he]; rfl
      cases hr : collideB N kk lf P xf XP with
      | none => exact absurd (CB.out (hE.trans he) hr) NS.out
      | some z =>
        obtain ⟨za, zb⟩ := z
        have HC := hid hr
        obtain ⟨hz1, hz2⟩ := coll_hit hr
        simp only at hz1 hz2
        have HJ := hid (show joinB zb.1 zb.2 = joinB za.1 za.2 from hz2.symm)
        have tz : (((za.1.toNat : Int) == (zb.1.toNat : Int)) && ((za.2.toNat : Int) == (zb.2.toNat : Int))) = false := pair_ne hz1
        clear hz1 hz2
        clear hr hE he
        refine (CO.out (some (za, zb)) HC _ B6.out).mono ?_
        rintro e W7 ⟨rfl, b7⟩
        unfold collV
        go_wp2_with fail
        have h8 := World.alloc_heap_new W7 (.cells #[.int .u64 (za.1.toNat : Int), .int .u64 (za.2.toNat : Int), .int .u64 (zb.1.toNat : Int), .int .u64 (zb.2.toNat : Int)] 37)
        have b8 := below_a (B6.out.trans (b7.mono B6.out.size)) (.cells #[.int .u64 (za.1.toNat : Int), .int .u64 (za.2.toNat : Int), .int .u64 (zb.1.toNat : Int), .int .u64 (zb.2.toNat : Int)] 37)
        obtain ⟨W8, hW8⟩ : ∃ W8, W7.alloc (.cells #[.int .u64 (za.1.toNat : Int), .int .u64 (za.2.toNat : Int), .int .u64 (zb.1.toNat : Int), .int .u64 (zb.2.toNat : Int)] 37) = W8 := ⟨_, rfl⟩
        rw [hW8] at h8 b8 ⊢
        clear hW8
        have B8 := hid b8
        have D0 := blk_cell h8 (j := 0) (v := .int .u64 (za.1.toNat : Int)) rfl
        have D1 := blk_cell h8 (j := 1) (v := .int .u64 (za.2.toNat : Int)) rfl
        have D2 := blk_cell h8 (j := 2) (v := .int .u64 (zb.1.toNat : Int)) rfl
        have D3 := blk_cell h8 (j := 3) (v := .int .u64 (zb.2.toNat : Int)) rfl
        clear h8 b8 b7
        have hsd := (Below.refl W8.heap.size W8).drew
        refine wp_region_held_drew (S := fun W' => (W'.cell? ⟨W7.heap.size, 0, none⟩ = some (.int .u64 (za.1.toNat : Int)) ∧ W'.cell? ⟨W7.heap.size, 1, none⟩ = some (.int .u64 (za.2.toNat : Int)) ∧ W'.cell? ⟨W7.heap.size, 2, none⟩ = some (.int .u64 (zb.1.toNat : Int)) ∧ W'.cell? ⟨W7.heap.size, 3, none⟩ = some (.int .u64 (zb.2.toNat : Int)) ∧ Below W8.heap.size W8 W')) (by kernel_rfl) ?_ (fun hHeld => ?_)
        · exact ⟨D0, D1, D2, D3, hsd⟩
        refine wpAnyH_take (i := 0) (oi := ({ dst := some 83, op := Op.move (Operand.tmp 14), type := 4, pos := "law.go:97", after := #[], guard := none } : Oper)) (v := ?_) rfl (by kernel_rfl) (by kernel_rfl) (by kernel_rfl) (fun _ _ _ h => h) (Or.inl ⟨by rfl, ?_⟩) (by assumption) ?_
        rotate_left
        · intro w hSw; (try dsimp only at hSw); go_simp <;> with_reducible rfl
        (try simp only [Act.put, List.setIfInBounds_toArray, List.set_cons_zero, List.set_cons_succ])
        refine wpAnyH_take (i := 1) (oi := ({ dst := some 84, op := Op.move (Operand.tmp 83), type := 4, pos := "law.go:97", after := #[{ on := 0, ground := Ground.data }], guard := none } : Oper)) (v := ?_) rfl (by kernel_rfl) (by kernel_rfl) (by kernel_rfl) (fun _ _ _ h => h) (Or.inl ⟨by rfl, ?_⟩) (by assumption) ?_
        rotate_left
        · intro w hSw; (try dsimp only at hSw); go_simp <;> with_reducible rfl
        (try simp only [Act.put, List.setIfInBounds_toArray, List.set_cons_zero, List.set_cons_succ])
        refine wpAnyH_take (i := 2) (oi := ({ dst := some 85, op := Op.indexAddr 37 (Operand.tmp 13) (Operand.const (Value.int IntKind.i64 0)), type := 0, pos := "law.go:97", after := #[{ on := 1, ground := Ground.guard }], guard := some (1, true) } : Oper)) (v := ?_) rfl (by kernel_rfl) (by kernel_rfl) (by kernel_rfl) (fun _ _ _ h => h) (Or.inl ⟨by rfl, ?_⟩) (by assumption) ?_
        rotate_left
        · intro w hSw; (try dsimp only at hSw); go_simp <;> with_reducible rfl
        (try simp only [Act.put, List.setIfInBounds_toArray, List.set_cons_zero, List.set_cons_succ])
        refine wpAnyH_take (i := 3) (oi := ({ dst := some 86, op := Op.load 36 (Operand.tmp 85), type := 36, pos := "law.go:97", after := #[{ on := 2, ground := Ground.data }, { on := 1, ground := Ground.guard }], guard := some (1, true) } : Oper)) (v := ?_) rfl (by kernel_rfl) (by kernel_rfl) (by kernel_rfl) (fun _ _ _ h => h) (Or.inl ⟨by rfl, ?_⟩) (by assumption) ?_
        rotate_left
        · intro w hSw; (try dsimp only at hSw); go_simp <;> with_reducible rfl
        (try simp only [Act.put, List.setIfInBounds_toArray, List.set_cons_zero, List.set_cons_succ])
        refine wpAnyH_take (i := 4) (oi := ({ dst := some 87, op := Op.indexAddr 37 (Operand.tmp 13) (Operand.const (Value.int IntKind.i64 1)), type := 0, pos := "law.go:97", after := #[{ on := 1, ground := Ground.guard }], guard := some (1, true) } : Oper)) (v := ?_) rfl (by kernel_rfl) (by kernel_rfl) (by kernel_rfl) (fun _ _ _ h => h) (Or.inl ⟨by rfl, ?_⟩) (by assumption) ?_
        rotate_left
        · intro w hSw; (try dsimp only at hSw); go_simp <;> with_reducible rfl
        (try simp only [Act.put, List.setIfInBounds_toArray, List.set_cons_zero, List.set_cons_succ])
        refine wpAnyH_take (i := 5) (oi := ({ dst := some 88, op := Op.load 36 (Operand.tmp 87), type := 36, pos := "law.go:97", after := #[{ on := 4, ground := Ground.data }, { on := 1, ground := Ground.guard }], guard := some (1, true) } : Oper)) (v := ?_) rfl (by kernel_rfl) (by kernel_rfl) (by kernel_rfl) (fun _ _ _ h => h) (Or.inl ⟨by rfl, ?_⟩) (by assumption) ?_
        rotate_left
        · intro w hSw; (try dsimp only at hSw); go_simp <;> with_reducible rfl
        (try simp only [Act.put, List.setIfInBounds_toArray, List.set_cons_zero, List.set_cons_succ])
        refine wpAnyH_take (i := 6) (oi := ({ dst := some 89, op := Op.binOp BinOp.eql 36 (Operand.tmp 86) (Operand.tmp 88) 36, type := 4, pos := "law.go:97", after := #[{ on := 3, ground := Ground.data }, { on := 5, ground := Ground.data }, { on := 1, ground := Ground.guard }], guard := some (1, true) } : Oper)) (v := ?_) rfl (by kernel_rfl) (by kernel_rfl) (by kernel_rfl) (fun _ _ _ h => h) (Or.inl ⟨by rfl, ?_⟩) (by assumption) ?_
        rotate_left
        · intro w hSw; (try dsimp only at hSw); go_simp <;> with_reducible rfl
        (try simp only [Act.put, List.setIfInBounds_toArray, List.set_cons_zero, List.set_cons_succ])
        refine wpAnyH_take (i := 7) (oi := ({ dst := some 90, op := Op.move (Operand.tmp 89), type := 4, pos := "law.go:97", after := #[{ on := 6, ground := Ground.data }, { on := 1, ground := Ground.chain }, { on := 1, ground := Ground.guard }], guard := some (1, true) } : Oper)) (v := ?_) rfl (by kernel_rfl) (by kernel_rfl) (by kernel_rfl) (fun _ _ _ h => h) (Or.inl ⟨by rfl, ?_⟩) (by assumption) ?_
        rotate_left
        · intro w hSw; (try dsimp only at hSw); go_simp <;> with_reducible rfl
        (try simp only [Act.put, List.setIfInBounds_toArray, List.set_cons_zero, List.set_cons_succ])
        refine wpAnyH_take (i := 8) (oi := ({ dst := some 91, op := Op.indexAddr 37 (Operand.tmp 13) (Operand.const (Value.int IntKind.i64 0)), type := 0, pos := "law.go:97", after := #[{ on := 7, ground := Ground.guard }], guard := some (7, false) } : Oper)) (v := ?_) rfl (by kernel_rfl) (by kernel_rfl) (by kernel_rfl) (fun _ _ _ h => h) (Or.inl ⟨by rfl, ?_⟩) (by assumption) ?_
        rotate_left
        · intro w hSw; (try dsimp only at hSw); go_simp <;> with_reducible rfl
        (try simp only [Act.put, List.setIfInBounds_toArray, List.set_cons_zero, List.set_cons_succ])
        refine wpAnyH_take (i := 9) (oi := ({ dst := some 92, op := Op.indexAddr 36 (Operand.tmp 91) (Operand.const (Value.int IntKind.i64 0)), type := 0, pos := "law.go:97", after := #[{ on := 8, ground := Ground.data }, { on := 7, ground := Ground.guard }], guard := some (7, false) } : Oper)) (v := ?_) rfl (by kernel_rfl) (by kernel_rfl) (by kernel_rfl) (fun _ _ _ h => h) (Or.inl ⟨by rfl, ?_⟩) (by assumption) ?_
        rotate_left
        · intro w hSw; (try dsimp only at hSw); go_simp <;> with_reducible rfl
        (try simp only [Act.put, List.setIfInBounds_toArray, List.set_cons_zero, List.set_cons_succ])
        refine wpAnyH_take (i := 10) (oi := ({ dst := some 93, op := Op.load 23 (Operand.tmp 92), type := 23, pos := "law.go:97", after := #[{ on := 9, ground := Ground.data }, { on := 7, ground := Ground.guard }], guard := some (7, false) } : Oper)) (v := ?_) rfl (by kernel_rfl) (by kernel_rfl) (by kernel_rfl) (fun _ _ _ h => h) (Or.inl ⟨by rfl, ?_⟩) (by assumption) ?_
        rotate_left
        · intro w hSw; (try dsimp only at hSw); go_simp <;> with_reducible rfl
        (try simp only [Act.put, List.setIfInBounds_toArray, List.set_cons_zero, List.set_cons_succ])
        refine wpAnyH_take (i := 11) (oi := ({ dst := some 94, op := Op.indexAddr 37 (Operand.tmp 13) (Operand.const (Value.int IntKind.i64 0)), type := 0, pos := "law.go:97", after := #[{ on := 7, ground := Ground.guard }], guard := some (7, false) } : Oper)) (v := ?_) rfl (by kernel_rfl) (by kernel_rfl) (by kernel_rfl) (fun _ _ _ h => h) (Or.inl ⟨by rfl, ?_⟩) (by assumption) ?_
        rotate_left
        · intro w hSw; (try dsimp only at hSw); go_simp <;> with_reducible rfl
        (try simp only [Act.put, List.setIfInBounds_toArray, List.set_cons_zero, List.set_cons_succ])
        refine wpAnyH_take (i := 12) (oi := ({ dst := some 95, op := Op.indexAddr 36 (Operand.tmp 94) (Operand.const (Value.int IntKind.i64 1)), type := 0, pos := "law.go:97", after := #[{ on := 11, ground := Ground.data }, { on := 7, ground := Ground.guard }], guard := some (7, false) } : Oper)) (v := ?_) rfl (by kernel_rfl) (by kernel_rfl) (by kernel_rfl) (fun _ _ _ h => h) (Or.inl ⟨by rfl, ?_⟩) (by assumption) ?_
        rotate_left
        · intro w hSw; (try dsimp only at hSw); go_simp <;> with_reducible rfl
        (try simp only [Act.put, List.setIfInBounds_toArray, List.set_cons_zero, List.set_cons_succ])
        refine wpAnyH_take (i := 13) (oi := ({ dst := some 96, op := Op.load 23 (Operand.tmp 95), type := 23, pos := "law.go:97", after := #[{ on := 12, ground := Ground.data }, { on := 7, ground := Ground.guard }], guard := some (7, false) } : Oper)) (v := ?_) rfl (by kernel_rfl) (by kernel_rfl) (by kernel_rfl) (fun _ _ _ h => h) (Or.inl ⟨by rfl, ?_⟩) (by assumption) ?_
        rotate_left
        · intro w hSw; (try dsimp only at hSw); go_simp <;> with_reducible rfl
        (try simp only [Act.put, List.setIfInBounds_toArray, List.set_cons_zero, List.set_cons_succ])
        refine wpAnyH_take (i := 15) (oi := ({ dst := some 98, op := Op.indexAddr 37 (Operand.tmp 13) (Operand.const (Value.int IntKind.i64 1)), type := 0, pos := "law.go:97", after := #[{ on := 7, ground := Ground.guard }], guard := some (7, false) } : Oper)) (v := ?_) rfl (by kernel_rfl) (by kernel_rfl) (by kernel_rfl) (fun _ _ _ h => h) (Or.inl ⟨by rfl, ?_⟩) (by assumption) ?_
        rotate_left
        · intro w hSw; (try dsimp only at hSw); go_simp <;> with_reducible rfl
        (try simp only [Act.put, List.setIfInBounds_toArray, List.set_cons_zero, List.set_cons_succ])
        refine wpAnyH_take (i := 16) (oi := ({ dst := some 99, op := Op.indexAddr 36 (Operand.tmp 98) (Operand.const (Value.int IntKind.i64 0)), type := 0, pos := "law.go:97", after := #[{ on := 15, ground := Ground.data }, { on := 7, ground := Ground.guard }], guard := some (7, false) } : Oper)) (v := ?_) rfl (by kernel_rfl) (by kernel_rfl) (by kernel_rfl) (fun _ _ _ h => h) (Or.inl ⟨by rfl, ?_⟩) (by assumption) ?_
        rotate_left
        · intro w hSw; (try dsimp only at hSw); go_simp <;> with_reducible rfl
        (try simp only [Act.put, List.setIfInBounds_toArray, List.set_cons_zero, List.set_cons_succ])
        refine wpAnyH_take (i := 17) (oi := ({ dst := some 100, op := Op.load 23 (Operand.tmp 99), type := 23, pos := "law.go:97", after := #[{ on := 16, ground := Ground.data }, { on := 7, ground := Ground.guard }], guard := some (7, false) } : Oper)) (v := ?_) rfl (by kernel_rfl) (by kernel_rfl) (by kernel_rfl) (fun _ _ _ h => h) (Or.inl ⟨by rfl, ?_⟩) (by assumption) ?_
        rotate_left
        · intro w hSw; (try dsimp only at hSw); go_simp <;> with_reducible rfl
        (try simp only [Act.put, List.setIfInBounds_toArray, List.set_cons_zero, List.set_cons_succ])
        refine wpAnyH_take (i := 18) (oi := ({ dst := some 101, op := Op.indexAddr 37 (Operand.tmp 13) (Operand.const (Value.int IntKind.i64 1)), type := 0, pos := "law.go:97", after := #[{ on := 7, ground := Ground.guard }], guard := some (7, false) } : Oper)) (v := ?_) rfl (by kernel_rfl) (by kernel_rfl) (by kernel_rfl) (fun _ _ _ h => h) (Or.inl ⟨by rfl, ?_⟩) (by assumption) ?_
        rotate_left
        · intro w hSw; (try dsimp only at hSw); go_simp <;> with_reducible rfl
        (try simp only [Act.put, List.setIfInBounds_toArray, List.set_cons_zero, List.set_cons_succ])
        refine wpAnyH_take (i := 19) (oi := ({ dst := some 102, op := Op.indexAddr 36 (Operand.tmp 101) (Operand.const (Value.int IntKind.i64 1)), type := 0, pos := "law.go:97", after := #[{ on := 18, ground := Ground.data }, { on := 7, ground := Ground.guard }], guard := some (7, false) } : Oper)) (v := ?_) rfl (by kernel_rfl) (by kernel_rfl) (by kernel_rfl) (fun _ _ _ h => h) (Or.inl ⟨by rfl, ?_⟩) (by assumption) ?_
        rotate_left
        · intro w hSw; (try dsimp only at hSw); go_simp <;> with_reducible rfl
        (try simp only [Act.put, List.setIfInBounds_toArray, List.set_cons_zero, List.set_cons_succ])
        refine wpAnyH_take (i := 20) (oi := ({ dst := some 103, op := Op.load 23 (Operand.tmp 102), type := 23, pos := "law.go:97", after := #[{ on := 19, ground := Ground.data }, { on := 7, ground := Ground.guard }], guard := some (7, false) } : Oper)) (v := ?_) rfl (by kernel_rfl) (by kernel_rfl) (by kernel_rfl) (fun _ _ _ h => h) (Or.inl ⟨by rfl, ?_⟩) (by assumption) ?_
        rotate_left
        · intro w hSw; (try dsimp only at hSw); go_simp <;> with_reducible rfl
        (try simp only [Act.put, List.setIfInBounds_toArray, List.set_cons_zero, List.set_cons_succ])
        refine wpAnyH_ready (rs := [14]) (by kernel_rfl) (by simp) ?_
        refine AllReadyH.cons (o := ({ dst := some 97, op := Op.call { callee := Callee.value (Operand.func 20), args := #[Operand.tmp 93, Operand.tmp 96], argTypes := #[23, 23] }, type := 23, pos := "law.go:97", after := #[{ on := 10, ground := Ground.data }, { on := 13, ground := Ground.data }, { on := 7, ground := Ground.chain }, { on := 7, ground := Ground.guard }], guard := some (7, false) } : Oper)) rfl (fun K hK => ?_) ?_
        rotate_left
        · exact AllReadyH.nil
        go_simp
        go_at_call 20
        with_reducible refine (j_b za.1 za.2 _ rfl rfl rfl _).mono ?_
        rintro e y0 ⟨rfl, hq0⟩
        have hB0 := below_step hsd hq0
        clear hHeld
        first | (with_reducible refine hK.out _ _ ?_ (fun hHeld => ?_)) | (go_wp2_with fail; with_reducible refine hK.out _ _ ?_ (fun hHeld => ?_))
        · exact ⟨cell_below hB0 D0, cell_below hB0 D1, cell_below hB0 D2, cell_below hB0 D3, hB0⟩
        clear hK K
        (try simp only [Act.put, List.setIfInBounds_toArray, List.set_cons_zero, List.set_cons_succ])
        refine wpAnyH_ready (rs := [21]) (by kernel_rfl) (by simp) ?_
        refine AllReadyH.cons (o := ({ dst := some 104, op := Op.call { callee := Callee.value (Operand.func 20), args := #[Operand.tmp 100, Operand.tmp 103], argTypes := #[23, 23] }, type := 23, pos := "law.go:97", after := #[{ on := 17, ground := Ground.data }, { on := 20, ground := Ground.data }, { on := 14, ground := Ground.chain }, { on := 7, ground := Ground.guard }], guard := some (7, false) } : Oper)) rfl (fun K hK => ?_) ?_
        rotate_left
        · exact AllReadyH.nil
        go_simp
        go_at_call 20
        with_reducible refine (j_b zb.1 zb.2 _ HJ.out rfl rfl _).mono ?_
        rintro e y1 ⟨rfl, hq1⟩
        have hB1 := below_step hB0 hq1
        clear hHeld
        first | (with_reducible refine hK.out _ _ ?_ (fun hHeld => ?_)) | (go_wp2_with fail; with_reducible refine hK.out _ _ ?_ (fun hHeld => ?_))
        · exact ⟨cell_below hB1 D0, cell_below hB1 D1, cell_below hB1 D2, cell_below hB1 D3, hB1⟩
        clear hK K
        (try simp only [Act.put, List.setIfInBounds_toArray, List.set_cons_zero, List.set_cons_succ])
        refine wpAnyH_take (i := 22) (oi := ({ dst := some 105, op := Op.binOp BinOp.neq 23 (Operand.tmp 97) (Operand.tmp 104) 23, type := 4, pos := "law.go:97", after := #[{ on := 14, ground := Ground.data }, { on := 21, ground := Ground.data }, { on := 7, ground := Ground.guard }], guard := some (7, false) } : Oper)) (v := ?_) rfl (by kernel_rfl) (by kernel_rfl) (by kernel_rfl) (fun _ _ _ h => h) (Or.inl ⟨by rfl, ?_⟩) (by assumption) ?_
        rotate_left
        · intro w hSw; (try dsimp only at hSw); go_simp <;> with_reducible rfl
        (try simp only [Act.put, List.setIfInBounds_toArray, List.set_cons_zero, List.set_cons_succ])
        refine wpAnyH_take (i := 23) (oi := ({ dst := some 106, op := Op.pick (Operand.tmp 90) (Operand.const (Value.bool true)) (Operand.tmp 105), type := 4, pos := "law.go:97", after := #[{ on := 7, ground := Ground.data }, { on := 22, ground := Ground.data }, { on := 1, ground := Ground.guard }], guard := some (1, true) } : Oper)) (v := ?_) rfl (by kernel_rfl) (by kernel_rfl) (by kernel_rfl) (fun _ _ _ h => h) (Or.inl ⟨by rfl, ?_⟩) (by assumption) ?_
        rotate_left
        · intro w hSw; (try dsimp only at hSw); go_simp <;> with_reducible rfl
        (try simp only [Act.put, List.setIfInBounds_toArray, List.set_cons_zero, List.set_cons_succ])
        refine wpAnyH_take (i := 24) (oi := ({ dst := some 107, op := Op.pick (Operand.tmp 84) (Operand.tmp 106) (Operand.const (Value.bool false)), type := 4, pos := "law.go:97", after := #[{ on := 1, ground := Ground.data }, { on := 23, ground := Ground.data }], guard := none } : Oper)) (v := ?_) rfl (by kernel_rfl) (by kernel_rfl) (by kernel_rfl) (fun _ _ _ h => h) (Or.inl ⟨by rfl, ?_⟩) (by assumption) ?_
        rotate_left
        · intro w hSw; (try dsimp only at hSw); go_simp <;> with_reducible rfl
        (try simp only [Act.put, List.setIfInBounds_toArray, List.set_cons_zero, List.set_cons_succ])
        refine wpAnyH_done (by kernel_rfl) ?_ _
        have R14 := hid hB1
        have b9 := B8.out.trans (hB1.mono B8.out.size)
        have x9 := (b9.block _ (Array.getElem?_eq_some_iff.1 HX5.out).1).trans HX5.out
        have X0 := blk_cell x9 (j := 0) (v := .int .u64 (xf.toNat : Int)) rfl
        have X1 := blk_cell x9 (j := 1) (v := .slice xa ql xc) rfl
        have B9 := hid b9
        have V9 := hid (V5.out.below b9)
        clear hHeld D0 D1 D2 D3 x9 b9
        go_wp2_with fail
        clear X0 X1
        refine (check_at (rootB l) xf N kk E XP ql xa xc HXL.out HE.out V9 (Below.refl _ _)).mono ?_
        rintro e W10 ⟨rfl, b10⟩
        have BE := hid (B5.out.trans ((below_step B9.out b10).mono B5.out.size))
        go_wp2_with fail
        go_ret
        exact ⟨rfl, BE.out⟩
    · have e1 : (E == 0) = false := by rw [beq_eq_false_iff_ne]; exact he
      have e2 : (E != 0) = true := by rw [bne_iff_ne]; exact he
      cases hr : collideB N kk lf P xf XP with
      | none =>
        have HC := hid hr
        clear hr hE he
        refine (CO.out none HC _ B6.out).mono ?_
        rintro e W7 ⟨rfl, b7⟩
        unfold collV
        go_wp2_with fail
        have h8 := World.alloc_heap_new W7 (.cells #[.int .u64 0, .int .u64 0, .int .u64 0, .int .u64 0] 37)
        have b8 := below_a (B6.out.trans (b7.mono B6.out.size)) (.cells #[.int .u64 0, .int .u64 0, .int .u64 0, .int .u64 0] 37)
        obtain ⟨W8, hW8⟩ : ∃ W8, W7.alloc (.cells #[.int .u64 0, .int .u64 0, .int .u64 0, .int .u64 0] 37) = W8 := ⟨_, rfl⟩
        rw [hW8] at h8 b8 ⊢
        clear hW8
        have B8 := hid b8
        have D0 := blk_cell h8 (j := 0) (v := .int .u64 0) rfl
        have D1 := blk_cell h8 (j := 1) (v := .int .u64 0) rfl
        have D2 := blk_cell h8 (j := 2) (v := .int .u64 0) rfl
        have D3 := blk_cell h8 (j := 3) (v := .int .u64 0) rfl
        clear h8 b8 b7
        have hsd := (Below.refl W8.heap.size W8).drew
        refine wp_region_held_drew (S := fun W' => (W'.cell? ⟨W7.heap.size, 0, none⟩ = some (.int .u64 0) ∧ W'.cell? ⟨W7.heap.size, 1, none⟩ = some (.int .u64 0) ∧ W'.cell? ⟨W7.heap.size, 2, none⟩ = some (.int .u64 0) ∧ W'.cell? ⟨W7.heap.size, 3, none⟩ = some (.int .u64 0) ∧ Below W8.heap.size W8 W')) (by kernel_rfl) ?_ (fun hHeld => ?_)
        · exact ⟨D0, D1, D2, D3, hsd⟩
        refine wpAnyH_take (i := 0) (oi := ({ dst := some 83, op := Op.move (Operand.tmp 14), type := 4, pos := "law.go:97", after := #[], guard := none } : Oper)) (v := ?_) rfl (by kernel_rfl) (by kernel_rfl) (by kernel_rfl) (fun _ _ _ h => h) (Or.inl ⟨by rfl, ?_⟩) (by assumption) ?_
        rotate_left
        · intro w hSw; (try dsimp only at hSw); go_simp <;> with_reducible rfl
        (try simp only [Act.put, List.setIfInBounds_toArray, List.set_cons_zero, List.set_cons_succ])
        refine wpAnyH_take (i := 1) (oi := ({ dst := some 84, op := Op.move (Operand.tmp 83), type := 4, pos := "law.go:97", after := #[{ on := 0, ground := Ground.data }], guard := none } : Oper)) (v := ?_) rfl (by kernel_rfl) (by kernel_rfl) (by kernel_rfl) (fun _ _ _ h => h) (Or.inl ⟨by rfl, ?_⟩) (by assumption) ?_
        rotate_left
        · intro w hSw; (try dsimp only at hSw); go_simp <;> with_reducible rfl
        (try simp only [Act.put, List.setIfInBounds_toArray, List.set_cons_zero, List.set_cons_succ])
        refine wpAnyH_take (i := 2) (oi := ({ dst := some 85, op := Op.indexAddr 37 (Operand.tmp 13) (Operand.const (Value.int IntKind.i64 0)), type := 0, pos := "law.go:97", after := #[{ on := 1, ground := Ground.guard }], guard := some (1, true) } : Oper)) (v := undef) rfl (by kernel_rfl) (by kernel_rfl) (by kernel_rfl) (fun _ _ _ h => h) (Or.inr ⟨by rfl, rfl⟩) (by assumption) ?_
        (try simp only [Act.put, List.setIfInBounds_toArray, List.set_cons_zero, List.set_cons_succ])
        refine wpAnyH_take (i := 3) (oi := ({ dst := some 86, op := Op.load 36 (Operand.tmp 85), type := 36, pos := "law.go:97", after := #[{ on := 2, ground := Ground.data }, { on := 1, ground := Ground.guard }], guard := some (1, true) } : Oper)) (v := undef) rfl (by kernel_rfl) (by kernel_rfl) (by kernel_rfl) (fun _ _ _ h => h) (Or.inr ⟨by rfl, rfl⟩) (by assumption) ?_
        (try simp only [Act.put, List.setIfInBounds_toArray, List.set_cons_zero, List.set_cons_succ])
        refine wpAnyH_take (i := 4) (oi := ({ dst := some 87, op := Op.indexAddr 37 (Operand.tmp 13) (Operand.const (Value.int IntKind.i64 1)), type := 0, pos := "law.go:97", after := #[{ on := 1, ground := Ground.guard }], guard := some (1, true) } : Oper)) (v := undef) rfl (by kernel_rfl) (by kernel_rfl) (by kernel_rfl) (fun _ _ _ h => h) (Or.inr ⟨by rfl, rfl⟩) (by assumption) ?_
        (try simp only [Act.put, List.setIfInBounds_toArray, List.set_cons_zero, List.set_cons_succ])
        refine wpAnyH_take (i := 5) (oi := ({ dst := some 88, op := Op.load 36 (Operand.tmp 87), type := 36, pos := "law.go:97", after := #[{ on := 4, ground := Ground.data }, { on := 1, ground := Ground.guard }], guard := some (1, true) } : Oper)) (v := undef) rfl (by kernel_rfl) (by kernel_rfl) (by kernel_rfl) (fun _ _ _ h => h) (Or.inr ⟨by rfl, rfl⟩) (by assumption) ?_
        (try simp only [Act.put, List.setIfInBounds_toArray, List.set_cons_zero, List.set_cons_succ])
        refine wpAnyH_take (i := 6) (oi := ({ dst := some 89, op := Op.binOp BinOp.eql 36 (Operand.tmp 86) (Operand.tmp 88) 36, type := 4, pos := "law.go:97", after := #[{ on := 3, ground := Ground.data }, { on := 5, ground := Ground.data }, { on := 1, ground := Ground.guard }], guard := some (1, true) } : Oper)) (v := undef) rfl (by kernel_rfl) (by kernel_rfl) (by kernel_rfl) (fun _ _ _ h => h) (Or.inr ⟨by rfl, rfl⟩) (by assumption) ?_
        (try simp only [Act.put, List.setIfInBounds_toArray, List.set_cons_zero, List.set_cons_succ])
        refine wpAnyH_take (i := 7) (oi := ({ dst := some 90, op := Op.move (Operand.tmp 89), type := 4, pos := "law.go:97", after := #[{ on := 6, ground := Ground.data }, { on := 1, ground := Ground.chain }, { on := 1, ground := Ground.guard }], guard := some (1, true) } : Oper)) (v := undef) rfl (by kernel_rfl) (by kernel_rfl) (by kernel_rfl) (fun _ _ _ h => h) (Or.inr ⟨by rfl, rfl⟩) (by assumption) ?_
        (try simp only [Act.put, List.setIfInBounds_toArray, List.set_cons_zero, List.set_cons_succ])
        refine wpAnyH_take (i := 8) (oi := ({ dst := some 91, op := Op.indexAddr 37 (Operand.tmp 13) (Operand.const (Value.int IntKind.i64 0)), type := 0, pos := "law.go:97", after := #[{ on := 7, ground := Ground.guard }], guard := some (7, false) } : Oper)) (v := undef) rfl (by kernel_rfl) (by kernel_rfl) (by kernel_rfl) (fun _ _ _ h => h) (Or.inr ⟨by rfl, rfl⟩) (by assumption) ?_
        (try simp only [Act.put, List.setIfInBounds_toArray, List.set_cons_zero, List.set_cons_succ])
        refine wpAnyH_take (i := 9) (oi := ({ dst := some 92, op := Op.indexAddr 36 (Operand.tmp 91) (Operand.const (Value.int IntKind.i64 0)), type := 0, pos := "law.go:97", after := #[{ on := 8, ground := Ground.data }, { on := 7, ground := Ground.guard }], guard := some (7, false) } : Oper)) (v := undef) rfl (by kernel_rfl) (by kernel_rfl) (by kernel_rfl) (fun _ _ _ h => h) (Or.inr ⟨by rfl, rfl⟩) (by assumption) ?_
        (try simp only [Act.put, List.setIfInBounds_toArray, List.set_cons_zero, List.set_cons_succ])
        refine wpAnyH_take (i := 10) (oi := ({ dst := some 93, op := Op.load 23 (Operand.tmp 92), type := 23, pos := "law.go:97", after := #[{ on := 9, ground := Ground.data }, { on := 7, ground := Ground.guard }], guard := some (7, false) } : Oper)) (v := undef) rfl (by kernel_rfl) (by kernel_rfl) (by kernel_rfl) (fun _ _ _ h => h) (Or.inr ⟨by rfl, rfl⟩) (by assumption) ?_
        (try simp only [Act.put, List.setIfInBounds_toArray, List.set_cons_zero, List.set_cons_succ])
        refine wpAnyH_take (i := 11) (oi := ({ dst := some 94, op := Op.indexAddr 37 (Operand.tmp 13) (Operand.const (Value.int IntKind.i64 0)), type := 0, pos := "law.go:97", after := #[{ on := 7, ground := Ground.guard }], guard := some (7, false) } : Oper)) (v := undef) rfl (by kernel_rfl) (by kernel_rfl) (by kernel_rfl) (fun _ _ _ h => h) (Or.inr ⟨by rfl, rfl⟩) (by assumption) ?_
        (try simp only [Act.put, List.setIfInBounds_toArray, List.set_cons_zero, List.set_cons_succ])
        refine wpAnyH_take (i := 12) (oi := ({ dst := some 95, op := Op.indexAddr 36 (Operand.tmp 94) (Operand.const (Value.int IntKind.i64 1)), type := 0, pos := "law.go:97", after := #[{ on := 11, ground := Ground.data }, { on := 7, ground := Ground.guard }], guard := some (7, false) } : Oper)) (v := undef) rfl (by kernel_rfl) (by kernel_rfl) (by kernel_rfl) (fun _ _ _ h => h) (Or.inr ⟨by rfl, rfl⟩) (by assumption) ?_
        (try simp only [Act.put, List.setIfInBounds_toArray, List.set_cons_zero, List.set_cons_succ])
        refine wpAnyH_take (i := 13) (oi := ({ dst := some 96, op := Op.load 23 (Operand.tmp 95), type := 23, pos := "law.go:97", after := #[{ on := 12, ground := Ground.data }, { on := 7, ground := Ground.guard }], guard := some (7, false) } : Oper)) (v := undef) rfl (by kernel_rfl) (by kernel_rfl) (by kernel_rfl) (fun _ _ _ h => h) (Or.inr ⟨by rfl, rfl⟩) (by assumption) ?_
        (try simp only [Act.put, List.setIfInBounds_toArray, List.set_cons_zero, List.set_cons_succ])
        refine wpAnyH_take (i := 14) (oi := ({ dst := some 97, op := Op.call { callee := Callee.value (Operand.func 20), args := #[Operand.tmp 93, Operand.tmp 96], argTypes := #[23, 23] }, type := 23, pos := "law.go:97", after := #[{ on := 10, ground := Ground.data }, { on := 13, ground := Ground.data }, { on := 7, ground := Ground.chain }, { on := 7, ground := Ground.guard }], guard := some (7, false) } : Oper)) (v := undef) rfl (by kernel_rfl) (by kernel_rfl) (by kernel_rfl) (fun _ _ _ h => h) (Or.inr ⟨by rfl, rfl⟩) (by assumption) ?_
        (try simp only [Act.put, List.setIfInBounds_toArray, List.set_cons_zero, List.set_cons_succ])
        refine wpAnyH_take (i := 15) (oi := ({ dst := some 98, op := Op.indexAddr 37 (Operand.tmp 13) (Operand.const (Value.int IntKind.i64 1)), type := 0, pos := "law.go:97", after := #[{ on := 7, ground := Ground.guard }], guard := some (7, false) } : Oper)) (v := undef) rfl (by kernel_rfl) (by kernel_rfl) (by kernel_rfl) (fun _ _ _ h => h) (Or.inr ⟨by rfl, rfl⟩) (by assumption) ?_
        (try simp only [Act.put, List.setIfInBounds_toArray, List.set_cons_zero, List.set_cons_succ])
        refine wpAnyH_take (i := 16) (oi := ({ dst := some 99, op := Op.indexAddr 36 (Operand.tmp 98) (Operand.const (Value.int IntKind.i64 0)), type := 0, pos := "law.go:97", after := #[{ on := 15, ground := Ground.data }, { on := 7, ground := Ground.guard }], guard := some (7, false) } : Oper)) (v := undef) rfl (by kernel_rfl) (by kernel_rfl) (by kernel_rfl) (fun _ _ _ h => h) (Or.inr ⟨by rfl, rfl⟩) (by assumption) ?_
        (try simp only [Act.put, List.setIfInBounds_toArray, List.set_cons_zero, List.set_cons_succ])
        refine wpAnyH_take (i := 17) (oi := ({ dst := some 100, op := Op.load 23 (Operand.tmp 99), type := 23, pos := "law.go:97", after := #[{ on := 16, ground := Ground.data }, { on := 7, ground := Ground.guard }], guard := some (7, false) } : Oper)) (v := undef) rfl (by kernel_rfl) (by kernel_rfl) (by kernel_rfl) (fun _ _ _ h => h) (Or.inr ⟨by rfl, rfl⟩) (by assumption) ?_
        (try simp only [Act.put, List.setIfInBounds_toArray, List.set_cons_zero, List.set_cons_succ])
        refine wpAnyH_take (i := 18) (oi := ({ dst := some 101, op := Op.indexAddr 37 (Operand.tmp 13) (Operand.const (Value.int IntKind.i64 1)), type := 0, pos := "law.go:97", after := #[{ on := 7, ground := Ground.guard }], guard := some (7, false) } : Oper)) (v := undef) rfl (by kernel_rfl) (by kernel_rfl) (by kernel_rfl) (fun _ _ _ h => h) (Or.inr ⟨by rfl, rfl⟩) (by assumption) ?_
        (try simp only [Act.put, List.setIfInBounds_toArray, List.set_cons_zero, List.set_cons_succ])
        refine wpAnyH_take (i := 19) (oi := ({ dst := some 102, op := Op.indexAddr 36 (Operand.tmp 101) (Operand.const (Value.int IntKind.i64 1)), type := 0, pos := "law.go:97", after := #[{ on := 18, ground := Ground.data }, { on := 7, ground := Ground.guard }], guard := some (7, false) } : Oper)) (v := undef) rfl (by kernel_rfl) (by kernel_rfl) (by kernel_rfl) (fun _ _ _ h => h) (Or.inr ⟨by rfl, rfl⟩) (by assumption) ?_
        (try simp only [Act.put, List.setIfInBounds_toArray, List.set_cons_zero, List.set_cons_succ])
        refine wpAnyH_take (i := 20) (oi := ({ dst := some 103, op := Op.load 23 (Operand.tmp 102), type := 23, pos := "law.go:97", after := #[{ on := 19, ground := Ground.data }, { on := 7, ground := Ground.guard }], guard := some (7, false) } : Oper)) (v := undef) rfl (by kernel_rfl) (by kernel_rfl) (by kernel_rfl) (fun _ _ _ h => h) (Or.inr ⟨by rfl, rfl⟩) (by assumption) ?_
        (try simp only [Act.put, List.setIfInBounds_toArray, List.set_cons_zero, List.set_cons_succ])
        refine wpAnyH_take (i := 21) (oi := ({ dst := some 104, op := Op.call { callee := Callee.value (Operand.func 20), args := #[Operand.tmp 100, Operand.tmp 103], argTypes := #[23, 23] }, type := 23, pos := "law.go:97", after := #[{ on := 17, ground := Ground.data }, { on := 20, ground := Ground.data }, { on := 14, ground := Ground.chain }, { on := 7, ground := Ground.guard }], guard := some (7, false) } : Oper)) (v := undef) rfl (by kernel_rfl) (by kernel_rfl) (by kernel_rfl) (fun _ _ _ h => h) (Or.inr ⟨by rfl, rfl⟩) (by assumption) ?_
        (try simp only [Act.put, List.setIfInBounds_toArray, List.set_cons_zero, List.set_cons_succ])
        refine wpAnyH_take (i := 22) (oi := ({ dst := some 105, op := Op.binOp BinOp.neq 23 (Operand.tmp 97) (Operand.tmp 104) 23, type := 4, pos := "law.go:97", after := #[{ on := 14, ground := Ground.data }, { on := 21, ground := Ground.data }, { on := 7, ground := Ground.guard }], guard := some (7, false) } : Oper)) (v := undef) rfl (by kernel_rfl) (by kernel_rfl) (by kernel_rfl) (fun _ _ _ h => h) (Or.inr ⟨by rfl, rfl⟩) (by assumption) ?_
        (try simp only [Act.put, List.setIfInBounds_toArray, List.set_cons_zero, List.set_cons_succ])
        refine wpAnyH_take (i := 23) (oi := ({ dst := some 106, op := Op.pick (Operand.tmp 90) (Operand.const (Value.bool true)) (Operand.tmp 105), type := 4, pos := "law.go:97", after := #[{ on := 7, ground := Ground.data }, { on := 22, ground := Ground.data }, { on := 1, ground := Ground.guard }], guard := some (1, true) } : Oper)) (v := undef) rfl (by kernel_rfl) (by kernel_rfl) (by kernel_rfl) (fun _ _ _ h => h) (Or.inr ⟨by rfl, rfl⟩) (by assumption) ?_
        (try simp only [Act.put, List.setIfInBounds_toArray, List.set_cons_zero, List.set_cons_succ])
        refine wpAnyH_take (i := 24) (oi := ({ dst := some 107, op := Op.pick (Operand.tmp 84) (Operand.tmp 106) (Operand.const (Value.bool false)), type := 4, pos := "law.go:97", after := #[{ on := 1, ground := Ground.data }, { on := 23, ground := Ground.data }], guard := none } : Oper)) (v := ?_) rfl (by kernel_rfl) (by kernel_rfl) (by kernel_rfl) (fun _ _ _ h => h) (Or.inl ⟨by rfl, ?_⟩) (by assumption) ?_
        rotate_left
        · intro w hSw; (try dsimp only at hSw); go_simp <;> with_reducible rfl
        (try simp only [Act.put, List.setIfInBounds_toArray, List.set_cons_zero, List.set_cons_succ])
        refine wpAnyH_done (by kernel_rfl) ?_ _
        have R14 := hid hsd
        have b9 := B8.out.trans (hsd.mono B8.out.size)
        have x9 := (b9.block _ (Array.getElem?_eq_some_iff.1 HX5.out).1).trans HX5.out
        have X0 := blk_cell x9 (j := 0) (v := .int .u64 (xf.toNat : Int)) rfl
        have X1 := blk_cell x9 (j := 1) (v := .slice xa ql xc) rfl
        have B9 := hid b9
        have V9 := hid (V5.out.below b9)
        clear hHeld D0 D1 D2 D3 x9 b9
        go_wp2_with fail
        clear X0 X1
        refine (check_at (rootB l) xf N kk E XP ql xa xc HXL.out HE.out V9 (Below.refl _ _)).mono ?_
        rintro e W10 ⟨rfl, b10⟩
        have BE := hid (B5.out.trans ((below_step B9.out b10).mono B5.out.size))
        go_wp2_with fail
        go_ret
        exact ⟨rfl, BE.out⟩
      | some z =>
        obtain ⟨za, zb⟩ := z
        have HC := hid hr
        obtain ⟨hz1, hz2⟩ := coll_hit hr
        simp only at hz1 hz2
        have HJ := hid (show joinB zb.1 zb.2 = joinB za.1 za.2 from hz2.symm)
        have tz : (((za.1.toNat : Int) == (zb.1.toNat : Int)) && ((za.2.toNat : Int) == (zb.2.toNat : Int))) = false := pair_ne hz1
        clear hz1 hz2
        clear hr hE he
        refine (CO.out (some (za, zb)) HC _ B6.out).mono ?_
        rintro e W7 ⟨rfl, b7⟩
        unfold collV
        go_wp2_with fail
        have h8 := World.alloc_heap_new W7 (.cells #[.int .u64 (za.1.toNat : Int), .int .u64 (za.2.toNat : Int), .int .u64 (zb.1.toNat : Int), .int .u64 (zb.2.toNat : Int)] 37)
        have b8 := below_a (B6.out.trans (b7.mono B6.out.size)) (.cells #[.int .u64 (za.1.toNat : Int), .int .u64 (za.2.toNat : Int), .int .u64 (zb.1.toNat : Int), .int .u64 (zb.2.toNat : Int)] 37)
        obtain ⟨W8, hW8⟩ : ∃ W8, W7.alloc (.cells #[.int .u64 (za.1.toNat : Int), .int .u64 (za.2.toNat : Int), .int .u64 (zb.1.toNat : Int), .int .u64 (zb.2.toNat : Int)] 37) = W8 := ⟨_, rfl⟩
        rw [hW8] at h8 b8 ⊢
        clear hW8
        have B8 := hid b8
        have D0 := blk_cell h8 (j := 0) (v := .int .u64 (za.1.toNat : Int)) rfl
        have D1 := blk_cell h8 (j := 1) (v := .int .u64 (za.2.toNat : Int)) rfl
        have D2 := blk_cell h8 (j := 2) (v := .int .u64 (zb.1.toNat : Int)) rfl
        have D3 := blk_cell h8 (j := 3) (v := .int .u64 (zb.2.toNat : Int)) rfl
        clear h8 b8 b7
        have hsd := (Below.refl W8.heap.size W8).drew
        refine wp_region_held_drew (S := fun W' => (W'.cell? ⟨W7.heap.size, 0, none⟩ = some (.int .u64 (za.1.toNat : Int)) ∧ W'.cell? ⟨W7.heap.size, 1, none⟩ = some (.int .u64 (za.2.toNat : Int)) ∧ W'.cell? ⟨W7.heap.size, 2, none⟩ = some (.int .u64 (zb.1.toNat : Int)) ∧ W'.cell? ⟨W7.heap.size, 3, none⟩ = some (.int .u64 (zb.2.toNat : Int)) ∧ Below W8.heap.size W8 W')) (by kernel_rfl) ?_ (fun hHeld => ?_)
        · exact ⟨D0, D1, D2, D3, hsd⟩
        refine wpAnyH_take (i := 0) (oi := ({ dst := some 83, op := Op.move (Operand.tmp 14), type := 4, pos := "law.go:97", after := #[], guard := none } : Oper)) (v := ?_) rfl (by kernel_rfl) (by kernel_rfl) (by kernel_rfl) (fun _ _ _ h => h) (Or.inl ⟨by rfl, ?_⟩) (by assumption) ?_
        rotate_left
        · intro w hSw; (try dsimp only at hSw); go_simp <;> with_reducible rfl
        (try simp only [Act.put, List.setIfInBounds_toArray, List.set_cons_zero, List.set_cons_succ])
        refine wpAnyH_take (i := 1) (oi := ({ dst := some 84, op := Op.move (Operand.tmp 83), type := 4, pos := "law.go:97", after := #[{ on := 0, ground := Ground.data }], guard := none } : Oper)) (v := ?_) rfl (by kernel_rfl) (by kernel_rfl) (by kernel_rfl) (fun _ _ _ h => h) (Or.inl ⟨by rfl, ?_⟩) (by assumption) ?_
        rotate_left
        · intro w hSw; (try dsimp only at hSw); go_simp <;> with_reducible rfl
        (try simp only [Act.put, List.setIfInBounds_toArray, List.set_cons_zero, List.set_cons_succ])
        refine wpAnyH_take (i := 2) (oi := ({ dst := some 85, op := Op.indexAddr 37 (Operand.tmp 13) (Operand.const (Value.int IntKind.i64 0)), type := 0, pos := "law.go:97", after := #[{ on := 1, ground := Ground.guard }], guard := some (1, true) } : Oper)) (v := ?_) rfl (by kernel_rfl) (by kernel_rfl) (by kernel_rfl) (fun _ _ _ h => h) (Or.inl ⟨by rfl, ?_⟩) (by assumption) ?_
        rotate_left
        · intro w hSw; (try dsimp only at hSw); go_simp <;> with_reducible rfl
        (try simp only [Act.put, List.setIfInBounds_toArray, List.set_cons_zero, List.set_cons_succ])
        refine wpAnyH_take (i := 3) (oi := ({ dst := some 86, op := Op.load 36 (Operand.tmp 85), type := 36, pos := "law.go:97", after := #[{ on := 2, ground := Ground.data }, { on := 1, ground := Ground.guard }], guard := some (1, true) } : Oper)) (v := ?_) rfl (by kernel_rfl) (by kernel_rfl) (by kernel_rfl) (fun _ _ _ h => h) (Or.inl ⟨by rfl, ?_⟩) (by assumption) ?_
        rotate_left
        · intro w hSw; (try dsimp only at hSw); go_simp <;> with_reducible rfl
        (try simp only [Act.put, List.setIfInBounds_toArray, List.set_cons_zero, List.set_cons_succ])
        refine wpAnyH_take (i := 4) (oi := ({ dst := some 87, op := Op.indexAddr 37 (Operand.tmp 13) (Operand.const (Value.int IntKind.i64 1)), type := 0, pos := "law.go:97", after := #[{ on := 1, ground := Ground.guard }], guard := some (1, true) } : Oper)) (v := ?_) rfl (by kernel_rfl) (by kernel_rfl) (by kernel_rfl) (fun _ _ _ h => h) (Or.inl ⟨by rfl, ?_⟩) (by assumption) ?_
        rotate_left
        · intro w hSw; (try dsimp only at hSw); go_simp <;> with_reducible rfl
        (try simp only [Act.put, List.setIfInBounds_toArray, List.set_cons_zero, List.set_cons_succ])
        refine wpAnyH_take (i := 5) (oi := ({ dst := some 88, op := Op.load 36 (Operand.tmp 87), type := 36, pos := "law.go:97", after := #[{ on := 4, ground := Ground.data }, { on := 1, ground := Ground.guard }], guard := some (1, true) } : Oper)) (v := ?_) rfl (by kernel_rfl) (by kernel_rfl) (by kernel_rfl) (fun _ _ _ h => h) (Or.inl ⟨by rfl, ?_⟩) (by assumption) ?_
        rotate_left
        · intro w hSw; (try dsimp only at hSw); go_simp <;> with_reducible rfl
        (try simp only [Act.put, List.setIfInBounds_toArray, List.set_cons_zero, List.set_cons_succ])
        refine wpAnyH_take (i := 6) (oi := ({ dst := some 89, op := Op.binOp BinOp.eql 36 (Operand.tmp 86) (Operand.tmp 88) 36, type := 4, pos := "law.go:97", after := #[{ on := 3, ground := Ground.data }, { on := 5, ground := Ground.data }, { on := 1, ground := Ground.guard }], guard := some (1, true) } : Oper)) (v := ?_) rfl (by kernel_rfl) (by kernel_rfl) (by kernel_rfl) (fun _ _ _ h => h) (Or.inl ⟨by rfl, ?_⟩) (by assumption) ?_
        rotate_left
        · intro w hSw; (try dsimp only at hSw); go_simp <;> with_reducible rfl
        (try simp only [Act.put, List.setIfInBounds_toArray, List.set_cons_zero, List.set_cons_succ])
        refine wpAnyH_take (i := 7) (oi := ({ dst := some 90, op := Op.move (Operand.tmp 89), type := 4, pos := "law.go:97", after := #[{ on := 6, ground := Ground.data }, { on := 1, ground := Ground.chain }, { on := 1, ground := Ground.guard }], guard := some (1, true) } : Oper)) (v := ?_) rfl (by kernel_rfl) (by kernel_rfl) (by kernel_rfl) (fun _ _ _ h => h) (Or.inl ⟨by rfl, ?_⟩) (by assumption) ?_
        rotate_left
        · intro w hSw; (try dsimp only at hSw); go_simp <;> with_reducible rfl
        (try simp only [Act.put, List.setIfInBounds_toArray, List.set_cons_zero, List.set_cons_succ])
        refine wpAnyH_take (i := 8) (oi := ({ dst := some 91, op := Op.indexAddr 37 (Operand.tmp 13) (Operand.const (Value.int IntKind.i64 0)), type := 0, pos := "law.go:97", after := #[{ on := 7, ground := Ground.guard }], guard := some (7, false) } : Oper)) (v := ?_) rfl (by kernel_rfl) (by kernel_rfl) (by kernel_rfl) (fun _ _ _ h => h) (Or.inl ⟨by rfl, ?_⟩) (by assumption) ?_
        rotate_left
        · intro w hSw; (try dsimp only at hSw); go_simp <;> with_reducible rfl
        (try simp only [Act.put, List.setIfInBounds_toArray, List.set_cons_zero, List.set_cons_succ])
        refine wpAnyH_take (i := 9) (oi := ({ dst := some 92, op := Op.indexAddr 36 (Operand.tmp 91) (Operand.const (Value.int IntKind.i64 0)), type := 0, pos := "law.go:97", after := #[{ on := 8, ground := Ground.data }, { on := 7, ground := Ground.guard }], guard := some (7, false) } : Oper)) (v := ?_) rfl (by kernel_rfl) (by kernel_rfl) (by kernel_rfl) (fun _ _ _ h => h) (Or.inl ⟨by rfl, ?_⟩) (by assumption) ?_
        rotate_left
        · intro w hSw; (try dsimp only at hSw); go_simp <;> with_reducible rfl
        (try simp only [Act.put, List.setIfInBounds_toArray, List.set_cons_zero, List.set_cons_succ])
        refine wpAnyH_take (i := 10) (oi := ({ dst := some 93, op := Op.load 23 (Operand.tmp 92), type := 23, pos := "law.go:97", after := #[{ on := 9, ground := Ground.data }, { on := 7, ground := Ground.guard }], guard := some (7, false) } : Oper)) (v := ?_) rfl (by kernel_rfl) (by kernel_rfl) (by kernel_rfl) (fun _ _ _ h => h) (Or.inl ⟨by rfl, ?_⟩) (by assumption) ?_
        rotate_left
        · intro w hSw; (try dsimp only at hSw); go_simp <;> with_reducible rfl
        (try simp only [Act.put, List.setIfInBounds_toArray, List.set_cons_zero, List.set_cons_succ])
        refine wpAnyH_take (i := 11) (oi := ({ dst := some 94, op := Op.indexAddr 37 (Operand.tmp 13) (Operand.const (Value.int IntKind.i64 0)), type := 0, pos := "law.go:97", after := #[{ on := 7, ground := Ground.guard }], guard := some (7, false) } : Oper)) (v := ?_) rfl (by kernel_rfl) (by kernel_rfl) (by kernel_rfl) (fun _ _ _ h => h) (Or.inl ⟨by rfl, ?_⟩) (by assumption) ?_
        rotate_left
        · intro w hSw; (try dsimp only at hSw); go_simp <;> with_reducible rfl
        (try simp only [Act.put, List.setIfInBounds_toArray, List.set_cons_zero, List.set_cons_succ])
        refine wpAnyH_take (i := 12) (oi := ({ dst := some 95, op := Op.indexAddr 36 (Operand.tmp 94) (Operand.const (Value.int IntKind.i64 1)), type := 0, pos := "law.go:97", after := #[{ on := 11, ground := Ground.data }, { on := 7, ground := Ground.guard }], guard := some (7, false) } : Oper)) (v := ?_) rfl (by kernel_rfl) (by kernel_rfl) (by kernel_rfl) (fun _ _ _ h => h) (Or.inl ⟨by rfl, ?_⟩) (by assumption) ?_
        rotate_left
        · intro w hSw; (try dsimp only at hSw); go_simp <;> with_reducible rfl
        (try simp only [Act.put, List.setIfInBounds_toArray, List.set_cons_zero, List.set_cons_succ])
        refine wpAnyH_take (i := 13) (oi := ({ dst := some 96, op := Op.load 23 (Operand.tmp 95), type := 23, pos := "law.go:97", after := #[{ on := 12, ground := Ground.data }, { on := 7, ground := Ground.guard }], guard := some (7, false) } : Oper)) (v := ?_) rfl (by kernel_rfl) (by kernel_rfl) (by kernel_rfl) (fun _ _ _ h => h) (Or.inl ⟨by rfl, ?_⟩) (by assumption) ?_
        rotate_left
        · intro w hSw; (try dsimp only at hSw); go_simp <;> with_reducible rfl
        (try simp only [Act.put, List.setIfInBounds_toArray, List.set_cons_zero, List.set_cons_succ])
        refine wpAnyH_take (i := 15) (oi := ({ dst := some 98, op := Op.indexAddr 37 (Operand.tmp 13) (Operand.const (Value.int IntKind.i64 1)), type := 0, pos := "law.go:97", after := #[{ on := 7, ground := Ground.guard }], guard := some (7, false) } : Oper)) (v := ?_) rfl (by kernel_rfl) (by kernel_rfl) (by kernel_rfl) (fun _ _ _ h => h) (Or.inl ⟨by rfl, ?_⟩) (by assumption) ?_
        rotate_left
        · intro w hSw; (try dsimp only at hSw); go_simp <;> with_reducible rfl
        (try simp only [Act.put, List.setIfInBounds_toArray, List.set_cons_zero, List.set_cons_succ])
        refine wpAnyH_take (i := 16) (oi := ({ dst := some 99, op := Op.indexAddr 36 (Operand.tmp 98) (Operand.const (Value.int IntKind.i64 0)), type := 0, pos := "law.go:97", after := #[{ on := 15, ground := Ground.data }, { on := 7, ground := Ground.guard }], guard := some (7, false) } : Oper)) (v := ?_) rfl (by kernel_rfl) (by kernel_rfl) (by kernel_rfl) (fun _ _ _ h => h) (Or.inl ⟨by rfl, ?_⟩) (by assumption) ?_
        rotate_left
        · intro w hSw; (try dsimp only at hSw); go_simp <;> with_reducible rfl
        (try simp only [Act.put, List.setIfInBounds_toArray, List.set_cons_zero, List.set_cons_succ])
        refine wpAnyH_take (i := 17) (oi := ({ dst := some 100, op := Op.load 23 (Operand.tmp 99), type := 23, pos := "law.go:97", after := #[{ on := 16, ground := Ground.data }, { on := 7, ground := Ground.guard }], guard := some (7, false) } : Oper)) (v := ?_) rfl (by kernel_rfl) (by kernel_rfl) (by kernel_rfl) (fun _ _ _ h => h) (Or.inl ⟨by rfl, ?_⟩) (by assumption) ?_
        rotate_left
        · intro w hSw; (try dsimp only at hSw); go_simp <;> with_reducible rfl
        (try simp only [Act.put, List.setIfInBounds_toArray, List.set_cons_zero, List.set_cons_succ])
        refine wpAnyH_take (i := 18) (oi := ({ dst := some 101, op := Op.indexAddr 37 (Operand.tmp 13) (Operand.const (Value.int IntKind.i64 1)), type := 0, pos := "law.go:97", after := #[{ on := 7, ground := Ground.guard }], guard := some (7, false) } : Oper)) (v := ?_) rfl (by kernel_rfl) (by kernel_rfl) (by kernel_rfl) (fun _ _ _ h => h) (Or.inl ⟨by rfl, ?_⟩) (by assumption) ?_
        rotate_left
        · intro w hSw; (try dsimp only at hSw); go_simp <;> with_reducible rfl
        (try simp only [Act.put, List.setIfInBounds_toArray, List.set_cons_zero, List.set_cons_succ])
        refine wpAnyH_take (i := 19) (oi := ({ dst := some 102, op := Op.indexAddr 36 (Operand.tmp 101) (Operand.const (Value.int IntKind.i64 1)), type := 0, pos := "law.go:97", after := #[{ on := 18, ground := Ground.data }, { on := 7, ground := Ground.guard }], guard := some (7, false) } : Oper)) (v := ?_) rfl (by kernel_rfl) (by kernel_rfl) (by kernel_rfl) (fun _ _ _ h => h) (Or.inl ⟨by rfl, ?_⟩) (by assumption) ?_
        rotate_left
        · intro w hSw; (try dsimp only at hSw); go_simp <;> with_reducible rfl
        (try simp only [Act.put, List.setIfInBounds_toArray, List.set_cons_zero, List.set_cons_succ])
        refine wpAnyH_take (i := 20) (oi := ({ dst := some 103, op := Op.load 23 (Operand.tmp 102), type := 23, pos := "law.go:97", after := #[{ on := 19, ground := Ground.data }, { on := 7, ground := Ground.guard }], guard := some (7, false) } : Oper)) (v := ?_) rfl (by kernel_rfl) (by kernel_rfl) (by kernel_rfl) (fun _ _ _ h => h) (Or.inl ⟨by rfl, ?_⟩) (by assumption) ?_
        rotate_left
        · intro w hSw; (try dsimp only at hSw); go_simp <;> with_reducible rfl
        (try simp only [Act.put, List.setIfInBounds_toArray, List.set_cons_zero, List.set_cons_succ])
        refine wpAnyH_ready (rs := [14]) (by kernel_rfl) (by simp) ?_
        refine AllReadyH.cons (o := ({ dst := some 97, op := Op.call { callee := Callee.value (Operand.func 20), args := #[Operand.tmp 93, Operand.tmp 96], argTypes := #[23, 23] }, type := 23, pos := "law.go:97", after := #[{ on := 10, ground := Ground.data }, { on := 13, ground := Ground.data }, { on := 7, ground := Ground.chain }, { on := 7, ground := Ground.guard }], guard := some (7, false) } : Oper)) rfl (fun K hK => ?_) ?_
        rotate_left
        · exact AllReadyH.nil
        go_simp
        go_at_call 20
        with_reducible refine (j_b za.1 za.2 _ rfl rfl rfl _).mono ?_
        rintro e y0 ⟨rfl, hq0⟩
        have hB0 := below_step hsd hq0
        clear hHeld
        first | (with_reducible refine hK.out _ _ ?_ (fun hHeld => ?_)) | (go_wp2_with fail; with_reducible refine hK.out _ _ ?_ (fun hHeld => ?_))
        · exact ⟨cell_below hB0 D0, cell_below hB0 D1, cell_below hB0 D2, cell_below hB0 D3, hB0⟩
        clear hK K
        (try simp only [Act.put, List.setIfInBounds_toArray, List.set_cons_zero, List.set_cons_succ])
        refine wpAnyH_ready (rs := [21]) (by kernel_rfl) (by simp) ?_
        refine AllReadyH.cons (o := ({ dst := some 104, op := Op.call { callee := Callee.value (Operand.func 20), args := #[Operand.tmp 100, Operand.tmp 103], argTypes := #[23, 23] }, type := 23, pos := "law.go:97", after := #[{ on := 17, ground := Ground.data }, { on := 20, ground := Ground.data }, { on := 14, ground := Ground.chain }, { on := 7, ground := Ground.guard }], guard := some (7, false) } : Oper)) rfl (fun K hK => ?_) ?_
        rotate_left
        · exact AllReadyH.nil
        go_simp
        go_at_call 20
        with_reducible refine (j_b zb.1 zb.2 _ HJ.out rfl rfl _).mono ?_
        rintro e y1 ⟨rfl, hq1⟩
        have hB1 := below_step hB0 hq1
        clear hHeld
        first | (with_reducible refine hK.out _ _ ?_ (fun hHeld => ?_)) | (go_wp2_with fail; with_reducible refine hK.out _ _ ?_ (fun hHeld => ?_))
        · exact ⟨cell_below hB1 D0, cell_below hB1 D1, cell_below hB1 D2, cell_below hB1 D3, hB1⟩
        clear hK K
        (try simp only [Act.put, List.setIfInBounds_toArray, List.set_cons_zero, List.set_cons_succ])
        refine wpAnyH_take (i := 22) (oi := ({ dst := some 105, op := Op.binOp BinOp.neq 23 (Operand.tmp 97) (Operand.tmp 104) 23, type := 4, pos := "law.go:97", after := #[{ on := 14, ground := Ground.data }, { on := 21, ground := Ground.data }, { on := 7, ground := Ground.guard }], guard := some (7, false) } : Oper)) (v := ?_) rfl (by kernel_rfl) (by kernel_rfl) (by kernel_rfl) (fun _ _ _ h => h) (Or.inl ⟨by rfl, ?_⟩) (by assumption) ?_
        rotate_left
        · intro w hSw; (try dsimp only at hSw); go_simp <;> with_reducible rfl
        (try simp only [Act.put, List.setIfInBounds_toArray, List.set_cons_zero, List.set_cons_succ])
        refine wpAnyH_take (i := 23) (oi := ({ dst := some 106, op := Op.pick (Operand.tmp 90) (Operand.const (Value.bool true)) (Operand.tmp 105), type := 4, pos := "law.go:97", after := #[{ on := 7, ground := Ground.data }, { on := 22, ground := Ground.data }, { on := 1, ground := Ground.guard }], guard := some (1, true) } : Oper)) (v := ?_) rfl (by kernel_rfl) (by kernel_rfl) (by kernel_rfl) (fun _ _ _ h => h) (Or.inl ⟨by rfl, ?_⟩) (by assumption) ?_
        rotate_left
        · intro w hSw; (try dsimp only at hSw); go_simp <;> with_reducible rfl
        (try simp only [Act.put, List.setIfInBounds_toArray, List.set_cons_zero, List.set_cons_succ])
        refine wpAnyH_take (i := 24) (oi := ({ dst := some 107, op := Op.pick (Operand.tmp 84) (Operand.tmp 106) (Operand.const (Value.bool false)), type := 4, pos := "law.go:97", after := #[{ on := 1, ground := Ground.data }, { on := 23, ground := Ground.data }], guard := none } : Oper)) (v := ?_) rfl (by kernel_rfl) (by kernel_rfl) (by kernel_rfl) (fun _ _ _ h => h) (Or.inl ⟨by rfl, ?_⟩) (by assumption) ?_
        rotate_left
        · intro w hSw; (try dsimp only at hSw); go_simp <;> with_reducible rfl
        (try simp only [Act.put, List.setIfInBounds_toArray, List.set_cons_zero, List.set_cons_succ])
        refine wpAnyH_done (by kernel_rfl) ?_ _
        have R14 := hid hB1
        have b9 := B8.out.trans (hB1.mono B8.out.size)
        have x9 := (b9.block _ (Array.getElem?_eq_some_iff.1 HX5.out).1).trans HX5.out
        have X0 := blk_cell x9 (j := 0) (v := .int .u64 (xf.toNat : Int)) rfl
        have X1 := blk_cell x9 (j := 1) (v := .slice xa ql xc) rfl
        have B9 := hid b9
        have V9 := hid (V5.out.below b9)
        clear hHeld D0 D1 D2 D3 x9 b9
        go_wp2_with fail
        clear X0 X1
        refine (check_at (rootB l) xf N kk E XP ql xa xc HXL.out HE.out V9 (Below.refl _ _)).mono ?_
        rintro e W10 ⟨rfl, b10⟩
        have BE := hid (B5.out.trans ((below_step B9.out b10).mono B5.out.size))
        go_wp2_with fail
        go_ret
        exact ⟨rfl, BE.out⟩



theorem open_u64t {H : Type} {enc : TypeId × Value → H} {w : World} {n : Nat} {v : Value} {x : DataW H × List MemPlace} (hn : DataW.trod enc Try.prog w 0 (fun _ => true) true n 22 [v] = some x) :
    ∃ l : List (BitVec 64), U64Big w v l := by
  have c1 : Try.prog.cellsOf 23 = 1 := by kernel_rfl
  rcases open_ints Try.underlying22 Try.underlying23 c1 hn with ⟨hcs, hx⟩ | ⟨ad, len, cap, zs, hcs, -, hl, hm, hz, hx, hcell, hwz⟩
  · simp only [List.cons.injEq, and_true] at hcs
    subst hcs
    exact ⟨[], none, 0, rfl, Nat.le_refl _, by omega, fun _ => rfl, fun h0 => absurd rfl h0⟩
  · simp only [List.cons.injEq, and_true] at hcs
    subst hcs
    simp at hz
    have hlen : ((zs.take len).map fun z => BitVec.ofNat 64 z.toNat).length = len := by rw [List.length_map, List.length_take, Nat.min_eq_left (by omega)]
    have hm' : cap ≤ 9223372036854775807 := by unfold maxLen at hm; omega
    refine ⟨(zs.take len).map fun z => BitVec.ofNat 64 z.toNat, some ad, cap, by rw [hlen], by rw [hlen]; omega, hm', (fun h => by cases h), fun h0 => ?_⟩
    rw [hlen] at h0
    have h00 := hcell 0 (by omega)
    have hadd : ad.add 0 = ad := by simp [Addr.add]
    rw [hadd] at h00
    obtain ⟨b, o, rfl⟩ := addr_plain h00
    refine ⟨b, o, rfl, fun i hi => ?_⟩
    rw [hlen] at hi
    have h1 := hcell i (by omega)
    have e1 : (⟨b, o, none⟩ : Addr).add i = ⟨b, o + i, none⟩ := by first | (simp [Addr.add]; done) | (simp [Addr.add]; omega)
    rw [e1] at h1
    rw [h1]
    have hz2 := hwz (zs[i]'(by omega)) (List.getElem_mem _)
    have h2 : IntKind.u64.min ≤ zs[i]'(by omega) ∧ zs[i]'(by omega) ≤ IntKind.u64.max := by simpa [Lit.wf] using hz2
    have h3 : 0 ≤ zs[i]'(by omega) ∧ zs[i]'(by omega) ≤ 18446744073709551615 := h2
    simp [List.getD, List.getElem?_eq_getElem (show i < zs.length by omega)]
    omega
theorem open_opening {H : Type} {enc : TypeId × Value → H} {w : World} {v : Value} {r : Reach} {b : Nat} {d : DataW H} {p : List MemPlace} (hv : Value.okWide Try.prog w r b 25 v) (h : DataW.Trod enc Try.prog w 0 (fun _ => true) true 25 v d p) :
    ∃ (xf : BitVec 64) (u : Value) (l : List (BitVec 64)), v = .agg #[.int .u64 (xf.toNat : Int), u] ∧ U64Big w u l := by
  obtain ⟨⟨cs⟩, rfl, -⟩ := okWide_struct Try.underlying25 hv
  obtain ⟨n, hn⟩ := h
  obtain ⟨xs, m, hm, hx, hlen, hxl, hf⟩ := DataW.trod_struct Try.underlying25 (show DataW.trod enc Try.prog w 0 (fun _ => true) true n 25 cs = some _ from hn)
  have hlen2 : cs.length = 2 := hlen.trans (by kernel_rfl)
  have c1 : Try.prog.cellsOf 23 = 1 := by kernel_rfl
  have c2 : Try.prog.cellsOf 22 = 1 := by kernel_rfl
  match cs, hlen2 with
  | [x0, x1], _ =>
    have h0 : DataW.trod enc Try.prog w 0 (fun _ => true) true m 23 [x0] = xs[0]? := by have := hf 0 _ rfl; simpa [c1] using this
    have h1 : DataW.trod enc Try.prog w 0 (fun _ => true) true m 22 [x1] = xs[1]? := by have := hf 1 _ rfl; simpa [c2] using this
    have hxl2 : xs.length = 2 := hxl
    rw [List.getElem?_eq_getElem (show 0 < xs.length by omega)] at h0
    rw [List.getElem?_eq_getElem (show 1 < xs.length by omega)] at h1
    obtain ⟨z, e1, -, w1⟩ := DataW.trod_int Try.underlying23 h0
    cases e1
    obtain ⟨xf, rfl⟩ := bdU w1
    obtain ⟨l, hl⟩ := open_u64t h1
    exact ⟨xf, x1, l, rfl, hl⟩
theorem binds_any (l XP : List (BitVec 64)) (v u : Value) (i : Nat) (xf : BitVec 64) (W : World) (hi : i ≤ 255) (hv : U64Big W v l) (hu : U64Big W u XP) :
    Calls Try.prog 5 #[v, .int .u8 (i : Int), .agg #[.int .u64 (xf.toNat : Int), u]] W fun e w' => e = .returned (.bool true) ∧ Below W.heap.size W w' := by
  have h := hv
  have g := hu
  obtain ⟨p, c, rfl, -⟩ := h
  obtain ⟨xa, xc, rfl, -⟩ := g
  by_cases h1 : l.length = 0
  · exact binds_nil p xa _ i c _ xc xf W h1
  by_cases h2 : 40 < l.length
  · exact binds_long p xa _ i c _ xc xf W h1 h2
  by_cases h3 : 40 < XP.length
  · exact binds_path p xa _ i c _ xc xf W h1 (by omega) h3
  exact binds_walk l XP p xa l.length i c XP.length xc xf W (hv.at_ (by omega)) rfl (by omega) (by omega) (hu.at_ (by omega)) rfl (by omega) hi

theorem merkleBinds_contract (H : Type) (enc : TypeId × Value → H) (W : World) (base : Nat) (args : Array Value) (ds gs : List (DataW H)) (before : List MemPlace)
    (hval : ∀ (j : Nat) t v, Try.f5.params[j]? = some t → args[j]? = some v → Value.okWide Try.prog W .any base t v)
    (hW : DataW.Whole enc Try.prog Try.f5.params.toList Rows.merkleBindsSpec.vars false W args.toList ds gs before) :
    Calls Try.prog 5 args W fun e W' => ∃ v, e = .returned v ∧ Rows.merkleBindsSpec.post enc Try.prog Try.f5 false true false false W args v W' := by
  have hW' := hW
  obtain ⟨p, q, hA0, hV, rfl, hfz, hnd⟩ := hW
  have hA : DataW.TrodAll enc Try.prog W 0 (fun _ => true) true Try.f5.params.toList args.toList ds p := hA0
  rw [Try.params5] at hA hval
  obtain ⟨v0, vs0, d0, ds0, p0, q0, hargs, rfl, rfl, h0, r0⟩ := trodAll_cons hA
  obtain ⟨v1, vs1, d1, ds1, p1, q1, rfl, rfl, rfl, h1, r1⟩ := trodAll_cons r0
  obtain ⟨v2, vs2, d2, ds2, p2, q2, rfl, rfl, rfl, h2, r2⟩ := trodAll_cons r1
  obtain ⟨rfl, rfl, rfl⟩ := trodAll_nil r2
  obtain rfl : args = #[v0, v1, v2] := by cases args; simp_all
  obtain ⟨rfl, rfl⟩ := trodVars_none hV
  obtain ⟨t0, in0⟩ := open_u64l (hval 0 _ v0 rfl rfl) h0
  obtain ⟨z1, rfl, rfl, rfl, wf1⟩ := open_int Try.underlying5 (hval 1 5 v1 rfl rfl) h1
  obtain ⟨t1, rfl, h8_1⟩ := bd8 wf1
  obtain ⟨x2, u2, l2, rfl, in2⟩ := open_opening (hval 2 _ v2 rfl rfl) h2
  refine (binds_any t0 l2 v0 u2 t1 x2 W h8_1 in0 in2).mono fun e W' ⟨he, hg⟩ => ?_
  subst he
  exact ⟨_, rfl, post_true (T := 4) (by kernel_rfl) (by kernel_rfl) rfl rfl (by kernel_rfl) hW' hg rfl⟩

set_option maxRecDepth 100000 in
theorem merkleBinds_lifted (os : Os) (started : os.Started) (H : Type) (enc : TypeId × Value → H) :
    ReturnsInHanded {} Try.checked os 5 .any (Rows.merkleBindsSpec.pre6 enc Try.prog Try.f5 Rows.merkleBindsRow.domain false) (Rows.merkleBindsSpec.post enc Try.prog Try.f5 false true false false) := by
  refine returnsInHanded_of_change (C := Try.checked) own started (by kernel_rfl) Try.func5
    (ChangeSpec.witness6 (enc := enc) (C := Try.checked) false ⟨#[], #[.slice none 0 0, .int .u8 0, .agg #[.int .u64 0, .slice none 0 0]], []⟩ 8 (by kernel_rfl) (by kernel_rfl) (by kernel_rfl) (by kernel_rfl)) ?_
  intro W base args ds gs before hval hW _ _
  exact merkleBinds_contract H enc W base args ds gs before hval hW

theorem merkleBinds_holds : Rows.MerkleBindsSaid :=
  OpenClaim.holds_of_wide 5 Try.f5 rfl rfl rfl rfl rfl rfl rfl ⟨rfl, rfl, rfl, rfl, rfl⟩ rfl rfl rfl rfl rfl (by kernel_rfl) Try.func5 (by kernel_rfl)
    (of_decide_eq_true (by kernel_rfl)) (by unfold Func.isWrapper; rw [if_neg (of_decide_eq_false (by kernel_rfl))]; exact ⟨rfl, rfl⟩)
    (fun os started H enc _ => merkleBinds_lifted os started H enc)
end Go.Proofs.Ytagpinpelgkjcaa

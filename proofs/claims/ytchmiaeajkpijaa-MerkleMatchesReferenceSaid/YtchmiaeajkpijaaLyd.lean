import Derived.Test.YtchmiaeajkpijaaLyc
import Derived.Deep.Cut
namespace Go.Proofs.Ytchmiaeajkpijaa
open Go.RowKit Go.Instr
set_option linter.unusedVariables false

/-! The reference's 'Collide'. -/
def collR : Option (Pair × Pair) → Value
  | none => .agg #[.int .u64 0, .int .u64 0, .int .u64 0, .int .u64 0, .bool false]
  | some (a, b) => .agg #[.int .u64 (a.1.toNat : Int), .int .u64 (a.2.toNat : Int), .int .u64 (b.1.toNat : Int), .int .u64 (b.2.toNat : Int), .bool true]
def zeroR : Obj := .cells #[.int .u64 0, .int .u64 0, .int .u64 0, .int .u64 0, .bool false] 41
def collRW (w : World) (a b c d : Value) : World := ((w.alloc (.cells #[a, b] 25)).alloc (.cells #[c, d] 25)).alloc zeroR
theorem collRW_facts (w : World) (a b c d : Value) : (collRW w a b c d).heap.size = w.heap.size + 3 ∧ (collRW w a b c d).heap[w.heap.size]? = some (.cells #[a, b] 25 (0, 0)) ∧ (collRW w a b c d).heap[w.heap.size + 1]? = some (.cells #[c, d] 25 (0, 0)) ∧
    (collRW w a b c d).heap[w.heap.size + 1 + 1]? = some (.cells #[.int .u64 0, .int .u64 0, .int .u64 0, .int .u64 0, .bool false] 41 (0, 0)) ∧ Below w.heap.size w (collRW w a b c d) := by
  obtain ⟨h1, h2, h3, -⟩ := heap3 w (.cells #[a, b] 25) (.cells #[c, d] 25) zeroR
  exact ⟨by simp [collRW], h1, h2, h3, below_a (below_a (below_a (Below.refl _ _) _) _) _⟩
def set5R (V : World) (r : Nat) (a0 a1 a2 a3 a4 : Value) : World := ((((V.setCell ⟨r, 0, none⟩ a0).setCell ⟨r, 1, none⟩ a1).setCell ⟨r, 2, none⟩ a2).setCell ⟨r, 3, none⟩ a3).setCell ⟨r, 4, none⟩ a4
theorem set5R_facts {w V : World} {r : Nat} {x0 x1 x2 x3 x4 : Value} {t : TypeId} (a0 a1 a2 a3 a4 : Value) (h : V.heap[r]? = some (.cells #[x0, x1, x2, x3, x4] t (0, 0))) (hr : w.heap.size ≤ r) (hb : Below w.heap.size w V) :
    (set5R V r a0 a1 a2 a3 a4).heap[r]? = some (.cells #[a0, a1, a2, a3, a4] t (0, 0)) ∧ Below w.heap.size w (set5R V r a0 a1 a2 a3 a4) ∧ ∀ (g j : Nat) (v : Value), g ≠ r → V.cell? ⟨g, j, none⟩ = some v → (set5R V r a0 a1 a2 a3 a4).cell? ⟨g, j, none⟩ = some v := by
  refine ⟨blk_set (blk_set (blk_set (blk_set (blk_set h a0) a1) a2) a3) a4, ((((hb.setCell (p := ⟨r, 0, none⟩) hr a0).setCell (p := ⟨r, 1, none⟩) hr a1).setCell (p := ⟨r, 2, none⟩) hr a2).setCell (p := ⟨r, 3, none⟩) hr a3).setCell (p := ⟨r, 4, none⟩) hr a4, fun g j v hne hc => ?_⟩
  have hq : ∀ e : some g = some r, False := fun e => hne (Option.some.inj e)
  exact (grown_set _ r 4 a4).cell ((grown_set _ r 3 a3).cell ((grown_set _ r 2 a2).cell ((grown_set _ r 1 a1).cell ((grown_set _ r 0 a0).cell hc hq) hq) hq) hq) hq
attribute [local go_sem] equal_p2
theorem drew_cell (X : World) (a : Addr) : X.drew.cell? a = X.cell? a := rfl
theorem rjoin_b (a b : BitVec 64) (w : World) : Calls Try.prog 18 #[.int .u64 (a.toNat : Int), .int .u64 (b.toNat : Int)] w fun e w' => e = .returned (.int .u64 ((joinB a b).toNat : Int)) ∧ Below w.heap.size w w' := (rjoin_any a b w).mono fun e w' ⟨h1, h2⟩ => ⟨h1, h2 ▸ Below.refl _ _⟩

set_option maxRecDepth 100000 in
set_option maxHeartbeats 16000000 in
theorem rcoll_bad (n i : Int) (lp lq : BitVec 64) (E : Int) (he : placeE n i = E) (h0 : E ≠ 0) (a b : Nat) (pa qa : Option Addr) (pc qc : Nat) (w : World) :
    Calls Try.prog 13 #[.int .i64 n, .int .i64 i, .agg #[.int .u64 (lp.toNat : Int), .slice pa a pc], .agg #[.int .u64 (lq.toNat : Int), .slice qa b qc]] w fun e w' => e = .returned (collR none) ∧ Below w.heap.size w w' := by
  have PL := hid (fun W => he ▸ rplace_b n i W)
  have t1 : (E == 0) = false := by simpa using h0
  have t2 : (E != 0) = true := by simpa using h0
  clear he
  obtain ⟨W0, hW0⟩ : ∃ W0, collRW w (.int .u64 (lp.toNat : Int)) (.slice pa a pc) (.int .u64 (lq.toNat : Int)) (.slice qa b qc) = W0 := ⟨_, rfl⟩
  have hf := collRW_facts w (.int .u64 (lp.toNat : Int)) (.slice pa a pc) (.int .u64 (lq.toNat : Int)) (.slice qa b qc)
  rw [hW0] at hf
  obtain ⟨hz, H0, H1, H2, hb0⟩ := hf
  have B0 := hid hb0
  have HZ := hid hz
  have HR := hid H2
  have X0 := blk_cell H0 (j := 0) (v := .int .u64 (lp.toNat : Int)) rfl
  have X1 := blk_cell H0 (j := 1) (v := .slice pa a pc) rfl
  have X2 := blk_cell H1 (j := 0) (v := .int .u64 (lq.toNat : Int)) rfl
  have X3 := blk_cell H1 (j := 1) (v := .slice qa b qc) rfl
  clear hb0 hz H0 H1 H2
  go_enter Try.func13, Try.ntmps13
  go_upto_region 1 with fail
  rw [show ((w.alloc (.cells #[.int .u64 (lp.toNat : Int), .slice pa a pc] 25)).alloc (.cells #[.int .u64 (lq.toNat : Int), .slice qa b qc] 25)).alloc (.cells #[.int .u64 0, .int .u64 0, .int .u64 0, .int .u64 0, .bool false] 41) = W0 from hW0]
  clear hW0
  have hsd := (Below.refl W0.heap.size W0).drew
  refine wp_region_held_drew (S := fun W' => (W'.cell? ⟨w.heap.size, 0, none⟩ = some (.int .u64 (lp.toNat : Int)) ∧ W'.cell? ⟨w.heap.size, 1, none⟩ = some (.slice pa a pc) ∧ W'.cell? ⟨w.heap.size + 1, 0, none⟩ = some (.int .u64 (lq.toNat : Int)) ∧ W'.cell? ⟨w.heap.size + 1, 1, none⟩ = some (.slice qa b qc) ∧ Below W0.heap.size W0 W')) (by kernel_rfl) ?_ (fun hHeld => ?_)
  · exact ⟨X0, X1, X2, X3, hsd⟩
  refine wpAnyH_take (i := 0) (oi := ({ dst := some 12, op := Op.move (Operand.tmp 0), type := 3, pos := "ref.go:126", after := #[], guard := none } : Oper)) (v := ?_) rfl (by kernel_rfl) (by kernel_rfl) (by kernel_rfl) (fun _ _ _ h => h) (Or.inl ⟨by rfl, ?_⟩) (by assumption) ?_
  rotate_left
  · intro w hSw; (try dsimp only at hSw); go_simp <;> with_reducible rfl
  (try simp only [Act.put, List.setIfInBounds_toArray, List.set_cons_zero, List.set_cons_succ])
  refine wpAnyH_take (i := 1) (oi := ({ dst := some 13, op := Op.move (Operand.tmp 1), type := 3, pos := "ref.go:126", after := #[], guard := none } : Oper)) (v := ?_) rfl (by kernel_rfl) (by kernel_rfl) (by kernel_rfl) (fun _ _ _ h => h) (Or.inl ⟨by rfl, ?_⟩) (by assumption) ?_
  rotate_left
  · intro w hSw; (try dsimp only at hSw); go_simp <;> with_reducible rfl
  (try simp only [Act.put, List.setIfInBounds_toArray, List.set_cons_zero, List.set_cons_succ])
  refine wpAnyH_ready (rs := [2]) (by kernel_rfl) (by simp) ?_
  refine AllReadyH.cons (o := ({ dst := some 14, op := Op.call { callee := Callee.value (Operand.func 21), args := #[Operand.tmp 12, Operand.tmp 13], argTypes := #[3, 3] }, type := 30, pos := "ref.go:126", after := #[{ on := 0, ground := Ground.data }, { on := 1, ground := Ground.data }], guard := none } : Oper)) rfl (fun K hK => ?_) ?_
  rotate_left
  · exact AllReadyH.nil
  go_simp
  go_at_call 21
  with_reducible refine (PL.out _).mono ?_
  rintro e y0 ⟨rfl, hq0⟩
  have hB0 := below_step hsd hq0
  clear hHeld
  first | (with_reducible refine hK.out _ _ ?_ (fun hHeld => ?_)) | (go_wp2_with fail; with_reducible refine hK.out _ _ ?_ (fun hHeld => ?_))
  · exact ⟨cell_below hB0 X0, cell_below hB0 X1, cell_below hB0 X2, cell_below hB0 X3, hB0⟩
  clear hK K
  (try simp only [Act.put, List.setIfInBounds_toArray, List.set_cons_zero, List.set_cons_succ])
  refine wpAnyH_take (i := 3) (oi := ({ dst := some 15, op := Op.binOp BinOp.neq 30 (Operand.tmp 14) (Operand.const (Value.int IntKind.i64 0)) 30, type := 4, pos := "ref.go:126", after := #[{ on := 2, ground := Ground.data }], guard := none } : Oper)) (v := ?_) rfl (by kernel_rfl) (by kernel_rfl) (by kernel_rfl) (fun _ _ _ h => h) (Or.inl ⟨by rfl, ?_⟩) (by assumption) ?_
  rotate_left
  · intro w hSw; (try dsimp only at hSw); go_simp <;> with_reducible rfl
  (try simp only [Act.put, List.setIfInBounds_toArray, List.set_cons_zero, List.set_cons_succ])
  refine wpAnyH_take (i := 4) (oi := ({ dst := some 16, op := Op.move (Operand.tmp 15), type := 4, pos := "ref.go:126", after := #[{ on := 3, ground := Ground.data }, { on := 2, ground := Ground.chain }], guard := none } : Oper)) (v := ?_) rfl (by kernel_rfl) (by kernel_rfl) (by kernel_rfl) (fun _ _ _ h => h) (Or.inl ⟨by rfl, ?_⟩) (by assumption) ?_
  rotate_left
  · intro w hSw; (try dsimp only at hSw); go_simp <;> with_reducible rfl
  (try simp only [Act.put, List.setIfInBounds_toArray, List.set_cons_zero, List.set_cons_succ])
  refine wpAnyH_take (i := 5) (oi := ({ dst := some 17, op := Op.fieldAddr 25 (Operand.tmp 6) 1, type := 0, pos := "ref.go:126", after := #[{ on := 4, ground := Ground.guard }], guard := some (4, false) } : Oper)) (v := undef) rfl (by kernel_rfl) (by kernel_rfl) (by kernel_rfl) (fun _ _ _ h => h) (Or.inr ⟨by rfl, rfl⟩) (by assumption) ?_
  (try simp only [Act.put, List.setIfInBounds_toArray, List.set_cons_zero, List.set_cons_succ])
  refine wpAnyH_take (i := 6) (oi := ({ dst := some 18, op := Op.load 22 (Operand.tmp 17), type := 22, pos := "ref.go:126", after := #[{ on := 5, ground := Ground.data }, { on := 4, ground := Ground.guard }], guard := some (4, false) } : Oper)) (v := undef) rfl (by kernel_rfl) (by kernel_rfl) (by kernel_rfl) (fun _ _ _ h => h) (Or.inr ⟨by rfl, rfl⟩) (by assumption) ?_
  (try simp only [Act.put, List.setIfInBounds_toArray, List.set_cons_zero, List.set_cons_succ])
  refine wpAnyH_take (i := 7) (oi := ({ dst := some 19, op := Op.call { callee := Callee.builtin Builtin.len, args := #[Operand.tmp 18], argTypes := #[22] }, type := 3, pos := "ref.go:126", after := #[{ on := 6, ground := Ground.data }, { on := 4, ground := Ground.guard }], guard := some (4, false) } : Oper)) (v := undef) rfl (by kernel_rfl) (by kernel_rfl) (by kernel_rfl) (fun _ _ _ h => h) (Or.inr ⟨by rfl, rfl⟩) (by assumption) ?_
  (try simp only [Act.put, List.setIfInBounds_toArray, List.set_cons_zero, List.set_cons_succ])
  refine wpAnyH_take (i := 8) (oi := ({ dst := some 20, op := Op.move (Operand.tmp 0), type := 3, pos := "ref.go:126", after := #[{ on := 4, ground := Ground.guard }], guard := some (4, false) } : Oper)) (v := undef) rfl (by kernel_rfl) (by kernel_rfl) (by kernel_rfl) (fun _ _ _ h => h) (Or.inr ⟨by rfl, rfl⟩) (by assumption) ?_
  (try simp only [Act.put, List.setIfInBounds_toArray, List.set_cons_zero, List.set_cons_succ])
  refine wpAnyH_take (i := 9) (oi := ({ dst := some 21, op := Op.move (Operand.tmp 1), type := 3, pos := "ref.go:126", after := #[{ on := 4, ground := Ground.guard }], guard := some (4, false) } : Oper)) (v := undef) rfl (by kernel_rfl) (by kernel_rfl) (by kernel_rfl) (fun _ _ _ h => h) (Or.inr ⟨by rfl, rfl⟩) (by assumption) ?_
  (try simp only [Act.put, List.setIfInBounds_toArray, List.set_cons_zero, List.set_cons_succ])
  refine wpAnyH_take (i := 10) (oi := ({ dst := some 22, op := Op.call { callee := Callee.value (Operand.func 22), args := #[Operand.tmp 20, Operand.tmp 21], argTypes := #[3, 3] }, type := 50, pos := "ref.go:126", after := #[{ on := 8, ground := Ground.data }, { on := 9, ground := Ground.data }, { on := 4, ground := Ground.chain }, { on := 4, ground := Ground.guard }], guard := some (4, false) } : Oper)) (v := undef) rfl (by kernel_rfl) (by kernel_rfl) (by kernel_rfl) (fun _ _ _ h => h) (Or.inr ⟨by rfl, rfl⟩) (by assumption) ?_
  (try simp only [Act.put, List.setIfInBounds_toArray, List.set_cons_zero, List.set_cons_succ])
  refine wpAnyH_take (i := 11) (oi := ({ dst := some 23, op := Op.call { callee := Callee.builtin Builtin.len, args := #[Operand.tmp 22], argTypes := #[50] }, type := 3, pos := "ref.go:126", after := #[{ on := 10, ground := Ground.data }, { on := 4, ground := Ground.guard }], guard := some (4, false) } : Oper)) (v := undef) rfl (by kernel_rfl) (by kernel_rfl) (by kernel_rfl) (fun _ _ _ h => h) (Or.inr ⟨by rfl, rfl⟩) (by assumption) ?_
  (try simp only [Act.put, List.setIfInBounds_toArray, List.set_cons_zero, List.set_cons_succ])
  refine wpAnyH_take (i := 12) (oi := ({ dst := some 24, op := Op.binOp BinOp.neq 3 (Operand.tmp 19) (Operand.tmp 23) 3, type := 4, pos := "ref.go:126", after := #[{ on := 7, ground := Ground.data }, { on := 11, ground := Ground.data }, { on := 4, ground := Ground.guard }], guard := some (4, false) } : Oper)) (v := undef) rfl (by kernel_rfl) (by kernel_rfl) (by kernel_rfl) (fun _ _ _ h => h) (Or.inr ⟨by rfl, rfl⟩) (by assumption) ?_
  (try simp only [Act.put, List.setIfInBounds_toArray, List.set_cons_zero, List.set_cons_succ])
  refine wpAnyH_take (i := 13) (oi := ({ dst := some 25, op := Op.pick (Operand.tmp 16) (Operand.const (Value.bool true)) (Operand.tmp 24), type := 4, pos := "ref.go:126", after := #[{ on := 4, ground := Ground.data }, { on := 12, ground := Ground.data }], guard := none } : Oper)) (v := ?_) rfl (by kernel_rfl) (by kernel_rfl) (by kernel_rfl) (fun _ _ _ h => h) (Or.inl ⟨by rfl, ?_⟩) (by assumption) ?_
  rotate_left
  · intro w hSw; (try dsimp only at hSw); go_simp <;> with_reducible rfl
  (try simp only [Act.put, List.setIfInBounds_toArray, List.set_cons_zero, List.set_cons_succ])
  refine wpAnyH_take (i := 14) (oi := ({ dst := some 26, op := Op.move (Operand.tmp 25), type := 4, pos := "ref.go:126", after := #[{ on := 13, ground := Ground.data }, { on := 10, ground := Ground.chain }], guard := none } : Oper)) (v := ?_) rfl (by kernel_rfl) (by kernel_rfl) (by kernel_rfl) (fun _ _ _ h => h) (Or.inl ⟨by rfl, ?_⟩) (by assumption) ?_
  rotate_left
  · intro w hSw; (try dsimp only at hSw); go_simp <;> with_reducible rfl
  (try simp only [Act.put, List.setIfInBounds_toArray, List.set_cons_zero, List.set_cons_succ])
  refine wpAnyH_take (i := 15) (oi := ({ dst := some 27, op := Op.fieldAddr 25 (Operand.tmp 7) 1, type := 0, pos := "ref.go:126", after := #[{ on := 14, ground := Ground.guard }], guard := some (14, false) } : Oper)) (v := undef) rfl (by kernel_rfl) (by kernel_rfl) (by kernel_rfl) (fun _ _ _ h => h) (Or.inr ⟨by rfl, rfl⟩) (by assumption) ?_
  (try simp only [Act.put, List.setIfInBounds_toArray, List.set_cons_zero, List.set_cons_succ])
  refine wpAnyH_take (i := 16) (oi := ({ dst := some 28, op := Op.load 22 (Operand.tmp 27), type := 22, pos := "ref.go:126", after := #[{ on := 15, ground := Ground.data }, { on := 14, ground := Ground.guard }], guard := some (14, false) } : Oper)) (v := undef) rfl (by kernel_rfl) (by kernel_rfl) (by kernel_rfl) (fun _ _ _ h => h) (Or.inr ⟨by rfl, rfl⟩) (by assumption) ?_
  (try simp only [Act.put, List.setIfInBounds_toArray, List.set_cons_zero, List.set_cons_succ])
  refine wpAnyH_take (i := 17) (oi := ({ dst := some 29, op := Op.call { callee := Callee.builtin Builtin.len, args := #[Operand.tmp 28], argTypes := #[22] }, type := 3, pos := "ref.go:126", after := #[{ on := 16, ground := Ground.data }, { on := 14, ground := Ground.guard }], guard := some (14, false) } : Oper)) (v := undef) rfl (by kernel_rfl) (by kernel_rfl) (by kernel_rfl) (fun _ _ _ h => h) (Or.inr ⟨by rfl, rfl⟩) (by assumption) ?_
  (try simp only [Act.put, List.setIfInBounds_toArray, List.set_cons_zero, List.set_cons_succ])
  refine wpAnyH_take (i := 18) (oi := ({ dst := some 30, op := Op.fieldAddr 25 (Operand.tmp 6) 1, type := 0, pos := "ref.go:126", after := #[{ on := 14, ground := Ground.guard }], guard := some (14, false) } : Oper)) (v := undef) rfl (by kernel_rfl) (by kernel_rfl) (by kernel_rfl) (fun _ _ _ h => h) (Or.inr ⟨by rfl, rfl⟩) (by assumption) ?_
  (try simp only [Act.put, List.setIfInBounds_toArray, List.set_cons_zero, List.set_cons_succ])
  refine wpAnyH_take (i := 19) (oi := ({ dst := some 31, op := Op.load 22 (Operand.tmp 30), type := 22, pos := "ref.go:126", after := #[{ on := 18, ground := Ground.data }, { on := 14, ground := Ground.guard }], guard := some (14, false) } : Oper)) (v := undef) rfl (by kernel_rfl) (by kernel_rfl) (by kernel_rfl) (fun _ _ _ h => h) (Or.inr ⟨by rfl, rfl⟩) (by assumption) ?_
  (try simp only [Act.put, List.setIfInBounds_toArray, List.set_cons_zero, List.set_cons_succ])
  refine wpAnyH_take (i := 20) (oi := ({ dst := some 32, op := Op.call { callee := Callee.builtin Builtin.len, args := #[Operand.tmp 31], argTypes := #[22] }, type := 3, pos := "ref.go:126", after := #[{ on := 19, ground := Ground.data }, { on := 14, ground := Ground.guard }], guard := some (14, false) } : Oper)) (v := undef) rfl (by kernel_rfl) (by kernel_rfl) (by kernel_rfl) (fun _ _ _ h => h) (Or.inr ⟨by rfl, rfl⟩) (by assumption) ?_
  (try simp only [Act.put, List.setIfInBounds_toArray, List.set_cons_zero, List.set_cons_succ])
  refine wpAnyH_take (i := 21) (oi := ({ dst := some 33, op := Op.binOp BinOp.neq 3 (Operand.tmp 29) (Operand.tmp 32) 3, type := 4, pos := "ref.go:126", after := #[{ on := 17, ground := Ground.data }, { on := 20, ground := Ground.data }, { on := 14, ground := Ground.guard }], guard := some (14, false) } : Oper)) (v := undef) rfl (by kernel_rfl) (by kernel_rfl) (by kernel_rfl) (fun _ _ _ h => h) (Or.inr ⟨by rfl, rfl⟩) (by assumption) ?_
  (try simp only [Act.put, List.setIfInBounds_toArray, List.set_cons_zero, List.set_cons_succ])
  refine wpAnyH_take (i := 22) (oi := ({ dst := some 34, op := Op.pick (Operand.tmp 26) (Operand.const (Value.bool true)) (Operand.tmp 33), type := 4, pos := "ref.go:126", after := #[{ on := 14, ground := Ground.data }, { on := 21, ground := Ground.data }], guard := none } : Oper)) (v := ?_) rfl (by kernel_rfl) (by kernel_rfl) (by kernel_rfl) (fun _ _ _ h => h) (Or.inl ⟨by rfl, ?_⟩) (by assumption) ?_
  rotate_left
  · intro w hSw; (try dsimp only at hSw); go_simp <;> with_reducible rfl
  (try simp only [Act.put, List.setIfInBounds_toArray, List.set_cons_zero, List.set_cons_succ])
  refine wpAnyH_done (by kernel_rfl) ?_ _
  have BB := hid hB0
  clear hHeld
  have RB := (BB.out.block (w.heap.size + 1 + 1) (by have := HZ.out; omega)).trans HR.out
  obtain ⟨m, hm, -⟩ := set5R_facts (.int .u64 0) (.int .u64 0) (.int .u64 0) (.int .u64 0) (.bool false) RB (by omega) (below_step B0.out BB.out)
  have HM := hid hm
  unfold set5R at m HM
  have f0 := blk_free RB 0
  have f1 := blk_free RB 1
  have f2 := blk_free RB 2
  have f3 := blk_free RB 3
  have f4 := blk_free RB 4
  have k0 := blk_cell RB (j := 0) (v := .int .u64 0) rfl
  have k1 := blk_cell RB (j := 1) (v := .int .u64 0) rfl
  have k2 := blk_cell RB (j := 2) (v := .int .u64 0) rfl
  have k3 := blk_cell RB (j := 3) (v := .int .u64 0) rfl
  have k4 := blk_cell RB (j := 4) (v := .bool false) rfl
  have m0 := blk_cell m (j := 0) (v := .int .u64 0) rfl
  have m1 := blk_cell m (j := 1) (v := .int .u64 0) rfl
  have m2 := blk_cell m (j := 2) (v := .int .u64 0) rfl
  have m3 := blk_cell m (j := 3) (v := .int .u64 0) rfl
  have m4 := blk_cell m (j := 4) (v := .bool false) rfl
  have p0 := blk_cell (j := 0) (v := .int .u64 0) (blk_set (j := 0) RB (.int .u64 0)) rfl
  have p1 := blk_cell (j := 1) (v := .int .u64 0) (blk_set (j := 1) (blk_set (j := 0) RB (.int .u64 0)) (.int .u64 0)) rfl
  have p2 := blk_cell (j := 2) (v := .int .u64 0) (blk_set (j := 2) (blk_set (j := 1) (blk_set (j := 0) RB (.int .u64 0)) (.int .u64 0)) (.int .u64 0)) rfl
  have p3 := blk_cell (j := 3) (v := .int .u64 0) (blk_set (j := 3) (blk_set (j := 2) (blk_set (j := 1) (blk_set (j := 0) RB (.int .u64 0)) (.int .u64 0)) (.int .u64 0)) (.int .u64 0)) rfl
  have p4 := blk_cell (j := 4) (v := .bool false) (blk_set (j := 4) (blk_set (j := 3) (blk_set (j := 2) (blk_set (j := 1) (blk_set (j := 0) RB (.int .u64 0)) (.int .u64 0)) (.int .u64 0)) (.int .u64 0)) (.bool false)) rfl
  clear hm m RB
  go_wp2_with fail
  (try simp only [Exit.inBlock, Exit.then])
  exact bodyPost_ret (v := .agg #[.int .u64 0, .int .u64 0, .int .u64 0, .int .u64 0, .bool false]) (by simp [results, Try.results13, go_sem, p0, p1, p2, p3, p4, m0, m1, m2, m3, m4]) rfl ⟨rfl, HM.out⟩


set_option maxRecDepth 100000 in
set_option maxHeartbeats 16000000 in
theorem rcoll_ne1 (n i : Nat) (lp lq : BitVec 64) (hi : i < n) (hn : n ≤ 4096) (K : Nat) (hK : (sibs 0 n i).length = K) (a b : Nat) (hne : ¬ a = K) (pa qa : Option Addr) (pc qc : Nat) (w : World) :
    Calls Try.prog 13 #[.int .i64 n, .int .i64 i, .agg #[.int .u64 (lp.toNat : Int), .slice pa a pc], .agg #[.int .u64 (lq.toNat : Int), .slice qa b qc]] w fun e w' => e = .returned (collR none) ∧ Below w.heap.size w w' := by
  have hp0 : placeE (n : Int) (i : Int) = 0 := by rcases place_cases n i with h1 | h1 | h1 | h1 <;> omega
  have PL := hid (fun W => hp0 ▸ rplace_b n i W)
  have SL := hid (fun W => rsteps_len n i K hi hn hK W)
  have t1 : ((a : Int) == (K : Int)) = false := by rw [beq_eq_false_iff_ne]; omega
  have t1n : (a == K) = false := by rw [beq_eq_false_iff_ne]; exact hne
  have t2 : ((a : Int) != (K : Int)) = true := by rw [bne, t1]; rfl
  have t2n : (a != K) = true := by rw [bne, t1n]; rfl
  clear hp0 hK hne hi
  obtain ⟨W0, hW0⟩ : ∃ W0, collRW w (.int .u64 (lp.toNat : Int)) (.slice pa a pc) (.int .u64 (lq.toNat : Int)) (.slice qa b qc) = W0 := ⟨_, rfl⟩
  have hf := collRW_facts w (.int .u64 (lp.toNat : Int)) (.slice pa a pc) (.int .u64 (lq.toNat : Int)) (.slice qa b qc)
  rw [hW0] at hf
  obtain ⟨hz, H0, H1, H2, hb0⟩ := hf
  have B0 := hid hb0
  have HZ := hid hz
  have HR := hid H2
  have X0 := blk_cell H0 (j := 0) (v := .int .u64 (lp.toNat : Int)) rfl
  have X1 := blk_cell H0 (j := 1) (v := .slice pa a pc) rfl
  have X2 := blk_cell H1 (j := 0) (v := .int .u64 (lq.toNat : Int)) rfl
  have X3 := blk_cell H1 (j := 1) (v := .slice qa b qc) rfl
  clear hb0 hz H0 H1 H2
  go_enter Try.func13, Try.ntmps13
  go_upto_region 1 with fail
  rw [show ((w.alloc (.cells #[.int .u64 (lp.toNat : Int), .slice pa a pc] 25)).alloc (.cells #[.int .u64 (lq.toNat : Int), .slice qa b qc] 25)).alloc (.cells #[.int .u64 0, .int .u64 0, .int .u64 0, .int .u64 0, .bool false] 41) = W0 from hW0]
  clear hW0
  have hsd := (Below.refl W0.heap.size W0).drew
  refine wp_region_held_drew (S := fun W' => (W'.cell? ⟨w.heap.size, 0, none⟩ = some (.int .u64 (lp.toNat : Int)) ∧ W'.cell? ⟨w.heap.size, 1, none⟩ = some (.slice pa a pc) ∧ W'.cell? ⟨w.heap.size + 1, 0, none⟩ = some (.int .u64 (lq.toNat : Int)) ∧ W'.cell? ⟨w.heap.size + 1, 1, none⟩ = some (.slice qa b qc) ∧ Below W0.heap.size W0 W')) (by kernel_rfl) ?_ (fun hHeld => ?_)
  · exact ⟨X0, X1, X2, X3, hsd⟩
  refine wpAnyH_take (i := 0) (oi := ({ dst := some 12, op := Op.move (Operand.tmp 0), type := 3, pos := "ref.go:126", after := #[], guard := none } : Oper)) (v := ?_) rfl (by kernel_rfl) (by kernel_rfl) (by kernel_rfl) (fun _ _ _ h => h) (Or.inl ⟨by rfl, ?_⟩) (by assumption) ?_
  rotate_left
  · intro w hSw; (try dsimp only at hSw); go_simp <;> with_reducible rfl
  (try simp only [Act.put, List.setIfInBounds_toArray, List.set_cons_zero, List.set_cons_succ])
  refine wpAnyH_take (i := 1) (oi := ({ dst := some 13, op := Op.move (Operand.tmp 1), type := 3, pos := "ref.go:126", after := #[], guard := none } : Oper)) (v := ?_) rfl (by kernel_rfl) (by kernel_rfl) (by kernel_rfl) (fun _ _ _ h => h) (Or.inl ⟨by rfl, ?_⟩) (by assumption) ?_
  rotate_left
  · intro w hSw; (try dsimp only at hSw); go_simp <;> with_reducible rfl
  (try simp only [Act.put, List.setIfInBounds_toArray, List.set_cons_zero, List.set_cons_succ])
  refine wpAnyH_ready (rs := [2]) (by kernel_rfl) (by simp) ?_
  refine AllReadyH.cons (o := ({ dst := some 14, op := Op.call { callee := Callee.value (Operand.func 21), args := #[Operand.tmp 12, Operand.tmp 13], argTypes := #[3, 3] }, type := 30, pos := "ref.go:126", after := #[{ on := 0, ground := Ground.data }, { on := 1, ground := Ground.data }], guard := none } : Oper)) rfl (fun K hK => ?_) ?_
  rotate_left
  · exact AllReadyH.nil
  go_simp
  go_at_call 21
  with_reducible refine (PL.out _).mono ?_
  rintro e y0 ⟨rfl, hq0⟩
  have hB0 := below_step hsd hq0
  clear hHeld
  first | (with_reducible refine hK.out _ _ ?_ (fun hHeld => ?_)) | (go_wp2_with fail; with_reducible refine hK.out _ _ ?_ (fun hHeld => ?_))
  · exact ⟨cell_below hB0 X0, cell_below hB0 X1, cell_below hB0 X2, cell_below hB0 X3, hB0⟩
  clear hK K
  (try simp only [Act.put, List.setIfInBounds_toArray, List.set_cons_zero, List.set_cons_succ])
  refine wpAnyH_take (i := 3) (oi := ({ dst := some 15, op := Op.binOp BinOp.neq 30 (Operand.tmp 14) (Operand.const (Value.int IntKind.i64 0)) 30, type := 4, pos := "ref.go:126", after := #[{ on := 2, ground := Ground.data }], guard := none } : Oper)) (v := ?_) rfl (by kernel_rfl) (by kernel_rfl) (by kernel_rfl) (fun _ _ _ h => h) (Or.inl ⟨by rfl, ?_⟩) (by assumption) ?_
  rotate_left
  · intro w hSw; (try dsimp only at hSw); go_simp <;> with_reducible rfl
  (try simp only [Act.put, List.setIfInBounds_toArray, List.set_cons_zero, List.set_cons_succ])
  refine wpAnyH_take (i := 4) (oi := ({ dst := some 16, op := Op.move (Operand.tmp 15), type := 4, pos := "ref.go:126", after := #[{ on := 3, ground := Ground.data }, { on := 2, ground := Ground.chain }], guard := none } : Oper)) (v := ?_) rfl (by kernel_rfl) (by kernel_rfl) (by kernel_rfl) (fun _ _ _ h => h) (Or.inl ⟨by rfl, ?_⟩) (by assumption) ?_
  rotate_left
  · intro w hSw; (try dsimp only at hSw); go_simp <;> with_reducible rfl
  (try simp only [Act.put, List.setIfInBounds_toArray, List.set_cons_zero, List.set_cons_succ])
  refine wpAnyH_take (i := 5) (oi := ({ dst := some 17, op := Op.fieldAddr 25 (Operand.tmp 6) 1, type := 0, pos := "ref.go:126", after := #[{ on := 4, ground := Ground.guard }], guard := some (4, false) } : Oper)) (v := ?_) rfl (by kernel_rfl) (by kernel_rfl) (by kernel_rfl) (fun _ _ _ h => h) (Or.inl ⟨by rfl, ?_⟩) (by assumption) ?_
  rotate_left
  · intro w hSw; (try dsimp only at hSw); go_simp <;> with_reducible rfl
  (try simp only [Act.put, List.setIfInBounds_toArray, List.set_cons_zero, List.set_cons_succ])
  refine wpAnyH_take (i := 6) (oi := ({ dst := some 18, op := Op.load 22 (Operand.tmp 17), type := 22, pos := "ref.go:126", after := #[{ on := 5, ground := Ground.data }, { on := 4, ground := Ground.guard }], guard := some (4, false) } : Oper)) (v := ?_) rfl (by kernel_rfl) (by kernel_rfl) (by kernel_rfl) (fun _ _ _ h => h) (Or.inl ⟨by rfl, ?_⟩) (by assumption) ?_
  rotate_left
  · intro w hSw; (try dsimp only at hSw); go_simp <;> with_reducible rfl
  (try simp only [Act.put, List.setIfInBounds_toArray, List.set_cons_zero, List.set_cons_succ])
  refine wpAnyH_take (i := 7) (oi := ({ dst := some 19, op := Op.call { callee := Callee.builtin Builtin.len, args := #[Operand.tmp 18], argTypes := #[22] }, type := 3, pos := "ref.go:126", after := #[{ on := 6, ground := Ground.data }, { on := 4, ground := Ground.guard }], guard := some (4, false) } : Oper)) (v := ?_) rfl (by kernel_rfl) (by kernel_rfl) (by kernel_rfl) (fun _ _ _ h => h) (Or.inl ⟨by rfl, ?_⟩) (by assumption) ?_
  rotate_left
  · intro w hSw; (try dsimp only at hSw); go_simp <;> with_reducible rfl
  (try simp only [Act.put, List.setIfInBounds_toArray, List.set_cons_zero, List.set_cons_succ])
  refine wpAnyH_take (i := 8) (oi := ({ dst := some 20, op := Op.move (Operand.tmp 0), type := 3, pos := "ref.go:126", after := #[{ on := 4, ground := Ground.guard }], guard := some (4, false) } : Oper)) (v := ?_) rfl (by kernel_rfl) (by kernel_rfl) (by kernel_rfl) (fun _ _ _ h => h) (Or.inl ⟨by rfl, ?_⟩) (by assumption) ?_
  rotate_left
  · intro w hSw; (try dsimp only at hSw); go_simp <;> with_reducible rfl
  (try simp only [Act.put, List.setIfInBounds_toArray, List.set_cons_zero, List.set_cons_succ])
  refine wpAnyH_take (i := 9) (oi := ({ dst := some 21, op := Op.move (Operand.tmp 1), type := 3, pos := "ref.go:126", after := #[{ on := 4, ground := Ground.guard }], guard := some (4, false) } : Oper)) (v := ?_) rfl (by kernel_rfl) (by kernel_rfl) (by kernel_rfl) (fun _ _ _ h => h) (Or.inl ⟨by rfl, ?_⟩) (by assumption) ?_
  rotate_left
  · intro w hSw; (try dsimp only at hSw); go_simp <;> with_reducible rfl
  (try simp only [Act.put, List.setIfInBounds_toArray, List.set_cons_zero, List.set_cons_succ])
  refine wpAnyH_ready (rs := [10]) (by kernel_rfl) (by simp) ?_
  refine AllReadyH.cons (o := ({ dst := some 22, op := Op.call { callee := Callee.value (Operand.func 22), args := #[Operand.tmp 20, Operand.tmp 21], argTypes := #[3, 3] }, type := 50, pos := "ref.go:126", after := #[{ on := 8, ground := Ground.data }, { on := 9, ground := Ground.data }, { on := 4, ground := Ground.chain }, { on := 4, ground := Ground.guard }], guard := some (4, false) } : Oper)) rfl (fun K hK => ?_) ?_
  rotate_left
  · exact AllReadyH.nil
  go_simp
  go_at_call 22
  with_reducible refine (SL.out _).mono ?_
  rintro e y1 ⟨sp, sc, rfl, hq1⟩
  have hB1 := below_step hB0 hq1
  clear hHeld
  first | (with_reducible refine hK.out _ _ ?_ (fun hHeld => ?_)) | (go_wp2_with fail; with_reducible refine hK.out _ _ ?_ (fun hHeld => ?_))
  · exact ⟨cell_below hB1 X0, cell_below hB1 X1, cell_below hB1 X2, cell_below hB1 X3, hB1⟩
  clear hK K
  (try simp only [Act.put, List.setIfInBounds_toArray, List.set_cons_zero, List.set_cons_succ])
  refine wpAnyH_take (i := 11) (oi := ({ dst := some 23, op := Op.call { callee := Callee.builtin Builtin.len, args := #[Operand.tmp 22], argTypes := #[50] }, type := 3, pos := "ref.go:126", after := #[{ on := 10, ground := Ground.data }, { on := 4, ground := Ground.guard }], guard := some (4, false) } : Oper)) (v := ?_) rfl (by kernel_rfl) (by kernel_rfl) (by kernel_rfl) (fun _ _ _ h => h) (Or.inl ⟨by rfl, ?_⟩) (by assumption) ?_
  rotate_left
  · intro w hSw; (try dsimp only at hSw); go_simp <;> with_reducible rfl
  (try simp only [Act.put, List.setIfInBounds_toArray, List.set_cons_zero, List.set_cons_succ])
  refine wpAnyH_take (i := 12) (oi := ({ dst := some 24, op := Op.binOp BinOp.neq 3 (Operand.tmp 19) (Operand.tmp 23) 3, type := 4, pos := "ref.go:126", after := #[{ on := 7, ground := Ground.data }, { on := 11, ground := Ground.data }, { on := 4, ground := Ground.guard }], guard := some (4, false) } : Oper)) (v := ?_) rfl (by kernel_rfl) (by kernel_rfl) (by kernel_rfl) (fun _ _ _ h => h) (Or.inl ⟨by rfl, ?_⟩) (by assumption) ?_
  rotate_left
  · intro w hSw; (try dsimp only at hSw); go_simp <;> with_reducible rfl
  (try simp only [Act.put, List.setIfInBounds_toArray, List.set_cons_zero, List.set_cons_succ])
  refine wpAnyH_take (i := 13) (oi := ({ dst := some 25, op := Op.pick (Operand.tmp 16) (Operand.const (Value.bool true)) (Operand.tmp 24), type := 4, pos := "ref.go:126", after := #[{ on := 4, ground := Ground.data }, { on := 12, ground := Ground.data }], guard := none } : Oper)) (v := ?_) rfl (by kernel_rfl) (by kernel_rfl) (by kernel_rfl) (fun _ _ _ h => h) (Or.inl ⟨by rfl, ?_⟩) (by assumption) ?_
  rotate_left
  · intro w hSw; (try dsimp only at hSw); go_simp <;> with_reducible rfl
  (try simp only [Act.put, List.setIfInBounds_toArray, List.set_cons_zero, List.set_cons_succ])
  refine wpAnyH_take (i := 14) (oi := ({ dst := some 26, op := Op.move (Operand.tmp 25), type := 4, pos := "ref.go:126", after := #[{ on := 13, ground := Ground.data }, { on := 10, ground := Ground.chain }], guard := none } : Oper)) (v := ?_) rfl (by kernel_rfl) (by kernel_rfl) (by kernel_rfl) (fun _ _ _ h => h) (Or.inl ⟨by rfl, ?_⟩) (by assumption) ?_
  rotate_left
  · intro w hSw; (try dsimp only at hSw); go_simp <;> with_reducible rfl
  (try simp only [Act.put, List.setIfInBounds_toArray, List.set_cons_zero, List.set_cons_succ])
  refine wpAnyH_take (i := 15) (oi := ({ dst := some 27, op := Op.fieldAddr 25 (Operand.tmp 7) 1, type := 0, pos := "ref.go:126", after := #[{ on := 14, ground := Ground.guard }], guard := some (14, false) } : Oper)) (v := undef) rfl (by kernel_rfl) (by kernel_rfl) (by kernel_rfl) (fun _ _ _ h => h) (Or.inr ⟨by rfl, rfl⟩) (by assumption) ?_
  (try simp only [Act.put, List.setIfInBounds_toArray, List.set_cons_zero, List.set_cons_succ])
  refine wpAnyH_take (i := 16) (oi := ({ dst := some 28, op := Op.load 22 (Operand.tmp 27), type := 22, pos := "ref.go:126", after := #[{ on := 15, ground := Ground.data }, { on := 14, ground := Ground.guard }], guard := some (14, false) } : Oper)) (v := undef) rfl (by kernel_rfl) (by kernel_rfl) (by kernel_rfl) (fun _ _ _ h => h) (Or.inr ⟨by rfl, rfl⟩) (by assumption) ?_
  (try simp only [Act.put, List.setIfInBounds_toArray, List.set_cons_zero, List.set_cons_succ])
  refine wpAnyH_take (i := 17) (oi := ({ dst := some 29, op := Op.call { callee := Callee.builtin Builtin.len, args := #[Operand.tmp 28], argTypes := #[22] }, type := 3, pos := "ref.go:126", after := #[{ on := 16, ground := Ground.data }, { on := 14, ground := Ground.guard }], guard := some (14, false) } : Oper)) (v := undef) rfl (by kernel_rfl) (by kernel_rfl) (by kernel_rfl) (fun _ _ _ h => h) (Or.inr ⟨by rfl, rfl⟩) (by assumption) ?_
  (try simp only [Act.put, List.setIfInBounds_toArray, List.set_cons_zero, List.set_cons_succ])
  refine wpAnyH_take (i := 18) (oi := ({ dst := some 30, op := Op.fieldAddr 25 (Operand.tmp 6) 1, type := 0, pos := "ref.go:126", after := #[{ on := 14, ground := Ground.guard }], guard := some (14, false) } : Oper)) (v := undef) rfl (by kernel_rfl) (by kernel_rfl) (by kernel_rfl) (fun _ _ _ h => h) (Or.inr ⟨by rfl, rfl⟩) (by assumption) ?_
  (try simp only [Act.put, List.setIfInBounds_toArray, List.set_cons_zero, List.set_cons_succ])
  refine wpAnyH_take (i := 19) (oi := ({ dst := some 31, op := Op.load 22 (Operand.tmp 30), type := 22, pos := "ref.go:126", after := #[{ on := 18, ground := Ground.data }, { on := 14, ground := Ground.guard }], guard := some (14, false) } : Oper)) (v := undef) rfl (by kernel_rfl) (by kernel_rfl) (by kernel_rfl) (fun _ _ _ h => h) (Or.inr ⟨by rfl, rfl⟩) (by assumption) ?_
  (try simp only [Act.put, List.setIfInBounds_toArray, List.set_cons_zero, List.set_cons_succ])
  refine wpAnyH_take (i := 20) (oi := ({ dst := some 32, op := Op.call { callee := Callee.builtin Builtin.len, args := #[Operand.tmp 31], argTypes := #[22] }, type := 3, pos := "ref.go:126", after := #[{ on := 19, ground := Ground.data }, { on := 14, ground := Ground.guard }], guard := some (14, false) } : Oper)) (v := undef) rfl (by kernel_rfl) (by kernel_rfl) (by kernel_rfl) (fun _ _ _ h => h) (Or.inr ⟨by rfl, rfl⟩) (by assumption) ?_
  (try simp only [Act.put, List.setIfInBounds_toArray, List.set_cons_zero, List.set_cons_succ])
  refine wpAnyH_take (i := 21) (oi := ({ dst := some 33, op := Op.binOp BinOp.neq 3 (Operand.tmp 29) (Operand.tmp 32) 3, type := 4, pos := "ref.go:126", after := #[{ on := 17, ground := Ground.data }, { on := 20, ground := Ground.data }, { on := 14, ground := Ground.guard }], guard := some (14, false) } : Oper)) (v := undef) rfl (by kernel_rfl) (by kernel_rfl) (by kernel_rfl) (fun _ _ _ h => h) (Or.inr ⟨by rfl, rfl⟩) (by assumption) ?_
  (try simp only [Act.put, List.setIfInBounds_toArray, List.set_cons_zero, List.set_cons_succ])
  refine wpAnyH_take (i := 22) (oi := ({ dst := some 34, op := Op.pick (Operand.tmp 26) (Operand.const (Value.bool true)) (Operand.tmp 33), type := 4, pos := "ref.go:126", after := #[{ on := 14, ground := Ground.data }, { on := 21, ground := Ground.data }], guard := none } : Oper)) (v := ?_) rfl (by kernel_rfl) (by kernel_rfl) (by kernel_rfl) (fun _ _ _ h => h) (Or.inl ⟨by rfl, ?_⟩) (by assumption) ?_
  rotate_left
  · intro w hSw; (try dsimp only at hSw); go_simp <;> with_reducible rfl
  (try simp only [Act.put, List.setIfInBounds_toArray, List.set_cons_zero, List.set_cons_succ])
  refine wpAnyH_done (by kernel_rfl) ?_ _
  have BB := hid hB1
  clear hHeld
  have RB := (BB.out.block (w.heap.size + 1 + 1) (by have := HZ.out; omega)).trans HR.out
  obtain ⟨m, hm, -⟩ := set5R_facts (.int .u64 0) (.int .u64 0) (.int .u64 0) (.int .u64 0) (.bool false) RB (by omega) (below_step B0.out BB.out)
  have HM := hid hm
  unfold set5R at m HM
  have f0 := blk_free RB 0
  have f1 := blk_free RB 1
  have f2 := blk_free RB 2
  have f3 := blk_free RB 3
  have f4 := blk_free RB 4
  have k0 := blk_cell RB (j := 0) (v := .int .u64 0) rfl
  have k1 := blk_cell RB (j := 1) (v := .int .u64 0) rfl
  have k2 := blk_cell RB (j := 2) (v := .int .u64 0) rfl
  have k3 := blk_cell RB (j := 3) (v := .int .u64 0) rfl
  have k4 := blk_cell RB (j := 4) (v := .bool false) rfl
  have m0 := blk_cell m (j := 0) (v := .int .u64 0) rfl
  have m1 := blk_cell m (j := 1) (v := .int .u64 0) rfl
  have m2 := blk_cell m (j := 2) (v := .int .u64 0) rfl
  have m3 := blk_cell m (j := 3) (v := .int .u64 0) rfl
  have m4 := blk_cell m (j := 4) (v := .bool false) rfl
  have p0 := blk_cell (j := 0) (v := .int .u64 0) (blk_set (j := 0) RB (.int .u64 0)) rfl
  have p1 := blk_cell (j := 1) (v := .int .u64 0) (blk_set (j := 1) (blk_set (j := 0) RB (.int .u64 0)) (.int .u64 0)) rfl
  have p2 := blk_cell (j := 2) (v := .int .u64 0) (blk_set (j := 2) (blk_set (j := 1) (blk_set (j := 0) RB (.int .u64 0)) (.int .u64 0)) (.int .u64 0)) rfl
  have p3 := blk_cell (j := 3) (v := .int .u64 0) (blk_set (j := 3) (blk_set (j := 2) (blk_set (j := 1) (blk_set (j := 0) RB (.int .u64 0)) (.int .u64 0)) (.int .u64 0)) (.int .u64 0)) rfl
  have p4 := blk_cell (j := 4) (v := .bool false) (blk_set (j := 4) (blk_set (j := 3) (blk_set (j := 2) (blk_set (j := 1) (blk_set (j := 0) RB (.int .u64 0)) (.int .u64 0)) (.int .u64 0)) (.int .u64 0)) (.bool false)) rfl
  clear hm m RB
  go_wp2_with fail
  (try simp only [Exit.inBlock, Exit.then])
  exact bodyPost_ret (v := .agg #[.int .u64 0, .int .u64 0, .int .u64 0, .int .u64 0, .bool false]) (by simp [results, Try.results13, go_sem, p0, p1, p2, p3, p4, m0, m1, m2, m3, m4]) rfl ⟨rfl, HM.out⟩


set_option maxRecDepth 100000 in
set_option maxHeartbeats 16000000 in
theorem rcoll_ne2 (n i : Nat) (lp lq : BitVec 64) (hi : i < n) (hn : n ≤ 4096) (a b : Nat) (hK : (sibs 0 n i).length = a) (hne : ¬ b = a) (pa qa : Option Addr) (pc qc : Nat) (w : World) :
    Calls Try.prog 13 #[.int .i64 n, .int .i64 i, .agg #[.int .u64 (lp.toNat : Int), .slice pa a pc], .agg #[.int .u64 (lq.toNat : Int), .slice qa b qc]] w fun e w' => e = .returned (collR none) ∧ Below w.heap.size w w' := by
  have hp0 : placeE (n : Int) (i : Int) = 0 := by rcases place_cases n i with h1 | h1 | h1 | h1 <;> omega
  have PL := hid (fun W => hp0 ▸ rplace_b n i W)
  have SL := hid (fun W => rsteps_len n i a hi hn hK W)
  have t1 : ((b : Int) == (a : Int)) = false := by rw [beq_eq_false_iff_ne]; omega
  have t1n : (b == a) = false := by rw [beq_eq_false_iff_ne]; exact hne
  have t2 : ((b : Int) != (a : Int)) = true := by rw [bne, t1]; rfl
  have t2n : (b != a) = true := by rw [bne, t1n]; rfl
  clear hp0 hK hne hi
  obtain ⟨W0, hW0⟩ : ∃ W0, collRW w (.int .u64 (lp.toNat : Int)) (.slice pa a pc) (.int .u64 (lq.toNat : Int)) (.slice qa b qc) = W0 := ⟨_, rfl⟩
  have hf := collRW_facts w (.int .u64 (lp.toNat : Int)) (.slice pa a pc) (.int .u64 (lq.toNat : Int)) (.slice qa b qc)
  rw [hW0] at hf
  obtain ⟨hz, H0, H1, H2, hb0⟩ := hf
  have B0 := hid hb0
  have HZ := hid hz
  have HR := hid H2
  have X0 := blk_cell H0 (j := 0) (v := .int .u64 (lp.toNat : Int)) rfl
  have X1 := blk_cell H0 (j := 1) (v := .slice pa a pc) rfl
  have X2 := blk_cell H1 (j := 0) (v := .int .u64 (lq.toNat : Int)) rfl
  have X3 := blk_cell H1 (j := 1) (v := .slice qa b qc) rfl
  clear hb0 hz H0 H1 H2
  go_enter Try.func13, Try.ntmps13
  go_upto_region 1 with fail
  rw [show ((w.alloc (.cells #[.int .u64 (lp.toNat : Int), .slice pa a pc] 25)).alloc (.cells #[.int .u64 (lq.toNat : Int), .slice qa b qc] 25)).alloc (.cells #[.int .u64 0, .int .u64 0, .int .u64 0, .int .u64 0, .bool false] 41) = W0 from hW0]
  clear hW0
  have hsd := (Below.refl W0.heap.size W0).drew
  refine wp_region_held_drew (S := fun W' => (W'.cell? ⟨w.heap.size, 0, none⟩ = some (.int .u64 (lp.toNat : Int)) ∧ W'.cell? ⟨w.heap.size, 1, none⟩ = some (.slice pa a pc) ∧ W'.cell? ⟨w.heap.size + 1, 0, none⟩ = some (.int .u64 (lq.toNat : Int)) ∧ W'.cell? ⟨w.heap.size + 1, 1, none⟩ = some (.slice qa b qc) ∧ Below W0.heap.size W0 W')) (by kernel_rfl) ?_ (fun hHeld => ?_)
  · exact ⟨X0, X1, X2, X3, hsd⟩
  refine wpAnyH_take (i := 0) (oi := ({ dst := some 12, op := Op.move (Operand.tmp 0), type := 3, pos := "ref.go:126", after := #[], guard := none } : Oper)) (v := ?_) rfl (by kernel_rfl) (by kernel_rfl) (by kernel_rfl) (fun _ _ _ h => h) (Or.inl ⟨by rfl, ?_⟩) (by assumption) ?_
  rotate_left
  · intro w hSw; (try dsimp only at hSw); go_simp <;> with_reducible rfl
  (try simp only [Act.put, List.setIfInBounds_toArray, List.set_cons_zero, List.set_cons_succ])
  refine wpAnyH_take (i := 1) (oi := ({ dst := some 13, op := Op.move (Operand.tmp 1), type := 3, pos := "ref.go:126", after := #[], guard := none } : Oper)) (v := ?_) rfl (by kernel_rfl) (by kernel_rfl) (by kernel_rfl) (fun _ _ _ h => h) (Or.inl ⟨by rfl, ?_⟩) (by assumption) ?_
  rotate_left
  · intro w hSw; (try dsimp only at hSw); go_simp <;> with_reducible rfl
  (try simp only [Act.put, List.setIfInBounds_toArray, List.set_cons_zero, List.set_cons_succ])
  refine wpAnyH_ready (rs := [2]) (by kernel_rfl) (by simp) ?_
  refine AllReadyH.cons (o := ({ dst := some 14, op := Op.call { callee := Callee.value (Operand.func 21), args := #[Operand.tmp 12, Operand.tmp 13], argTypes := #[3, 3] }, type := 30, pos := "ref.go:126", after := #[{ on := 0, ground := Ground.data }, { on := 1, ground := Ground.data }], guard := none } : Oper)) rfl (fun K hK => ?_) ?_
  rotate_left
  · exact AllReadyH.nil
  go_simp
  go_at_call 21
  with_reducible refine (PL.out _).mono ?_
  rintro e y0 ⟨rfl, hq0⟩
  have hB0 := below_step hsd hq0
  clear hHeld
  first | (with_reducible refine hK.out _ _ ?_ (fun hHeld => ?_)) | (go_wp2_with fail; with_reducible refine hK.out _ _ ?_ (fun hHeld => ?_))
  · exact ⟨cell_below hB0 X0, cell_below hB0 X1, cell_below hB0 X2, cell_below hB0 X3, hB0⟩
  clear hK K
  (try simp only [Act.put, List.setIfInBounds_toArray, List.set_cons_zero, List.set_cons_succ])
  refine wpAnyH_take (i := 3) (oi := ({ dst := some 15, op := Op.binOp BinOp.neq 30 (Operand.tmp 14) (Operand.const (Value.int IntKind.i64 0)) 30, type := 4, pos := "ref.go:126", after := #[{ on := 2, ground := Ground.data }], guard := none } : Oper)) (v := ?_) rfl (by kernel_rfl) (by kernel_rfl) (by kernel_rfl) (fun _ _ _ h => h) (Or.inl ⟨by rfl, ?_⟩) (by assumption) ?_
  rotate_left
  · intro w hSw; (try dsimp only at hSw); go_simp <;> with_reducible rfl
  (try simp only [Act.put, List.setIfInBounds_toArray, List.set_cons_zero, List.set_cons_succ])
  refine wpAnyH_take (i := 4) (oi := ({ dst := some 16, op := Op.move (Operand.tmp 15), type := 4, pos := "ref.go:126", after := #[{ on := 3, ground := Ground.data }, { on := 2, ground := Ground.chain }], guard := none } : Oper)) (v := ?_) rfl (by kernel_rfl) (by kernel_rfl) (by kernel_rfl) (fun _ _ _ h => h) (Or.inl ⟨by rfl, ?_⟩) (by assumption) ?_
  rotate_left
  · intro w hSw; (try dsimp only at hSw); go_simp <;> with_reducible rfl
  (try simp only [Act.put, List.setIfInBounds_toArray, List.set_cons_zero, List.set_cons_succ])
  refine wpAnyH_take (i := 5) (oi := ({ dst := some 17, op := Op.fieldAddr 25 (Operand.tmp 6) 1, type := 0, pos := "ref.go:126", after := #[{ on := 4, ground := Ground.guard }], guard := some (4, false) } : Oper)) (v := ?_) rfl (by kernel_rfl) (by kernel_rfl) (by kernel_rfl) (fun _ _ _ h => h) (Or.inl ⟨by rfl, ?_⟩) (by assumption) ?_
  rotate_left
  · intro w hSw; (try dsimp only at hSw); go_simp <;> with_reducible rfl
  (try simp only [Act.put, List.setIfInBounds_toArray, List.set_cons_zero, List.set_cons_succ])
  refine wpAnyH_take (i := 6) (oi := ({ dst := some 18, op := Op.load 22 (Operand.tmp 17), type := 22, pos := "ref.go:126", after := #[{ on := 5, ground := Ground.data }, { on := 4, ground := Ground.guard }], guard := some (4, false) } : Oper)) (v := ?_) rfl (by kernel_rfl) (by kernel_rfl) (by kernel_rfl) (fun _ _ _ h => h) (Or.inl ⟨by rfl, ?_⟩) (by assumption) ?_
  rotate_left
  · intro w hSw; (try dsimp only at hSw); go_simp <;> with_reducible rfl
  (try simp only [Act.put, List.setIfInBounds_toArray, List.set_cons_zero, List.set_cons_succ])
  refine wpAnyH_take (i := 7) (oi := ({ dst := some 19, op := Op.call { callee := Callee.builtin Builtin.len, args := #[Operand.tmp 18], argTypes := #[22] }, type := 3, pos := "ref.go:126", after := #[{ on := 6, ground := Ground.data }, { on := 4, ground := Ground.guard }], guard := some (4, false) } : Oper)) (v := ?_) rfl (by kernel_rfl) (by kernel_rfl) (by kernel_rfl) (fun _ _ _ h => h) (Or.inl ⟨by rfl, ?_⟩) (by assumption) ?_
  rotate_left
  · intro w hSw; (try dsimp only at hSw); go_simp <;> with_reducible rfl
  (try simp only [Act.put, List.setIfInBounds_toArray, List.set_cons_zero, List.set_cons_succ])
  refine wpAnyH_take (i := 8) (oi := ({ dst := some 20, op := Op.move (Operand.tmp 0), type := 3, pos := "ref.go:126", after := #[{ on := 4, ground := Ground.guard }], guard := some (4, false) } : Oper)) (v := ?_) rfl (by kernel_rfl) (by kernel_rfl) (by kernel_rfl) (fun _ _ _ h => h) (Or.inl ⟨by rfl, ?_⟩) (by assumption) ?_
  rotate_left
  · intro w hSw; (try dsimp only at hSw); go_simp <;> with_reducible rfl
  (try simp only [Act.put, List.setIfInBounds_toArray, List.set_cons_zero, List.set_cons_succ])
  refine wpAnyH_take (i := 9) (oi := ({ dst := some 21, op := Op.move (Operand.tmp 1), type := 3, pos := "ref.go:126", after := #[{ on := 4, ground := Ground.guard }], guard := some (4, false) } : Oper)) (v := ?_) rfl (by kernel_rfl) (by kernel_rfl) (by kernel_rfl) (fun _ _ _ h => h) (Or.inl ⟨by rfl, ?_⟩) (by assumption) ?_
  rotate_left
  · intro w hSw; (try dsimp only at hSw); go_simp <;> with_reducible rfl
  (try simp only [Act.put, List.setIfInBounds_toArray, List.set_cons_zero, List.set_cons_succ])
  refine wpAnyH_ready (rs := [10]) (by kernel_rfl) (by simp) ?_
  refine AllReadyH.cons (o := ({ dst := some 22, op := Op.call { callee := Callee.value (Operand.func 22), args := #[Operand.tmp 20, Operand.tmp 21], argTypes := #[3, 3] }, type := 50, pos := "ref.go:126", after := #[{ on := 8, ground := Ground.data }, { on := 9, ground := Ground.data }, { on := 4, ground := Ground.chain }, { on := 4, ground := Ground.guard }], guard := some (4, false) } : Oper)) rfl (fun K hK => ?_) ?_
  rotate_left
  · exact AllReadyH.nil
  go_simp
  go_at_call 22
  with_reducible refine (SL.out _).mono ?_
  rintro e y1 ⟨sp, sc, rfl, hq1⟩
  have hB1 := below_step hB0 hq1
  clear hHeld
  first | (with_reducible refine hK.out _ _ ?_ (fun hHeld => ?_)) | (go_wp2_with fail; with_reducible refine hK.out _ _ ?_ (fun hHeld => ?_))
  · exact ⟨cell_below hB1 X0, cell_below hB1 X1, cell_below hB1 X2, cell_below hB1 X3, hB1⟩
  clear hK K
  (try simp only [Act.put, List.setIfInBounds_toArray, List.set_cons_zero, List.set_cons_succ])
  refine wpAnyH_take (i := 11) (oi := ({ dst := some 23, op := Op.call { callee := Callee.builtin Builtin.len, args := #[Operand.tmp 22], argTypes := #[50] }, type := 3, pos := "ref.go:126", after := #[{ on := 10, ground := Ground.data }, { on := 4, ground := Ground.guard }], guard := some (4, false) } : Oper)) (v := ?_) rfl (by kernel_rfl) (by kernel_rfl) (by kernel_rfl) (fun _ _ _ h => h) (Or.inl ⟨by rfl, ?_⟩) (by assumption) ?_
  rotate_left
  · intro w hSw; (try dsimp only at hSw); go_simp <;> with_reducible rfl
  (try simp only [Act.put, List.setIfInBounds_toArray, List.set_cons_zero, List.set_cons_succ])
  refine wpAnyH_take (i := 12) (oi := ({ dst := some 24, op := Op.binOp BinOp.neq 3 (Operand.tmp 19) (Operand.tmp 23) 3, type := 4, pos := "ref.go:126", after := #[{ on := 7, ground := Ground.data }, { on := 11, ground := Ground.data }, { on := 4, ground := Ground.guard }], guard := some (4, false) } : Oper)) (v := ?_) rfl (by kernel_rfl) (by kernel_rfl) (by kernel_rfl) (fun _ _ _ h => h) (Or.inl ⟨by rfl, ?_⟩) (by assumption) ?_
  rotate_left
  · intro w hSw; (try dsimp only at hSw); go_simp <;> with_reducible rfl
  (try simp only [Act.put, List.setIfInBounds_toArray, List.set_cons_zero, List.set_cons_succ])
  refine wpAnyH_take (i := 13) (oi := ({ dst := some 25, op := Op.pick (Operand.tmp 16) (Operand.const (Value.bool true)) (Operand.tmp 24), type := 4, pos := "ref.go:126", after := #[{ on := 4, ground := Ground.data }, { on := 12, ground := Ground.data }], guard := none } : Oper)) (v := ?_) rfl (by kernel_rfl) (by kernel_rfl) (by kernel_rfl) (fun _ _ _ h => h) (Or.inl ⟨by rfl, ?_⟩) (by assumption) ?_
  rotate_left
  · intro w hSw; (try dsimp only at hSw); go_simp <;> with_reducible rfl
  (try simp only [Act.put, List.setIfInBounds_toArray, List.set_cons_zero, List.set_cons_succ])
  refine wpAnyH_take (i := 14) (oi := ({ dst := some 26, op := Op.move (Operand.tmp 25), type := 4, pos := "ref.go:126", after := #[{ on := 13, ground := Ground.data }, { on := 10, ground := Ground.chain }], guard := none } : Oper)) (v := ?_) rfl (by kernel_rfl) (by kernel_rfl) (by kernel_rfl) (fun _ _ _ h => h) (Or.inl ⟨by rfl, ?_⟩) (by assumption) ?_
  rotate_left
  · intro w hSw; (try dsimp only at hSw); go_simp <;> with_reducible rfl
  (try simp only [Act.put, List.setIfInBounds_toArray, List.set_cons_zero, List.set_cons_succ])
  refine wpAnyH_take (i := 15) (oi := ({ dst := some 27, op := Op.fieldAddr 25 (Operand.tmp 7) 1, type := 0, pos := "ref.go:126", after := #[{ on := 14, ground := Ground.guard }], guard := some (14, false) } : Oper)) (v := ?_) rfl (by kernel_rfl) (by kernel_rfl) (by kernel_rfl) (fun _ _ _ h => h) (Or.inl ⟨by rfl, ?_⟩) (by assumption) ?_
  rotate_left
  · intro w hSw; (try dsimp only at hSw); go_simp <;> with_reducible rfl
  (try simp only [Act.put, List.setIfInBounds_toArray, List.set_cons_zero, List.set_cons_succ])
  refine wpAnyH_take (i := 16) (oi := ({ dst := some 28, op := Op.load 22 (Operand.tmp 27), type := 22, pos := "ref.go:126", after := #[{ on := 15, ground := Ground.data }, { on := 14, ground := Ground.guard }], guard := some (14, false) } : Oper)) (v := ?_) rfl (by kernel_rfl) (by kernel_rfl) (by kernel_rfl) (fun _ _ _ h => h) (Or.inl ⟨by rfl, ?_⟩) (by assumption) ?_
  rotate_left
  · intro w hSw; (try dsimp only at hSw); go_simp <;> with_reducible rfl
  (try simp only [Act.put, List.setIfInBounds_toArray, List.set_cons_zero, List.set_cons_succ])
  refine wpAnyH_take (i := 17) (oi := ({ dst := some 29, op := Op.call { callee := Callee.builtin Builtin.len, args := #[Operand.tmp 28], argTypes := #[22] }, type := 3, pos := "ref.go:126", after := #[{ on := 16, ground := Ground.data }, { on := 14, ground := Ground.guard }], guard := some (14, false) } : Oper)) (v := ?_) rfl (by kernel_rfl) (by kernel_rfl) (by kernel_rfl) (fun _ _ _ h => h) (Or.inl ⟨by rfl, ?_⟩) (by assumption) ?_
  rotate_left
  · intro w hSw; (try dsimp only at hSw); go_simp <;> with_reducible rfl
  (try simp only [Act.put, List.setIfInBounds_toArray, List.set_cons_zero, List.set_cons_succ])
  refine wpAnyH_take (i := 18) (oi := ({ dst := some 30, op := Op.fieldAddr 25 (Operand.tmp 6) 1, type := 0, pos := "ref.go:126", after := #[{ on := 14, ground := Ground.guard }], guard := some (14, false) } : Oper)) (v := ?_) rfl (by kernel_rfl) (by kernel_rfl) (by kernel_rfl) (fun _ _ _ h => h) (Or.inl ⟨by rfl, ?_⟩) (by assumption) ?_
  rotate_left
  · intro w hSw; (try dsimp only at hSw); go_simp <;> with_reducible rfl
  (try simp only [Act.put, List.setIfInBounds_toArray, List.set_cons_zero, List.set_cons_succ])
  refine wpAnyH_take (i := 19) (oi := ({ dst := some 31, op := Op.load 22 (Operand.tmp 30), type := 22, pos := "ref.go:126", after := #[{ on := 18, ground := Ground.data }, { on := 14, ground := Ground.guard }], guard := some (14, false) } : Oper)) (v := ?_) rfl (by kernel_rfl) (by kernel_rfl) (by kernel_rfl) (fun _ _ _ h => h) (Or.inl ⟨by rfl, ?_⟩) (by assumption) ?_
  rotate_left
  · intro w hSw; (try dsimp only at hSw); go_simp <;> with_reducible rfl
  (try simp only [Act.put, List.setIfInBounds_toArray, List.set_cons_zero, List.set_cons_succ])
  refine wpAnyH_take (i := 20) (oi := ({ dst := some 32, op := Op.call { callee := Callee.builtin Builtin.len, args := #[Operand.tmp 31], argTypes := #[22] }, type := 3, pos := "ref.go:126", after := #[{ on := 19, ground := Ground.data }, { on := 14, ground := Ground.guard }], guard := some (14, false) } : Oper)) (v := ?_) rfl (by kernel_rfl) (by kernel_rfl) (by kernel_rfl) (fun _ _ _ h => h) (Or.inl ⟨by rfl, ?_⟩) (by assumption) ?_
  rotate_left
  · intro w hSw; (try dsimp only at hSw); go_simp <;> with_reducible rfl
  (try simp only [Act.put, List.setIfInBounds_toArray, List.set_cons_zero, List.set_cons_succ])
  refine wpAnyH_take (i := 21) (oi := ({ dst := some 33, op := Op.binOp BinOp.neq 3 (Operand.tmp 29) (Operand.tmp 32) 3, type := 4, pos := "ref.go:126", after := #[{ on := 17, ground := Ground.data }, { on := 20, ground := Ground.data }, { on := 14, ground := Ground.guard }], guard := some (14, false) } : Oper)) (v := ?_) rfl (by kernel_rfl) (by kernel_rfl) (by kernel_rfl) (fun _ _ _ h => h) (Or.inl ⟨by rfl, ?_⟩) (by assumption) ?_
  rotate_left
  · intro w hSw; (try dsimp only at hSw); go_simp <;> with_reducible rfl
  (try simp only [Act.put, List.setIfInBounds_toArray, List.set_cons_zero, List.set_cons_succ])
  refine wpAnyH_take (i := 22) (oi := ({ dst := some 34, op := Op.pick (Operand.tmp 26) (Operand.const (Value.bool true)) (Operand.tmp 33), type := 4, pos := "ref.go:126", after := #[{ on := 14, ground := Ground.data }, { on := 21, ground := Ground.data }], guard := none } : Oper)) (v := ?_) rfl (by kernel_rfl) (by kernel_rfl) (by kernel_rfl) (fun _ _ _ h => h) (Or.inl ⟨by rfl, ?_⟩) (by assumption) ?_
  rotate_left
  · intro w hSw; (try dsimp only at hSw); go_simp <;> with_reducible rfl
  (try simp only [Act.put, List.setIfInBounds_toArray, List.set_cons_zero, List.set_cons_succ])
  refine wpAnyH_done (by kernel_rfl) ?_ _
  have BB := hid hB1
  clear hHeld
  have RB := (BB.out.block (w.heap.size + 1 + 1) (by have := HZ.out; omega)).trans HR.out
  obtain ⟨m, hm, -⟩ := set5R_facts (.int .u64 0) (.int .u64 0) (.int .u64 0) (.int .u64 0) (.bool false) RB (by omega) (below_step B0.out BB.out)
  have HM := hid hm
  unfold set5R at m HM
  have f0 := blk_free RB 0
  have f1 := blk_free RB 1
  have f2 := blk_free RB 2
  have f3 := blk_free RB 3
  have f4 := blk_free RB 4
  have k0 := blk_cell RB (j := 0) (v := .int .u64 0) rfl
  have k1 := blk_cell RB (j := 1) (v := .int .u64 0) rfl
  have k2 := blk_cell RB (j := 2) (v := .int .u64 0) rfl
  have k3 := blk_cell RB (j := 3) (v := .int .u64 0) rfl
  have k4 := blk_cell RB (j := 4) (v := .bool false) rfl
  have m0 := blk_cell m (j := 0) (v := .int .u64 0) rfl
  have m1 := blk_cell m (j := 1) (v := .int .u64 0) rfl
  have m2 := blk_cell m (j := 2) (v := .int .u64 0) rfl
  have m3 := blk_cell m (j := 3) (v := .int .u64 0) rfl
  have m4 := blk_cell m (j := 4) (v := .bool false) rfl
  have p0 := blk_cell (j := 0) (v := .int .u64 0) (blk_set (j := 0) RB (.int .u64 0)) rfl
  have p1 := blk_cell (j := 1) (v := .int .u64 0) (blk_set (j := 1) (blk_set (j := 0) RB (.int .u64 0)) (.int .u64 0)) rfl
  have p2 := blk_cell (j := 2) (v := .int .u64 0) (blk_set (j := 2) (blk_set (j := 1) (blk_set (j := 0) RB (.int .u64 0)) (.int .u64 0)) (.int .u64 0)) rfl
  have p3 := blk_cell (j := 3) (v := .int .u64 0) (blk_set (j := 3) (blk_set (j := 2) (blk_set (j := 1) (blk_set (j := 0) RB (.int .u64 0)) (.int .u64 0)) (.int .u64 0)) (.int .u64 0)) rfl
  have p4 := blk_cell (j := 4) (v := .bool false) (blk_set (j := 4) (blk_set (j := 3) (blk_set (j := 2) (blk_set (j := 1) (blk_set (j := 0) RB (.int .u64 0)) (.int .u64 0)) (.int .u64 0)) (.int .u64 0)) (.bool false)) rfl
  clear hm m RB
  go_wp2_with fail
  (try simp only [Exit.inBlock, Exit.then])
  exact bodyPost_ret (v := .agg #[.int .u64 0, .int .u64 0, .int .u64 0, .int .u64 0, .bool false]) (by simp [results, Try.results13, go_sem, p0, p1, p2, p3, p4, m0, m1, m2, m3, m4]) rfl ⟨rfl, HM.out⟩


set_option maxRecDepth 100000 in
set_option maxHeartbeats 16000000 in
theorem rcoll_in (n i : Nat) (lp lq : BitVec 64) (hi : i < n) (hn : n ≤ 4096) (pp pq : List (BitVec 64)) (a : Nat) (hK : (sibs 0 n i).length = a) (hlp : pp.length = a) (hlq : pq.length = a) (pa qa : Option Addr) (pc qc : Nat) (w : World) (hp : U64At w (.slice pa a pc) pp) (hq : U64At w (.slice qa a qc) pq):
    Calls Try.prog 13 #[.int .i64 n, .int .i64 i, .agg #[.int .u64 (lp.toNat : Int), .slice pa a pc], .agg #[.int .u64 (lq.toNat : Int), .slice qa a qc]] w fun e w' => e = .returned (collR (((pairsB n i lp pp).zip (pairsB n i lq pq)).find? hits)) ∧ Below w.heap.size w w' := by
  have hp0 : placeE (n : Int) (i : Int) = 0 := by rcases place_cases n i with h1 | h1 | h1 | h1 <;> omega
  have PL := hid (fun W => hp0 ▸ rplace_b n i W)
  have SL := hid (fun W => rsteps_len n i a hi hn hK W)
  have la := pairs_len n i lp pp (by omega)
  have lb := pairs_len n i lq pq (by omega)
  rw [hK] at la lb
  have PA := hid (fun (W : World) (hW : Below w.heap.size w W) => rpairs_any n i hi hn lp pp a hlp hK.symm pa pc W (hp.below hW))
  have PB := hid (fun (W : World) (hW : Below w.heap.size w W) => rpairs_any n i hi hn lq pq a hlq hK.symm qa qc W (hq.below hW))
  have hm12 : a ≤ 12 := by rw [← hK]; exact sibs_len12 i hn
  unfold PairsOk at PA PB
  obtain ⟨FA, hFA⟩ : ∃ P, pairsB n i lp pp = P := ⟨_, rfl⟩
  obtain ⟨FB, hFB⟩ : ∃ P, pairsB n i lq pq = P := ⟨_, rfl⟩
  rw [hFA] at PA la ⊢
  rw [hFB] at PB lb ⊢
  have ZL := hid (show (FA.zip FB).length = a + 1 + 1 from by simp [la, lb])
  have LA := hid la
  have LB := hid lb
  rw [la] at PA
  rw [lb] at PB
  obtain ⟨RV, hRV⟩ : ∃ RV, collR ((FA.zip FB).find? hits) = RV := ⟨_, rfl⟩
  rw [hRV]
  have HRV := hid hRV
  clear hp0 hK hi hp hq hFA hFB la lb hlp hlq hRV
  obtain ⟨W0, hW0⟩ : ∃ W0, collRW w (.int .u64 (lp.toNat : Int)) (.slice pa a pc) (.int .u64 (lq.toNat : Int)) (.slice qa a qc) = W0 := ⟨_, rfl⟩
  have hf := collRW_facts w (.int .u64 (lp.toNat : Int)) (.slice pa a pc) (.int .u64 (lq.toNat : Int)) (.slice qa a qc)
  rw [hW0] at hf
  obtain ⟨hz, H0, H1, H2, hb0⟩ := hf
  have B0 := hid hb0
  have HZ := hid hz
  have HR := hid H2
  have X0 := blk_cell H0 (j := 0) (v := .int .u64 (lp.toNat : Int)) rfl
  have X1 := blk_cell H0 (j := 1) (v := .slice pa a pc) rfl
  have X2 := blk_cell H1 (j := 0) (v := .int .u64 (lq.toNat : Int)) rfl
  have X3 := blk_cell H1 (j := 1) (v := .slice qa a qc) rfl
  clear hb0 hz H0 H1 H2
  go_enter Try.func13, Try.ntmps13
  go_upto_region 1 with fail
  rw [show ((w.alloc (.cells #[.int .u64 (lp.toNat : Int), .slice pa a pc] 25)).alloc (.cells #[.int .u64 (lq.toNat : Int), .slice qa a qc] 25)).alloc (.cells #[.int .u64 0, .int .u64 0, .int .u64 0, .int .u64 0, .bool false] 41) = W0 from hW0]
  clear hW0
  have hsd := (Below.refl W0.heap.size W0).drew
  refine wp_region_held_drew (S := fun W' => (W'.cell? ⟨w.heap.size, 0, none⟩ = some (.int .u64 (lp.toNat : Int)) ∧ W'.cell? ⟨w.heap.size, 1, none⟩ = some (.slice pa a pc) ∧ W'.cell? ⟨w.heap.size + 1, 0, none⟩ = some (.int .u64 (lq.toNat : Int)) ∧ W'.cell? ⟨w.heap.size + 1, 1, none⟩ = some (.slice qa a qc) ∧ Below W0.heap.size W0 W')) (by kernel_rfl) ?_ (fun hHeld => ?_)
  · exact ⟨X0, X1, X2, X3, hsd⟩
  refine wpAnyH_take (i := 0) (oi := ({ dst := some 12, op := Op.move (Operand.tmp 0), type := 3, pos := "ref.go:126", after := #[], guard := none } : Oper)) (v := ?_) rfl (by kernel_rfl) (by kernel_rfl) (by kernel_rfl) (fun _ _ _ h => h) (Or.inl ⟨by rfl, ?_⟩) (by assumption) ?_
  rotate_left
  · intro w hSw; (try dsimp only at hSw); go_simp <;> with_reducible rfl
  (try simp only [Act.put, List.setIfInBounds_toArray, List.set_cons_zero, List.set_cons_succ])
  refine wpAnyH_take (i := 1) (oi := ({ dst := some 13, op := Op.move (Operand.tmp 1), type := 3, pos := "ref.go:126", after := #[], guard := none } : Oper)) (v := ?_) rfl (by kernel_rfl) (by kernel_rfl) (by kernel_rfl) (fun _ _ _ h => h) (Or.inl ⟨by rfl, ?_⟩) (by assumption) ?_
  rotate_left
  · intro w hSw; (try dsimp only at hSw); go_simp <;> with_reducible rfl
  (try simp only [Act.put, List.setIfInBounds_toArray, List.set_cons_zero, List.set_cons_succ])
  refine wpAnyH_ready (rs := [2]) (by kernel_rfl) (by simp) ?_
  refine AllReadyH.cons (o := ({ dst := some 14, op := Op.call { callee := Callee.value (Operand.func 21), args := #[Operand.tmp 12, Operand.tmp 13], argTypes := #[3, 3] }, type := 30, pos := "ref.go:126", after := #[{ on := 0, ground := Ground.data }, { on := 1, ground := Ground.data }], guard := none } : Oper)) rfl (fun K hK => ?_) ?_
  rotate_left
  · exact AllReadyH.nil
  go_simp
  go_at_call 21
  with_reducible refine (PL.out _).mono ?_
  rintro e y0 ⟨rfl, hq0⟩
  have hB0 := below_step hsd hq0
  clear hHeld
  first | (with_reducible refine hK.out _ _ ?_ (fun hHeld => ?_)) | (go_wp2_with fail; with_reducible refine hK.out _ _ ?_ (fun hHeld => ?_))
  · exact ⟨cell_below hB0 X0, cell_below hB0 X1, cell_below hB0 X2, cell_below hB0 X3, hB0⟩
  clear hK K
  (try simp only [Act.put, List.setIfInBounds_toArray, List.set_cons_zero, List.set_cons_succ])
  refine wpAnyH_take (i := 3) (oi := ({ dst := some 15, op := Op.binOp BinOp.neq 30 (Operand.tmp 14) (Operand.const (Value.int IntKind.i64 0)) 30, type := 4, pos := "ref.go:126", after := #[{ on := 2, ground := Ground.data }], guard := none } : Oper)) (v := ?_) rfl (by kernel_rfl) (by kernel_rfl) (by kernel_rfl) (fun _ _ _ h => h) (Or.inl ⟨by rfl, ?_⟩) (by assumption) ?_
  rotate_left
  · intro w hSw; (try dsimp only at hSw); go_simp <;> with_reducible rfl
  (try simp only [Act.put, List.setIfInBounds_toArray, List.set_cons_zero, List.set_cons_succ])
  refine wpAnyH_take (i := 4) (oi := ({ dst := some 16, op := Op.move (Operand.tmp 15), type := 4, pos := "ref.go:126", after := #[{ on := 3, ground := Ground.data }, { on := 2, ground := Ground.chain }], guard := none } : Oper)) (v := ?_) rfl (by kernel_rfl) (by kernel_rfl) (by kernel_rfl) (fun _ _ _ h => h) (Or.inl ⟨by rfl, ?_⟩) (by assumption) ?_
  rotate_left
  · intro w hSw; (try dsimp only at hSw); go_simp <;> with_reducible rfl
  (try simp only [Act.put, List.setIfInBounds_toArray, List.set_cons_zero, List.set_cons_succ])
  refine wpAnyH_take (i := 5) (oi := ({ dst := some 17, op := Op.fieldAddr 25 (Operand.tmp 6) 1, type := 0, pos := "ref.go:126", after := #[{ on := 4, ground := Ground.guard }], guard := some (4, false) } : Oper)) (v := ?_) rfl (by kernel_rfl) (by kernel_rfl) (by kernel_rfl) (fun _ _ _ h => h) (Or.inl ⟨by rfl, ?_⟩) (by assumption) ?_
  rotate_left
  · intro w hSw; (try dsimp only at hSw); go_simp <;> with_reducible rfl
  (try simp only [Act.put, List.setIfInBounds_toArray, List.set_cons_zero, List.set_cons_succ])
  refine wpAnyH_take (i := 6) (oi := ({ dst := some 18, op := Op.load 22 (Operand.tmp 17), type := 22, pos := "ref.go:126", after := #[{ on := 5, ground := Ground.data }, { on := 4, ground := Ground.guard }], guard := some (4, false) } : Oper)) (v := ?_) rfl (by kernel_rfl) (by kernel_rfl) (by kernel_rfl) (fun _ _ _ h => h) (Or.inl ⟨by rfl, ?_⟩) (by assumption) ?_
  rotate_left
  · intro w hSw; (try dsimp only at hSw); go_simp <;> with_reducible rfl
  (try simp only [Act.put, List.setIfInBounds_toArray, List.set_cons_zero, List.set_cons_succ])
  refine wpAnyH_take (i := 7) (oi := ({ dst := some 19, op := Op.call { callee := Callee.builtin Builtin.len, args := #[Operand.tmp 18], argTypes := #[22] }, type := 3, pos := "ref.go:126", after := #[{ on := 6, ground := Ground.data }, { on := 4, ground := Ground.guard }], guard := some (4, false) } : Oper)) (v := ?_) rfl (by kernel_rfl) (by kernel_rfl) (by kernel_rfl) (fun _ _ _ h => h) (Or.inl ⟨by rfl, ?_⟩) (by assumption) ?_
  rotate_left
  · intro w hSw; (try dsimp only at hSw); go_simp <;> with_reducible rfl
  (try simp only [Act.put, List.setIfInBounds_toArray, List.set_cons_zero, List.set_cons_succ])
  refine wpAnyH_take (i := 8) (oi := ({ dst := some 20, op := Op.move (Operand.tmp 0), type := 3, pos := "ref.go:126", after := #[{ on := 4, ground := Ground.guard }], guard := some (4, false) } : Oper)) (v := ?_) rfl (by kernel_rfl) (by kernel_rfl) (by kernel_rfl) (fun _ _ _ h => h) (Or.inl ⟨by rfl, ?_⟩) (by assumption) ?_
  rotate_left
  · intro w hSw; (try dsimp only at hSw); go_simp <;> with_reducible rfl
  (try simp only [Act.put, List.setIfInBounds_toArray, List.set_cons_zero, List.set_cons_succ])
  refine wpAnyH_take (i := 9) (oi := ({ dst := some 21, op := Op.move (Operand.tmp 1), type := 3, pos := "ref.go:126", after := #[{ on := 4, ground := Ground.guard }], guard := some (4, false) } : Oper)) (v := ?_) rfl (by kernel_rfl) (by kernel_rfl) (by kernel_rfl) (fun _ _ _ h => h) (Or.inl ⟨by rfl, ?_⟩) (by assumption) ?_
  rotate_left
  · intro w hSw; (try dsimp only at hSw); go_simp <;> with_reducible rfl
  (try simp only [Act.put, List.setIfInBounds_toArray, List.set_cons_zero, List.set_cons_succ])
  refine wpAnyH_ready (rs := [10]) (by kernel_rfl) (by simp) ?_
  refine AllReadyH.cons (o := ({ dst := some 22, op := Op.call { callee := Callee.value (Operand.func 22), args := #[Operand.tmp 20, Operand.tmp 21], argTypes := #[3, 3] }, type := 50, pos := "ref.go:126", after := #[{ on := 8, ground := Ground.data }, { on := 9, ground := Ground.data }, { on := 4, ground := Ground.chain }, { on := 4, ground := Ground.guard }], guard := some (4, false) } : Oper)) rfl (fun K hK => ?_) ?_
  rotate_left
  · exact AllReadyH.nil
  go_simp
  go_at_call 22
  with_reducible refine (SL.out _).mono ?_
  rintro e y1 ⟨sp, sc, rfl, hq1⟩
  have hB1 := below_step hB0 hq1
  clear hHeld
  first | (with_reducible refine hK.out _ _ ?_ (fun hHeld => ?_)) | (go_wp2_with fail; with_reducible refine hK.out _ _ ?_ (fun hHeld => ?_))
  · exact ⟨cell_below hB1 X0, cell_below hB1 X1, cell_below hB1 X2, cell_below hB1 X3, hB1⟩
  clear hK K
  (try simp only [Act.put, List.setIfInBounds_toArray, List.set_cons_zero, List.set_cons_succ])
  refine wpAnyH_take (i := 11) (oi := ({ dst := some 23, op := Op.call { callee := Callee.builtin Builtin.len, args := #[Operand.tmp 22], argTypes := #[50] }, type := 3, pos := "ref.go:126", after := #[{ on := 10, ground := Ground.data }, { on := 4, ground := Ground.guard }], guard := some (4, false) } : Oper)) (v := ?_) rfl (by kernel_rfl) (by kernel_rfl) (by kernel_rfl) (fun _ _ _ h => h) (Or.inl ⟨by rfl, ?_⟩) (by assumption) ?_
  rotate_left
  · intro w hSw; (try dsimp only at hSw); go_simp <;> with_reducible rfl
  (try simp only [Act.put, List.setIfInBounds_toArray, List.set_cons_zero, List.set_cons_succ])
  refine wpAnyH_take (i := 12) (oi := ({ dst := some 24, op := Op.binOp BinOp.neq 3 (Operand.tmp 19) (Operand.tmp 23) 3, type := 4, pos := "ref.go:126", after := #[{ on := 7, ground := Ground.data }, { on := 11, ground := Ground.data }, { on := 4, ground := Ground.guard }], guard := some (4, false) } : Oper)) (v := ?_) rfl (by kernel_rfl) (by kernel_rfl) (by kernel_rfl) (fun _ _ _ h => h) (Or.inl ⟨by rfl, ?_⟩) (by assumption) ?_
  rotate_left
  · intro w hSw; (try dsimp only at hSw); go_simp <;> with_reducible rfl
  (try simp only [Act.put, List.setIfInBounds_toArray, List.set_cons_zero, List.set_cons_succ])
  refine wpAnyH_take (i := 13) (oi := ({ dst := some 25, op := Op.pick (Operand.tmp 16) (Operand.const (Value.bool true)) (Operand.tmp 24), type := 4, pos := "ref.go:126", after := #[{ on := 4, ground := Ground.data }, { on := 12, ground := Ground.data }], guard := none } : Oper)) (v := ?_) rfl (by kernel_rfl) (by kernel_rfl) (by kernel_rfl) (fun _ _ _ h => h) (Or.inl ⟨by rfl, ?_⟩) (by assumption) ?_
  rotate_left
  · intro w hSw; (try dsimp only at hSw); go_simp <;> with_reducible rfl
  (try simp only [Act.put, List.setIfInBounds_toArray, List.set_cons_zero, List.set_cons_succ])
  refine wpAnyH_take (i := 14) (oi := ({ dst := some 26, op := Op.move (Operand.tmp 25), type := 4, pos := "ref.go:126", after := #[{ on := 13, ground := Ground.data }, { on := 10, ground := Ground.chain }], guard := none } : Oper)) (v := ?_) rfl (by kernel_rfl) (by kernel_rfl) (by kernel_rfl) (fun _ _ _ h => h) (Or.inl ⟨by rfl, ?_⟩) (by assumption) ?_
  rotate_left
  · intro w hSw; (try dsimp only at hSw); go_simp <;> with_reducible rfl
  (try simp only [Act.put, List.setIfInBounds_toArray, List.set_cons_zero, List.set_cons_succ])
  refine wpAnyH_take (i := 15) (oi := ({ dst := some 27, op := Op.fieldAddr 25 (Operand.tmp 7) 1, type := 0, pos := "ref.go:126", after := #[{ on := 14, ground := Ground.guard }], guard := some (14, false) } : Oper)) (v := ?_) rfl (by kernel_rfl) (by kernel_rfl) (by kernel_rfl) (fun _ _ _ h => h) (Or.inl ⟨by rfl, ?_⟩) (by assumption) ?_
  rotate_left
  · intro w hSw; (try dsimp only at hSw); go_simp <;> with_reducible rfl
  (try simp only [Act.put, List.setIfInBounds_toArray, List.set_cons_zero, List.set_cons_succ])
  refine wpAnyH_take (i := 16) (oi := ({ dst := some 28, op := Op.load 22 (Operand.tmp 27), type := 22, pos := "ref.go:126", after := #[{ on := 15, ground := Ground.data }, { on := 14, ground := Ground.guard }], guard := some (14, false) } : Oper)) (v := ?_) rfl (by kernel_rfl) (by kernel_rfl) (by kernel_rfl) (fun _ _ _ h => h) (Or.inl ⟨by rfl, ?_⟩) (by assumption) ?_
  rotate_left
  · intro w hSw; (try dsimp only at hSw); go_simp <;> with_reducible rfl
  (try simp only [Act.put, List.setIfInBounds_toArray, List.set_cons_zero, List.set_cons_succ])
  refine wpAnyH_take (i := 17) (oi := ({ dst := some 29, op := Op.call { callee := Callee.builtin Builtin.len, args := #[Operand.tmp 28], argTypes := #[22] }, type := 3, pos := "ref.go:126", after := #[{ on := 16, ground := Ground.data }, { on := 14, ground := Ground.guard }], guard := some (14, false) } : Oper)) (v := ?_) rfl (by kernel_rfl) (by kernel_rfl) (by kernel_rfl) (fun _ _ _ h => h) (Or.inl ⟨by rfl, ?_⟩) (by assumption) ?_
  rotate_left
  · intro w hSw; (try dsimp only at hSw); go_simp <;> with_reducible rfl
  (try simp only [Act.put, List.setIfInBounds_toArray, List.set_cons_zero, List.set_cons_succ])
  refine wpAnyH_take (i := 18) (oi := ({ dst := some 30, op := Op.fieldAddr 25 (Operand.tmp 6) 1, type := 0, pos := "ref.go:126", after := #[{ on := 14, ground := Ground.guard }], guard := some (14, false) } : Oper)) (v := ?_) rfl (by kernel_rfl) (by kernel_rfl) (by kernel_rfl) (fun _ _ _ h => h) (Or.inl ⟨by rfl, ?_⟩) (by assumption) ?_
  rotate_left
  · intro w hSw; (try dsimp only at hSw); go_simp <;> with_reducible rfl
  (try simp only [Act.put, List.setIfInBounds_toArray, List.set_cons_zero, List.set_cons_succ])
  refine wpAnyH_take (i := 19) (oi := ({ dst := some 31, op := Op.load 22 (Operand.tmp 30), type := 22, pos := "ref.go:126", after := #[{ on := 18, ground := Ground.data }, { on := 14, ground := Ground.guard }], guard := some (14, false) } : Oper)) (v := ?_) rfl (by kernel_rfl) (by kernel_rfl) (by kernel_rfl) (fun _ _ _ h => h) (Or.inl ⟨by rfl, ?_⟩) (by assumption) ?_
  rotate_left
  · intro w hSw; (try dsimp only at hSw); go_simp <;> with_reducible rfl
  (try simp only [Act.put, List.setIfInBounds_toArray, List.set_cons_zero, List.set_cons_succ])
  refine wpAnyH_take (i := 20) (oi := ({ dst := some 32, op := Op.call { callee := Callee.builtin Builtin.len, args := #[Operand.tmp 31], argTypes := #[22] }, type := 3, pos := "ref.go:126", after := #[{ on := 19, ground := Ground.data }, { on := 14, ground := Ground.guard }], guard := some (14, false) } : Oper)) (v := ?_) rfl (by kernel_rfl) (by kernel_rfl) (by kernel_rfl) (fun _ _ _ h => h) (Or.inl ⟨by rfl, ?_⟩) (by assumption) ?_
  rotate_left
  · intro w hSw; (try dsimp only at hSw); go_simp <;> with_reducible rfl
  (try simp only [Act.put, List.setIfInBounds_toArray, List.set_cons_zero, List.set_cons_succ])
  refine wpAnyH_take (i := 21) (oi := ({ dst := some 33, op := Op.binOp BinOp.neq 3 (Operand.tmp 29) (Operand.tmp 32) 3, type := 4, pos := "ref.go:126", after := #[{ on := 17, ground := Ground.data }, { on := 20, ground := Ground.data }, { on := 14, ground := Ground.guard }], guard := some (14, false) } : Oper)) (v := ?_) rfl (by kernel_rfl) (by kernel_rfl) (by kernel_rfl) (fun _ _ _ h => h) (Or.inl ⟨by rfl, ?_⟩) (by assumption) ?_
  rotate_left
  · intro w hSw; (try dsimp only at hSw); go_simp <;> with_reducible rfl
  (try simp only [Act.put, List.setIfInBounds_toArray, List.set_cons_zero, List.set_cons_succ])
  refine wpAnyH_take (i := 22) (oi := ({ dst := some 34, op := Op.pick (Operand.tmp 26) (Operand.const (Value.bool true)) (Operand.tmp 33), type := 4, pos := "ref.go:126", after := #[{ on := 14, ground := Ground.data }, { on := 21, ground := Ground.data }], guard := none } : Oper)) (v := ?_) rfl (by kernel_rfl) (by kernel_rfl) (by kernel_rfl) (fun _ _ _ h => h) (Or.inl ⟨by rfl, ?_⟩) (by assumption) ?_
  rotate_left
  · intro w hSw; (try dsimp only at hSw); go_simp <;> with_reducible rfl
  (try simp only [Act.put, List.setIfInBounds_toArray, List.set_cons_zero, List.set_cons_succ])
  refine wpAnyH_done (by kernel_rfl) ?_ _
  have BB := hid hB1
  clear hHeld
  obtain ⟨w1, hw1⟩ : ∃ x, y1 = x := ⟨_, rfl⟩
  rw [hw1] at BB ⊢
  clear hsd hB0 hB1 hq0 hq1 hw1
  have Z0 := cell_below BB.out X0
  have Z1 := cell_below BB.out X1
  have Z2 := cell_below BB.out X2
  have Z3 := cell_below BB.out X3
  have BB1 := hid (below_step B0.out BB.out)
  go_upto_region 3 with fail
  have hsd := (Below.refl w1.heap.size w1).drew
  refine wp_region_held_drew (S := fun W' => (W'.cell? ⟨w.heap.size, 0, none⟩ = some (.int .u64 (lp.toNat : Int)) ∧ W'.cell? ⟨w.heap.size, 1, none⟩ = some (.slice pa a pc) ∧ W'.cell? ⟨w.heap.size + 1, 0, none⟩ = some (.int .u64 (lq.toNat : Int)) ∧ W'.cell? ⟨w.heap.size + 1, 1, none⟩ = some (.slice qa a qc) ∧ Below w1.heap.size w1 W')) (by kernel_rfl) ?_ (fun hHeld => ?_)
  · exact ⟨Z0, Z1, Z2, Z3, hsd⟩
  refine wpAnyH_take (i := 0) (oi := ({ dst := some 36, op := Op.move (Operand.tmp 0), type := 3, pos := "ref.go:129", after := #[], guard := none } : Oper)) (v := ?_) rfl (by kernel_rfl) (by kernel_rfl) (by kernel_rfl) (fun _ _ _ h => h) (Or.inl ⟨by rfl, ?_⟩) (by assumption) ?_
  rotate_left
  · intro w hSw; (try dsimp only at hSw); go_simp <;> with_reducible rfl
  (try simp only [Act.put, List.setIfInBounds_toArray, List.set_cons_zero, List.set_cons_succ])
  refine wpAnyH_take (i := 1) (oi := ({ dst := some 37, op := Op.move (Operand.tmp 1), type := 3, pos := "ref.go:129", after := #[], guard := none } : Oper)) (v := ?_) rfl (by kernel_rfl) (by kernel_rfl) (by kernel_rfl) (fun _ _ _ h => h) (Or.inl ⟨by rfl, ?_⟩) (by assumption) ?_
  rotate_left
  · intro w hSw; (try dsimp only at hSw); go_simp <;> with_reducible rfl
  (try simp only [Act.put, List.setIfInBounds_toArray, List.set_cons_zero, List.set_cons_succ])
  refine wpAnyH_take (i := 2) (oi := ({ dst := some 38, op := Op.load 25 (Operand.tmp 6), type := 25, pos := "ref.go:129", after := #[], guard := none } : Oper)) (v := ?_) rfl (by kernel_rfl) (by kernel_rfl) (by kernel_rfl) (fun _ _ _ h => h) (Or.inl ⟨by rfl, ?_⟩) (by assumption) ?_
  rotate_left
  · intro w hSw; (try dsimp only at hSw); go_simp <;> with_reducible rfl
  (try simp only [Act.put, List.setIfInBounds_toArray, List.set_cons_zero, List.set_cons_succ])
  refine wpAnyH_take (i := 4) (oi := ({ dst := some 40, op := Op.move (Operand.tmp 0), type := 3, pos := "ref.go:129", after := #[], guard := none } : Oper)) (v := ?_) rfl (by kernel_rfl) (by kernel_rfl) (by kernel_rfl) (fun _ _ _ h => h) (Or.inl ⟨by rfl, ?_⟩) (by assumption) ?_
  rotate_left
  · intro w hSw; (try dsimp only at hSw); go_simp <;> with_reducible rfl
  (try simp only [Act.put, List.setIfInBounds_toArray, List.set_cons_zero, List.set_cons_succ])
  refine wpAnyH_take (i := 5) (oi := ({ dst := some 41, op := Op.move (Operand.tmp 1), type := 3, pos := "ref.go:129", after := #[], guard := none } : Oper)) (v := ?_) rfl (by kernel_rfl) (by kernel_rfl) (by kernel_rfl) (fun _ _ _ h => h) (Or.inl ⟨by rfl, ?_⟩) (by assumption) ?_
  rotate_left
  · intro w hSw; (try dsimp only at hSw); go_simp <;> with_reducible rfl
  (try simp only [Act.put, List.setIfInBounds_toArray, List.set_cons_zero, List.set_cons_succ])
  refine wpAnyH_take (i := 6) (oi := ({ dst := some 42, op := Op.load 25 (Operand.tmp 7), type := 25, pos := "ref.go:129", after := #[], guard := none } : Oper)) (v := ?_) rfl (by kernel_rfl) (by kernel_rfl) (by kernel_rfl) (fun _ _ _ h => h) (Or.inl ⟨by rfl, ?_⟩) (by assumption) ?_
  rotate_left
  · intro w hSw; (try dsimp only at hSw); go_simp <;> with_reducible rfl
  (try simp only [Act.put, List.setIfInBounds_toArray, List.set_cons_zero, List.set_cons_succ])
  refine wpAnyH_ready (rs := [3]) (by kernel_rfl) (by simp) ?_
  refine AllReadyH.cons (o := ({ dst := some 39, op := Op.call { callee := Callee.value (Operand.func 23), args := #[Operand.tmp 36, Operand.tmp 37, Operand.tmp 38], argTypes := #[3, 3, 25] }, type := 52, pos := "ref.go:129", after := #[{ on := 0, ground := Ground.data }, { on := 1, ground := Ground.data }, { on := 2, ground := Ground.data }], guard := none } : Oper)) rfl (fun K hK => ?_) ?_
  rotate_left
  · exact AllReadyH.nil
  go_simp
  go_at_call 23
  with_reducible refine (PA.out _ (below_step BB1.out hsd)).mono ?_
  rintro e y0 ⟨ga, ca, rfl, hown1, hq0⟩
  have hB0 := below_step hsd hq0
  clear hHeld
  first | (with_reducible refine hK.out _ _ ?_ (fun hHeld => ?_)) | (go_wp2_with fail; with_reducible refine hK.out _ _ ?_ (fun hHeld => ?_))
  · exact ⟨cell_below hB0 Z0, cell_below hB0 Z1, cell_below hB0 Z2, cell_below hB0 Z3, hB0⟩
  clear hK K
  (try simp only [Act.put, List.setIfInBounds_toArray, List.set_cons_zero, List.set_cons_succ])
  refine wpAnyH_ready (rs := [7]) (by kernel_rfl) (by simp) ?_
  refine AllReadyH.cons (o := ({ dst := some 43, op := Op.call { callee := Callee.value (Operand.func 23), args := #[Operand.tmp 40, Operand.tmp 41, Operand.tmp 42], argTypes := #[3, 3, 25] }, type := 52, pos := "ref.go:129", after := #[{ on := 4, ground := Ground.data }, { on := 5, ground := Ground.data }, { on := 6, ground := Ground.data }, { on := 3, ground := Ground.chain }], guard := none } : Oper)) rfl (fun K hK => ?_) ?_
  rotate_left
  · exact AllReadyH.nil
  go_simp
  go_at_call 23
  with_reducible refine (PB.out _ (below_step BB1.out hB0)).mono ?_
  rintro e y1 ⟨gb, cb, rfl, hown2, hq1⟩
  have hB1 := below_step hB0 hq1
  clear hHeld
  first | (with_reducible refine hK.out _ _ ?_ (fun hHeld => ?_)) | (go_wp2_with fail; with_reducible refine hK.out _ _ ?_ (fun hHeld => ?_))
  · exact ⟨cell_below hB1 Z0, cell_below hB1 Z1, cell_below hB1 Z2, cell_below hB1 Z3, hB1⟩
  clear hK K
  (try simp only [Act.put, List.setIfInBounds_toArray, List.set_cons_zero, List.set_cons_succ])
  refine wpAnyH_take (i := 8) (oi := ({ dst := some 9, op := Op.assign (Operand.tmp 39), type := 52, pos := "ref.go:129", after := #[{ on := 3, ground := Ground.data }, { on := 7, ground := Ground.chain }, { on := 0, ground := Ground.phase }, { on := 1, ground := Ground.phase }, { on := 2, ground := Ground.phase }, { on := 3, ground := Ground.phase }, { on := 4, ground := Ground.textOnly Departure.lateStores }, { on := 5, ground := Ground.textOnly Departure.lateStores }, { on := 6, ground := Ground.textOnly Departure.lateStores }, { on := 7, ground := Ground.textOnly Departure.lateStoresUnsure }], guard := none } : Oper)) (v := ?_) rfl (by kernel_rfl) (by kernel_rfl) (by kernel_rfl) (fun _ _ _ h => h) (Or.inl ⟨by rfl, ?_⟩) (by assumption) ?_
  rotate_left
  · intro w hSw; (try dsimp only at hSw); go_simp <;> with_reducible rfl
  (try simp only [Act.put, List.setIfInBounds_toArray, List.set_cons_zero, List.set_cons_succ])
  refine wpAnyH_take (i := 9) (oi := ({ dst := some 10, op := Op.assign (Operand.tmp 43), type := 52, pos := "ref.go:129", after := #[{ on := 7, ground := Ground.data }, { on := 8, ground := Ground.chain }, { on := 0, ground := Ground.phase }, { on := 1, ground := Ground.phase }, { on := 2, ground := Ground.phase }, { on := 3, ground := Ground.phase }, { on := 4, ground := Ground.phase }, { on := 5, ground := Ground.phase }, { on := 6, ground := Ground.phase }, { on := 7, ground := Ground.phase }, { on := 8, ground := Ground.phase }], guard := none } : Oper)) (v := ?_) rfl (by kernel_rfl) (by kernel_rfl) (by kernel_rfl) (fun _ _ _ h => h) (Or.inl ⟨by rfl, ?_⟩) (by assumption) ?_
  rotate_left
  · intro w hSw; (try dsimp only at hSw); go_simp <;> with_reducible rfl
  (try simp only [Act.put, List.setIfInBounds_toArray, List.set_cons_zero, List.set_cons_succ])
  refine wpAnyH_done (by kernel_rfl) ?_ _
  have hown1' := own_belowM hown1 hq1
  have hga : ¬ ga = w.heap.size + 1 + 1 := by
    obtain ⟨_, _, h, _⟩ := own_block hown1
    have h2 := BB.out.size
    have h3 := hsd.size
    have := HZ.out
    omega
  have hgb : ¬ gb = w.heap.size + 1 + 1 := by
    obtain ⟨_, _, h, _⟩ := own_block hown2
    have h2 := BB.out.size
    have h3 := hB0.size
    have := HZ.out
    omega
  have BX := hid (below_step BB.out hB1)
  clear BB
  have BB := BX
  clear BX
  clear hHeld hsd hB0 hB1 hq0 hq1 hown1 Z0 Z1 Z2 Z3 BB1 PL SL PA PB X0 X1 X2 X3
  obtain ⟨wp, hwp⟩ : ∃ x, y1 = x := ⟨_, rfl⟩
  rw [hwp] at BB hown1' hown2 ⊢
  clear hwp
  rw [← LA.out] at hown1'
  rw [← LB.out] at hown2
  obtain ⟨a1, a2, ra, a3, a4, a5⟩ := row_cells hown1'
  obtain ⟨b1, b2, rb, b3, b4, b5⟩ := row_cells hown2
  have CA := hid (fun (V : World) (hV : Below wp.heap.size wp V) (j : Nat) (y : Pair) (hj : j < a + 1 + 1) (hy : FA[j]? = some y) => show V.cell? ⟨ga, j * 2, none⟩ = some (.int .u64 (y.1.toNat : Int)) ∧ V.cell? ⟨ga, j * 2 + 1, none⟩ = some (.int .u64 (y.2.toNat : Int)) from by rw [Nat.mul_comm j 2]; exact a5 V j y ((hV.block ga a4).trans a3) (by rw [LA.out]; exact hj) hy)
  have CB := hid (fun (V : World) (hV : Below wp.heap.size wp V) (j : Nat) (y : Pair) (hj : j < a + 1 + 1) (hy : FB[j]? = some y) => show V.cell? ⟨gb, j * 2, none⟩ = some (.int .u64 (y.1.toNat : Int)) ∧ V.cell? ⟨gb, j * 2 + 1, none⟩ = some (.int .u64 (y.2.toNat : Int)) from by rw [Nat.mul_comm j 2]; exact b5 V j y ((hV.block gb b4).trans b3) (by rw [LB.out]; exact hj) hy)
  rw [LA.out] at a1
  rw [LB.out] at b1
  clear hown1' hown2 a3 a4 a5 b3 b4 b5
  go_wp2_with fail
  go_loopw [11] (fun vi wr => ∃ k : Nat, k ≤ a + 1 + 1 ∧ vi = .int .i64 (k : Int) ∧ Hid (((FA.zip FB).take k).find? hits = none) ∧ Hid (Below wp.heap.size wp wr)) (fun vi _ => a + 3 - (intOf vi).toNat)
  case atStart => exact ⟨0, by omega, rfl, hid rfl, hid (Below.refl _ _)⟩
  case round =>
    obtain ⟨k, hk, rfl, FN0, BR⟩ := hrel
    by_cases hlt : k < a + 1 + 1
    · obtain ⟨⟨x1, x2⟩, hxa⟩ : ∃ p, FA[k]? = some p := ⟨_, List.getElem?_eq_getElem (by have := LA.out; omega)⟩
      obtain ⟨⟨z1, z2⟩, hxb⟩ : ∃ p, FB[k]? = some p := ⟨_, List.getElem?_eq_getElem (by have := LB.out; omega)⟩
      have hzz : (FA.zip FB)[k]? = some ((x1, x2), (z1, z2)) := by rw [List.getElem?_zip_eq_some]; exact ⟨hxa, hxb⟩
      have FS := hid (find_step hits (FA.zip FB) k _ hzz FN0.out)
      obtain ⟨c1, c2⟩ := CA.out wr BR.out k _ hlt hxa
      obtain ⟨c3, c4⟩ := CB.out wr BR.out k _ hlt hxb
      have J1 := hid (fun W => rjoin_b x1 x2 W)
      have J2 := hid (fun W => rjoin_b z1 z2 W)
      have hlti : (k : Int) < (a : Int) + 1 + 1 := by omega
      clear hxa hxb hzz FN0
      by_cases hpe : ((x1, x2) : Pair) = (z1, z2)
      · obtain ⟨rfl, rfl⟩ := Prod.mk.inj hpe
        have FN := hid (FS.out.2 (by simp [hits]))
        clear FS hpe
        go_upto_region 7 with fail
        have hsd := (Below.refl wr.heap.size wr).drew
        refine wp_region_held_drew (S := fun W' => (W'.cell? ⟨ga, k * 2, none⟩ = some (.int .u64 (x1.toNat : Int)) ∧ W'.cell? ⟨ga, k * 2 + 1, none⟩ = some (.int .u64 (x2.toNat : Int)) ∧ W'.cell? ⟨gb, k * 2, none⟩ = some (.int .u64 (x1.toNat : Int)) ∧ W'.cell? ⟨gb, k * 2 + 1, none⟩ = some (.int .u64 (x2.toNat : Int)) ∧ Below wr.heap.size wr W')) (by kernel_rfl) ?_ (fun hHeld => ?_)
        · exact ⟨c1, c2, c3, c4, hsd⟩
        refine wpAnyH_take (i := 0) (oi := ({ dst := some 50, op := Op.move (Operand.tmp 9), type := 52, pos := "ref.go:131", after := #[], guard := none } : Oper)) (v := ?_) rfl (by kernel_rfl) (by kernel_rfl) (by kernel_rfl) (fun _ _ _ h => h) (Or.inl ⟨by rfl, ?_⟩) (by assumption) ?_
        rotate_left
        · intro w hSw; (try dsimp only at hSw); go_simp <;> with_reducible rfl
        (try simp only [Act.put, List.setIfInBounds_toArray, List.set_cons_zero, List.set_cons_succ])
        refine wpAnyH_take (i := 1) (oi := ({ dst := some 51, op := Op.move (Operand.tmp 11), type := 3, pos := "ref.go:131", after := #[], guard := none } : Oper)) (v := ?_) rfl (by kernel_rfl) (by kernel_rfl) (by kernel_rfl) (fun _ _ _ h => h) (Or.inl ⟨by rfl, ?_⟩) (by assumption) ?_
        rotate_left
        · intro w hSw; (try dsimp only at hSw); go_simp <;> with_reducible rfl
        (try simp only [Act.put, List.setIfInBounds_toArray, List.set_cons_zero, List.set_cons_succ])
        refine wpAnyH_take (i := 2) (oi := ({ dst := some 52, op := Op.indexAddr 52 (Operand.tmp 50) (Operand.tmp 51), type := 0, pos := "ref.go:131", after := #[{ on := 0, ground := Ground.data }, { on := 1, ground := Ground.data }], guard := none } : Oper)) (v := ?_) rfl (by kernel_rfl) (by kernel_rfl) (by kernel_rfl) (fun _ _ _ h => h) (Or.inl ⟨by rfl, ?_⟩) (by assumption) ?_
        rotate_left
        · intro w hSw; (try dsimp only at hSw); go_simp <;> with_reducible rfl
        (try simp only [Act.put, List.setIfInBounds_toArray, List.set_cons_zero, List.set_cons_succ])
        refine wpAnyH_take (i := 3) (oi := ({ dst := some 53, op := Op.load 36 (Operand.tmp 52), type := 36, pos := "ref.go:131", after := #[{ on := 2, ground := Ground.data }], guard := none } : Oper)) (v := ?_) rfl (by kernel_rfl) (by kernel_rfl) (by kernel_rfl) (fun _ _ _ h => h) (Or.inl ⟨by rfl, ?_⟩) (by assumption) ?_
        rotate_left
        · intro w hSw; (try dsimp only at hSw); go_simp <;> with_reducible rfl
        (try simp only [Act.put, List.setIfInBounds_toArray, List.set_cons_zero, List.set_cons_succ])
        refine wpAnyH_take (i := 4) (oi := ({ dst := some 54, op := Op.move (Operand.tmp 10), type := 52, pos := "ref.go:131", after := #[], guard := none } : Oper)) (v := ?_) rfl (by kernel_rfl) (by kernel_rfl) (by kernel_rfl) (fun _ _ _ h => h) (Or.inl ⟨by rfl, ?_⟩) (by assumption) ?_
        rotate_left
        · intro w hSw; (try dsimp only at hSw); go_simp <;> with_reducible rfl
        (try simp only [Act.put, List.setIfInBounds_toArray, List.set_cons_zero, List.set_cons_succ])
        refine wpAnyH_take (i := 5) (oi := ({ dst := some 55, op := Op.move (Operand.tmp 11), type := 3, pos := "ref.go:131", after := #[], guard := none } : Oper)) (v := ?_) rfl (by kernel_rfl) (by kernel_rfl) (by kernel_rfl) (fun _ _ _ h => h) (Or.inl ⟨by rfl, ?_⟩) (by assumption) ?_
        rotate_left
        · intro w hSw; (try dsimp only at hSw); go_simp <;> with_reducible rfl
        (try simp only [Act.put, List.setIfInBounds_toArray, List.set_cons_zero, List.set_cons_succ])
        refine wpAnyH_take (i := 6) (oi := ({ dst := some 56, op := Op.indexAddr 52 (Operand.tmp 54) (Operand.tmp 55), type := 0, pos := "ref.go:131", after := #[{ on := 4, ground := Ground.data }, { on := 5, ground := Ground.data }], guard := none } : Oper)) (v := ?_) rfl (by kernel_rfl) (by kernel_rfl) (by kernel_rfl) (fun _ _ _ h => h) (Or.inl ⟨by rfl, ?_⟩) (by assumption) ?_
        rotate_left
        · intro w hSw; (try dsimp only at hSw); go_simp <;> with_reducible rfl
        (try simp only [Act.put, List.setIfInBounds_toArray, List.set_cons_zero, List.set_cons_succ])
        refine wpAnyH_take (i := 7) (oi := ({ dst := some 57, op := Op.load 36 (Operand.tmp 56), type := 36, pos := "ref.go:131", after := #[{ on := 6, ground := Ground.data }], guard := none } : Oper)) (v := ?_) rfl (by kernel_rfl) (by kernel_rfl) (by kernel_rfl) (fun _ _ _ h => h) (Or.inl ⟨by rfl, ?_⟩) (by assumption) ?_
        rotate_left
        · intro w hSw; (try dsimp only at hSw); go_simp <;> with_reducible rfl
        (try simp only [Act.put, List.setIfInBounds_toArray, List.set_cons_zero, List.set_cons_succ])
        refine wpAnyH_take (i := 8) (oi := ({ dst := some 58, op := Op.binOp BinOp.neq 36 (Operand.tmp 53) (Operand.tmp 57) 36, type := 4, pos := "ref.go:131", after := #[{ on := 3, ground := Ground.data }, { on := 7, ground := Ground.data }], guard := none } : Oper)) (v := ?_) rfl (by kernel_rfl) (by kernel_rfl) (by kernel_rfl) (fun _ _ _ h => h) (Or.inl ⟨by rfl, ?_⟩) (by assumption) ?_
        rotate_left
        · intro w hSw; (try dsimp only at hSw); go_simp <;> with_reducible rfl
        (try simp only [Act.put, List.setIfInBounds_toArray, List.set_cons_zero, List.set_cons_succ])
        refine wpAnyH_take (i := 9) (oi := ({ dst := some 59, op := Op.move (Operand.tmp 58), type := 4, pos := "ref.go:131", after := #[{ on := 8, ground := Ground.data }], guard := none } : Oper)) (v := ?_) rfl (by kernel_rfl) (by kernel_rfl) (by kernel_rfl) (fun _ _ _ h => h) (Or.inl ⟨by rfl, ?_⟩) (by assumption) ?_
        rotate_left
        · intro w hSw; (try dsimp only at hSw); go_simp <;> with_reducible rfl
        (try simp only [Act.put, List.setIfInBounds_toArray, List.set_cons_zero, List.set_cons_succ])
        refine wpAnyH_take (i := 10) (oi := ({ dst := some 60, op := Op.move (Operand.tmp 9), type := 52, pos := "ref.go:131", after := #[{ on := 9, ground := Ground.guard }], guard := some (9, true) } : Oper)) (v := undef) rfl (by kernel_rfl) (by kernel_rfl) (by kernel_rfl) (fun _ _ _ h => h) (Or.inr ⟨by rfl, rfl⟩) (by assumption) ?_
        (try simp only [Act.put, List.setIfInBounds_toArray, List.set_cons_zero, List.set_cons_succ])
        refine wpAnyH_take (i := 11) (oi := ({ dst := some 61, op := Op.move (Operand.tmp 11), type := 3, pos := "ref.go:131", after := #[{ on := 9, ground := Ground.guard }], guard := some (9, true) } : Oper)) (v := undef) rfl (by kernel_rfl) (by kernel_rfl) (by kernel_rfl) (fun _ _ _ h => h) (Or.inr ⟨by rfl, rfl⟩) (by assumption) ?_
        (try simp only [Act.put, List.setIfInBounds_toArray, List.set_cons_zero, List.set_cons_succ])
        refine wpAnyH_take (i := 12) (oi := ({ dst := some 62, op := Op.indexAddr 52 (Operand.tmp 60) (Operand.tmp 61), type := 0, pos := "ref.go:131", after := #[{ on := 10, ground := Ground.data }, { on := 11, ground := Ground.data }, { on := 9, ground := Ground.guard }], guard := some (9, true) } : Oper)) (v := undef) rfl (by kernel_rfl) (by kernel_rfl) (by kernel_rfl) (fun _ _ _ h => h) (Or.inr ⟨by rfl, rfl⟩) (by assumption) ?_
        (try simp only [Act.put, List.setIfInBounds_toArray, List.set_cons_zero, List.set_cons_succ])
        refine wpAnyH_take (i := 13) (oi := ({ dst := some 63, op := Op.indexAddr 36 (Operand.tmp 62) (Operand.const (Value.int IntKind.i64 0)), type := 0, pos := "ref.go:131", after := #[{ on := 12, ground := Ground.data }, { on := 9, ground := Ground.guard }], guard := some (9, true) } : Oper)) (v := undef) rfl (by kernel_rfl) (by kernel_rfl) (by kernel_rfl) (fun _ _ _ h => h) (Or.inr ⟨by rfl, rfl⟩) (by assumption) ?_
        (try simp only [Act.put, List.setIfInBounds_toArray, List.set_cons_zero, List.set_cons_succ])
        refine wpAnyH_take (i := 14) (oi := ({ dst := some 64, op := Op.load 23 (Operand.tmp 63), type := 23, pos := "ref.go:131", after := #[{ on := 13, ground := Ground.data }, { on := 9, ground := Ground.guard }], guard := some (9, true) } : Oper)) (v := undef) rfl (by kernel_rfl) (by kernel_rfl) (by kernel_rfl) (fun _ _ _ h => h) (Or.inr ⟨by rfl, rfl⟩) (by assumption) ?_
        (try simp only [Act.put, List.setIfInBounds_toArray, List.set_cons_zero, List.set_cons_succ])
        refine wpAnyH_take (i := 15) (oi := ({ dst := some 65, op := Op.move (Operand.tmp 9), type := 52, pos := "ref.go:131", after := #[{ on := 9, ground := Ground.guard }], guard := some (9, true) } : Oper)) (v := undef) rfl (by kernel_rfl) (by kernel_rfl) (by kernel_rfl) (fun _ _ _ h => h) (Or.inr ⟨by rfl, rfl⟩) (by assumption) ?_
        (try simp only [Act.put, List.setIfInBounds_toArray, List.set_cons_zero, List.set_cons_succ])
        refine wpAnyH_take (i := 16) (oi := ({ dst := some 66, op := Op.move (Operand.tmp 11), type := 3, pos := "ref.go:131", after := #[{ on := 9, ground := Ground.guard }], guard := some (9, true) } : Oper)) (v := undef) rfl (by kernel_rfl) (by kernel_rfl) (by kernel_rfl) (fun _ _ _ h => h) (Or.inr ⟨by rfl, rfl⟩) (by assumption) ?_
        (try simp only [Act.put, List.setIfInBounds_toArray, List.set_cons_zero, List.set_cons_succ])
        refine wpAnyH_take (i := 17) (oi := ({ dst := some 67, op := Op.indexAddr 52 (Operand.tmp 65) (Operand.tmp 66), type := 0, pos := "ref.go:131", after := #[{ on := 15, ground := Ground.data }, { on := 16, ground := Ground.data }, { on := 9, ground := Ground.guard }], guard := some (9, true) } : Oper)) (v := undef) rfl (by kernel_rfl) (by kernel_rfl) (by kernel_rfl) (fun _ _ _ h => h) (Or.inr ⟨by rfl, rfl⟩) (by assumption) ?_
        (try simp only [Act.put, List.setIfInBounds_toArray, List.set_cons_zero, List.set_cons_succ])
        refine wpAnyH_take (i := 18) (oi := ({ dst := some 68, op := Op.indexAddr 36 (Operand.tmp 67) (Operand.const (Value.int IntKind.i64 1)), type := 0, pos := "ref.go:131", after := #[{ on := 17, ground := Ground.data }, { on := 9, ground := Ground.guard }], guard := some (9, true) } : Oper)) (v := undef) rfl (by kernel_rfl) (by kernel_rfl) (by kernel_rfl) (fun _ _ _ h => h) (Or.inr ⟨by rfl, rfl⟩) (by assumption) ?_
        (try simp only [Act.put, List.setIfInBounds_toArray, List.set_cons_zero, List.set_cons_succ])
        refine wpAnyH_take (i := 19) (oi := ({ dst := some 69, op := Op.load 23 (Operand.tmp 68), type := 23, pos := "ref.go:131", after := #[{ on := 18, ground := Ground.data }, { on := 9, ground := Ground.guard }], guard := some (9, true) } : Oper)) (v := undef) rfl (by kernel_rfl) (by kernel_rfl) (by kernel_rfl) (fun _ _ _ h => h) (Or.inr ⟨by rfl, rfl⟩) (by assumption) ?_
        (try simp only [Act.put, List.setIfInBounds_toArray, List.set_cons_zero, List.set_cons_succ])
        refine wpAnyH_take (i := 20) (oi := ({ dst := some 70, op := Op.call { callee := Callee.value (Operand.func 18), args := #[Operand.tmp 64, Operand.tmp 69], argTypes := #[23, 23] }, type := 23, pos := "ref.go:131", after := #[{ on := 14, ground := Ground.data }, { on := 19, ground := Ground.data }, { on := 9, ground := Ground.chain }, { on := 9, ground := Ground.guard }], guard := some (9, true) } : Oper)) (v := undef) rfl (by kernel_rfl) (by kernel_rfl) (by kernel_rfl) (fun _ _ _ h => h) (Or.inr ⟨by rfl, rfl⟩) (by assumption) ?_
        (try simp only [Act.put, List.setIfInBounds_toArray, List.set_cons_zero, List.set_cons_succ])
        refine wpAnyH_take (i := 21) (oi := ({ dst := some 71, op := Op.move (Operand.tmp 10), type := 52, pos := "ref.go:131", after := #[{ on := 9, ground := Ground.guard }], guard := some (9, true) } : Oper)) (v := undef) rfl (by kernel_rfl) (by kernel_rfl) (by kernel_rfl) (fun _ _ _ h => h) (Or.inr ⟨by rfl, rfl⟩) (by assumption) ?_
        (try simp only [Act.put, List.setIfInBounds_toArray, List.set_cons_zero, List.set_cons_succ])
        refine wpAnyH_take (i := 22) (oi := ({ dst := some 72, op := Op.move (Operand.tmp 11), type := 3, pos := "ref.go:131", after := #[{ on := 9, ground := Ground.guard }], guard := some (9, true) } : Oper)) (v := undef) rfl (by kernel_rfl) (by kernel_rfl) (by kernel_rfl) (fun _ _ _ h => h) (Or.inr ⟨by rfl, rfl⟩) (by assumption) ?_
        (try simp only [Act.put, List.setIfInBounds_toArray, List.set_cons_zero, List.set_cons_succ])
        refine wpAnyH_take (i := 23) (oi := ({ dst := some 73, op := Op.indexAddr 52 (Operand.tmp 71) (Operand.tmp 72), type := 0, pos := "ref.go:131", after := #[{ on := 21, ground := Ground.data }, { on := 22, ground := Ground.data }, { on := 9, ground := Ground.guard }], guard := some (9, true) } : Oper)) (v := undef) rfl (by kernel_rfl) (by kernel_rfl) (by kernel_rfl) (fun _ _ _ h => h) (Or.inr ⟨by rfl, rfl⟩) (by assumption) ?_
        (try simp only [Act.put, List.setIfInBounds_toArray, List.set_cons_zero, List.set_cons_succ])
        refine wpAnyH_take (i := 24) (oi := ({ dst := some 74, op := Op.indexAddr 36 (Operand.tmp 73) (Operand.const (Value.int IntKind.i64 0)), type := 0, pos := "ref.go:131", after := #[{ on := 23, ground := Ground.data }, { on := 9, ground := Ground.guard }], guard := some (9, true) } : Oper)) (v := undef) rfl (by kernel_rfl) (by kernel_rfl) (by kernel_rfl) (fun _ _ _ h => h) (Or.inr ⟨by rfl, rfl⟩) (by assumption) ?_
        (try simp only [Act.put, List.setIfInBounds_toArray, List.set_cons_zero, List.set_cons_succ])
        refine wpAnyH_take (i := 25) (oi := ({ dst := some 75, op := Op.load 23 (Operand.tmp 74), type := 23, pos := "ref.go:131", after := #[{ on := 24, ground := Ground.data }, { on := 9, ground := Ground.guard }], guard := some (9, true) } : Oper)) (v := undef) rfl (by kernel_rfl) (by kernel_rfl) (by kernel_rfl) (fun _ _ _ h => h) (Or.inr ⟨by rfl, rfl⟩) (by assumption) ?_
        (try simp only [Act.put, List.setIfInBounds_toArray, List.set_cons_zero, List.set_cons_succ])
        refine wpAnyH_take (i := 26) (oi := ({ dst := some 76, op := Op.move (Operand.tmp 10), type := 52, pos := "ref.go:131", after := #[{ on := 9, ground := Ground.guard }], guard := some (9, true) } : Oper)) (v := undef) rfl (by kernel_rfl) (by kernel_rfl) (by kernel_rfl) (fun _ _ _ h => h) (Or.inr ⟨by rfl, rfl⟩) (by assumption) ?_
        (try simp only [Act.put, List.setIfInBounds_toArray, List.set_cons_zero, List.set_cons_succ])
        refine wpAnyH_take (i := 27) (oi := ({ dst := some 77, op := Op.move (Operand.tmp 11), type := 3, pos := "ref.go:131", after := #[{ on := 9, ground := Ground.guard }], guard := some (9, true) } : Oper)) (v := undef) rfl (by kernel_rfl) (by kernel_rfl) (by kernel_rfl) (fun _ _ _ h => h) (Or.inr ⟨by rfl, rfl⟩) (by assumption) ?_
        (try simp only [Act.put, List.setIfInBounds_toArray, List.set_cons_zero, List.set_cons_succ])
        refine wpAnyH_take (i := 28) (oi := ({ dst := some 78, op := Op.indexAddr 52 (Operand.tmp 76) (Operand.tmp 77), type := 0, pos := "ref.go:131", after := #[{ on := 26, ground := Ground.data }, { on := 27, ground := Ground.data }, { on := 9, ground := Ground.guard }], guard := some (9, true) } : Oper)) (v := undef) rfl (by kernel_rfl) (by kernel_rfl) (by kernel_rfl) (fun _ _ _ h => h) (Or.inr ⟨by rfl, rfl⟩) (by assumption) ?_
        (try simp only [Act.put, List.setIfInBounds_toArray, List.set_cons_zero, List.set_cons_succ])
        refine wpAnyH_take (i := 29) (oi := ({ dst := some 79, op := Op.indexAddr 36 (Operand.tmp 78) (Operand.const (Value.int IntKind.i64 1)), type := 0, pos := "ref.go:131", after := #[{ on := 28, ground := Ground.data }, { on := 9, ground := Ground.guard }], guard := some (9, true) } : Oper)) (v := undef) rfl (by kernel_rfl) (by kernel_rfl) (by kernel_rfl) (fun _ _ _ h => h) (Or.inr ⟨by rfl, rfl⟩) (by assumption) ?_
        (try simp only [Act.put, List.setIfInBounds_toArray, List.set_cons_zero, List.set_cons_succ])
        refine wpAnyH_take (i := 30) (oi := ({ dst := some 80, op := Op.load 23 (Operand.tmp 79), type := 23, pos := "ref.go:131", after := #[{ on := 29, ground := Ground.data }, { on := 9, ground := Ground.guard }], guard := some (9, true) } : Oper)) (v := undef) rfl (by kernel_rfl) (by kernel_rfl) (by kernel_rfl) (fun _ _ _ h => h) (Or.inr ⟨by rfl, rfl⟩) (by assumption) ?_
        (try simp only [Act.put, List.setIfInBounds_toArray, List.set_cons_zero, List.set_cons_succ])
        refine wpAnyH_take (i := 31) (oi := ({ dst := some 81, op := Op.call { callee := Callee.value (Operand.func 18), args := #[Operand.tmp 75, Operand.tmp 80], argTypes := #[23, 23] }, type := 23, pos := "ref.go:131", after := #[{ on := 25, ground := Ground.data }, { on := 30, ground := Ground.data }, { on := 20, ground := Ground.chain }, { on := 9, ground := Ground.guard }], guard := some (9, true) } : Oper)) (v := undef) rfl (by kernel_rfl) (by kernel_rfl) (by kernel_rfl) (fun _ _ _ h => h) (Or.inr ⟨by rfl, rfl⟩) (by assumption) ?_
        (try simp only [Act.put, List.setIfInBounds_toArray, List.set_cons_zero, List.set_cons_succ])
        refine wpAnyH_take (i := 32) (oi := ({ dst := some 82, op := Op.binOp BinOp.eql 23 (Operand.tmp 70) (Operand.tmp 81) 23, type := 4, pos := "ref.go:131", after := #[{ on := 20, ground := Ground.data }, { on := 31, ground := Ground.data }, { on := 9, ground := Ground.guard }], guard := some (9, true) } : Oper)) (v := undef) rfl (by kernel_rfl) (by kernel_rfl) (by kernel_rfl) (fun _ _ _ h => h) (Or.inr ⟨by rfl, rfl⟩) (by assumption) ?_
        (try simp only [Act.put, List.setIfInBounds_toArray, List.set_cons_zero, List.set_cons_succ])
        refine wpAnyH_take (i := 33) (oi := ({ dst := some 83, op := Op.pick (Operand.tmp 59) (Operand.tmp 82) (Operand.const (Value.bool false)), type := 4, pos := "ref.go:131", after := #[{ on := 9, ground := Ground.data }, { on := 32, ground := Ground.data }], guard := none } : Oper)) (v := ?_) rfl (by kernel_rfl) (by kernel_rfl) (by kernel_rfl) (fun _ _ _ h => h) (Or.inl ⟨by rfl, ?_⟩) (by assumption) ?_
        rotate_left
        · intro w hSw; (try dsimp only at hSw); go_simp <;> with_reducible rfl
        (try simp only [Act.put, List.setIfInBounds_toArray, List.set_cons_zero, List.set_cons_succ])
        refine wpAnyH_done (by kernel_rfl) ?_ _
        have BN := hid (below_step BR.out hsd)
        clear hHeld
        go_wp2_with fail
        go_roundw
        case rel => exact ⟨k + 1, by omega, by go_num, FN, BN⟩
        case measure => simp [intOf]; omega
      · have t1 : ((x1.toNat : Int) == (z1.toNat : Int) && (x2.toNat : Int) == (z2.toNat : Int)) = false := by
          by_cases h1 : x1 = z1
          · subst h1
            have h2 : ¬ x2 = z2 := fun h => hpe (by rw [h])
            rw [bv_ne h2]; simp
          · rw [bv_ne h1]; simp
        by_cases hj : joinB x1 x2 = joinB z1 z2
        · have HE := hid (show RV = collR (some ((x1, x2), (z1, z2))) from by
            rw [← HRV.out]
            have h := FS.out.1 (by simp [hits, joinP, hj]; by_cases h1 : x1 = z1; exact .inr (fun h2 => hpe (by rw [h1, h2])); exact .inl h1)
            rw [h])
          rw [← hj] at J2
          clear FS hpe hj
          generalize joinB x1 x2 = Y at *
          go_upto_region 7 with fail
          have hsd := (Below.refl wr.heap.size wr).drew
          refine wp_region_held_drew (S := fun W' => (W'.cell? ⟨ga, k * 2, none⟩ = some (.int .u64 (x1.toNat : Int)) ∧ W'.cell? ⟨ga, k * 2 + 1, none⟩ = some (.int .u64 (x2.toNat : Int)) ∧ W'.cell? ⟨gb, k * 2, none⟩ = some (.int .u64 (z1.toNat : Int)) ∧ W'.cell? ⟨gb, k * 2 + 1, none⟩ = some (.int .u64 (z2.toNat : Int)) ∧ Below wr.heap.size wr W')) (by kernel_rfl) ?_ (fun hHeld => ?_)
          · exact ⟨c1, c2, c3, c4, hsd⟩
          refine wpAnyH_take (i := 0) (oi := ({ dst := some 50, op := Op.move (Operand.tmp 9), type := 52, pos := "ref.go:131", after := #[], guard := none } : Oper)) (v := ?_) rfl (by kernel_rfl) (by kernel_rfl) (by kernel_rfl) (fun _ _ _ h => h) (Or.inl ⟨by rfl, ?_⟩) (by assumption) ?_
          rotate_left
          · intro w hSw; (try dsimp only at hSw); go_simp <;> with_reducible rfl
          (try simp only [Act.put, List.setIfInBounds_toArray, List.set_cons_zero, List.set_cons_succ])
          refine wpAnyH_take (i := 1) (oi := ({ dst := some 51, op := Op.move (Operand.tmp 11), type := 3, pos := "ref.go:131", after := #[], guard := none } : Oper)) (v := ?_) rfl (by kernel_rfl) (by kernel_rfl) (by kernel_rfl) (fun _ _ _ h => h) (Or.inl ⟨by rfl, ?_⟩) (by assumption) ?_
          rotate_left
          · intro w hSw; (try dsimp only at hSw); go_simp <;> with_reducible rfl
          (try simp only [Act.put, List.setIfInBounds_toArray, List.set_cons_zero, List.set_cons_succ])
          refine wpAnyH_take (i := 2) (oi := ({ dst := some 52, op := Op.indexAddr 52 (Operand.tmp 50) (Operand.tmp 51), type := 0, pos := "ref.go:131", after := #[{ on := 0, ground := Ground.data }, { on := 1, ground := Ground.data }], guard := none } : Oper)) (v := ?_) rfl (by kernel_rfl) (by kernel_rfl) (by kernel_rfl) (fun _ _ _ h => h) (Or.inl ⟨by rfl, ?_⟩) (by assumption) ?_
          rotate_left
          · intro w hSw; (try dsimp only at hSw); go_simp <;> with_reducible rfl
          (try simp only [Act.put, List.setIfInBounds_toArray, List.set_cons_zero, List.set_cons_succ])
          refine wpAnyH_take (i := 3) (oi := ({ dst := some 53, op := Op.load 36 (Operand.tmp 52), type := 36, pos := "ref.go:131", after := #[{ on := 2, ground := Ground.data }], guard := none } : Oper)) (v := ?_) rfl (by kernel_rfl) (by kernel_rfl) (by kernel_rfl) (fun _ _ _ h => h) (Or.inl ⟨by rfl, ?_⟩) (by assumption) ?_
          rotate_left
          · intro w hSw; (try dsimp only at hSw); go_simp <;> with_reducible rfl
          (try simp only [Act.put, List.setIfInBounds_toArray, List.set_cons_zero, List.set_cons_succ])
          refine wpAnyH_take (i := 4) (oi := ({ dst := some 54, op := Op.move (Operand.tmp 10), type := 52, pos := "ref.go:131", after := #[], guard := none } : Oper)) (v := ?_) rfl (by kernel_rfl) (by kernel_rfl) (by kernel_rfl) (fun _ _ _ h => h) (Or.inl ⟨by rfl, ?_⟩) (by assumption) ?_
          rotate_left
          · intro w hSw; (try dsimp only at hSw); go_simp <;> with_reducible rfl
          (try simp only [Act.put, List.setIfInBounds_toArray, List.set_cons_zero, List.set_cons_succ])
          refine wpAnyH_take (i := 5) (oi := ({ dst := some 55, op := Op.move (Operand.tmp 11), type := 3, pos := "ref.go:131", after := #[], guard := none } : Oper)) (v := ?_) rfl (by kernel_rfl) (by kernel_rfl) (by kernel_rfl) (fun _ _ _ h => h) (Or.inl ⟨by rfl, ?_⟩) (by assumption) ?_
          rotate_left
          · intro w hSw; (try dsimp only at hSw); go_simp <;> with_reducible rfl
          (try simp only [Act.put, List.setIfInBounds_toArray, List.set_cons_zero, List.set_cons_succ])
          refine wpAnyH_take (i := 6) (oi := ({ dst := some 56, op := Op.indexAddr 52 (Operand.tmp 54) (Operand.tmp 55), type := 0, pos := "ref.go:131", after := #[{ on := 4, ground := Ground.data }, { on := 5, ground := Ground.data }], guard := none } : Oper)) (v := ?_) rfl (by kernel_rfl) (by kernel_rfl) (by kernel_rfl) (fun _ _ _ h => h) (Or.inl ⟨by rfl, ?_⟩) (by assumption) ?_
          rotate_left
          · intro w hSw; (try dsimp only at hSw); go_simp <;> with_reducible rfl
          (try simp only [Act.put, List.setIfInBounds_toArray, List.set_cons_zero, List.set_cons_succ])
          refine wpAnyH_take (i := 7) (oi := ({ dst := some 57, op := Op.load 36 (Operand.tmp 56), type := 36, pos := "ref.go:131", after := #[{ on := 6, ground := Ground.data }], guard := none } : Oper)) (v := ?_) rfl (by kernel_rfl) (by kernel_rfl) (by kernel_rfl) (fun _ _ _ h => h) (Or.inl ⟨by rfl, ?_⟩) (by assumption) ?_
          rotate_left
          · intro w hSw; (try dsimp only at hSw); go_simp <;> with_reducible rfl
          (try simp only [Act.put, List.setIfInBounds_toArray, List.set_cons_zero, List.set_cons_succ])
          refine wpAnyH_take (i := 8) (oi := ({ dst := some 58, op := Op.binOp BinOp.neq 36 (Operand.tmp 53) (Operand.tmp 57) 36, type := 4, pos := "ref.go:131", after := #[{ on := 3, ground := Ground.data }, { on := 7, ground := Ground.data }], guard := none } : Oper)) (v := ?_) rfl (by kernel_rfl) (by kernel_rfl) (by kernel_rfl) (fun _ _ _ h => h) (Or.inl ⟨by rfl, ?_⟩) (by assumption) ?_
          rotate_left
          · intro w hSw; (try dsimp only at hSw); go_simp <;> with_reducible rfl
          (try simp only [Act.put, List.setIfInBounds_toArray, List.set_cons_zero, List.set_cons_succ])
          refine wpAnyH_take (i := 9) (oi := ({ dst := some 59, op := Op.move (Operand.tmp 58), type := 4, pos := "ref.go:131", after := #[{ on := 8, ground := Ground.data }], guard := none } : Oper)) (v := ?_) rfl (by kernel_rfl) (by kernel_rfl) (by kernel_rfl) (fun _ _ _ h => h) (Or.inl ⟨by rfl, ?_⟩) (by assumption) ?_
          rotate_left
          · intro w hSw; (try dsimp only at hSw); go_simp <;> with_reducible rfl
          (try simp only [Act.put, List.setIfInBounds_toArray, List.set_cons_zero, List.set_cons_succ])
          refine wpAnyH_take (i := 10) (oi := ({ dst := some 60, op := Op.move (Operand.tmp 9), type := 52, pos := "ref.go:131", after := #[{ on := 9, ground := Ground.guard }], guard := some (9, true) } : Oper)) (v := ?_) rfl (by kernel_rfl) (by kernel_rfl) (by kernel_rfl) (fun _ _ _ h => h) (Or.inl ⟨by rfl, ?_⟩) (by assumption) ?_
          rotate_left
          · intro w hSw; (try dsimp only at hSw); go_simp <;> with_reducible rfl
          (try simp only [Act.put, List.setIfInBounds_toArray, List.set_cons_zero, List.set_cons_succ])
          refine wpAnyH_take (i := 11) (oi := ({ dst := some 61, op := Op.move (Operand.tmp 11), type := 3, pos := "ref.go:131", after := #[{ on := 9, ground := Ground.guard }], guard := some (9, true) } : Oper)) (v := ?_) rfl (by kernel_rfl) (by kernel_rfl) (by kernel_rfl) (fun _ _ _ h => h) (Or.inl ⟨by rfl, ?_⟩) (by assumption) ?_
          rotate_left
          · intro w hSw; (try dsimp only at hSw); go_simp <;> with_reducible rfl
          (try simp only [Act.put, List.setIfInBounds_toArray, List.set_cons_zero, List.set_cons_succ])
          refine wpAnyH_take (i := 12) (oi := ({ dst := some 62, op := Op.indexAddr 52 (Operand.tmp 60) (Operand.tmp 61), type := 0, pos := "ref.go:131", after := #[{ on := 10, ground := Ground.data }, { on := 11, ground := Ground.data }, { on := 9, ground := Ground.guard }], guard := some (9, true) } : Oper)) (v := ?_) rfl (by kernel_rfl) (by kernel_rfl) (by kernel_rfl) (fun _ _ _ h => h) (Or.inl ⟨by rfl, ?_⟩) (by assumption) ?_
          rotate_left
          · intro w hSw; (try dsimp only at hSw); go_simp <;> with_reducible rfl
          (try simp only [Act.put, List.setIfInBounds_toArray, List.set_cons_zero, List.set_cons_succ])
          refine wpAnyH_take (i := 13) (oi := ({ dst := some 63, op := Op.indexAddr 36 (Operand.tmp 62) (Operand.const (Value.int IntKind.i64 0)), type := 0, pos := "ref.go:131", after := #[{ on := 12, ground := Ground.data }, { on := 9, ground := Ground.guard }], guard := some (9, true) } : Oper)) (v := ?_) rfl (by kernel_rfl) (by kernel_rfl) (by kernel_rfl) (fun _ _ _ h => h) (Or.inl ⟨by rfl, ?_⟩) (by assumption) ?_
          rotate_left
          · intro w hSw; (try dsimp only at hSw); go_simp <;> with_reducible rfl
          (try simp only [Act.put, List.setIfInBounds_toArray, List.set_cons_zero, List.set_cons_succ])
          refine wpAnyH_take (i := 14) (oi := ({ dst := some 64, op := Op.load 23 (Operand.tmp 63), type := 23, pos := "ref.go:131", after := #[{ on := 13, ground := Ground.data }, { on := 9, ground := Ground.guard }], guard := some (9, true) } : Oper)) (v := ?_) rfl (by kernel_rfl) (by kernel_rfl) (by kernel_rfl) (fun _ _ _ h => h) (Or.inl ⟨by rfl, ?_⟩) (by assumption) ?_
          rotate_left
          · intro w hSw; (try dsimp only at hSw); go_simp <;> with_reducible rfl
          (try simp only [Act.put, List.setIfInBounds_toArray, List.set_cons_zero, List.set_cons_succ])
          refine wpAnyH_take (i := 15) (oi := ({ dst := some 65, op := Op.move (Operand.tmp 9), type := 52, pos := "ref.go:131", after := #[{ on := 9, ground := Ground.guard }], guard := some (9, true) } : Oper)) (v := ?_) rfl (by kernel_rfl) (by kernel_rfl) (by kernel_rfl) (fun _ _ _ h => h) (Or.inl ⟨by rfl, ?_⟩) (by assumption) ?_
          rotate_left
          · intro w hSw; (try dsimp only at hSw); go_simp <;> with_reducible rfl
          (try simp only [Act.put, List.setIfInBounds_toArray, List.set_cons_zero, List.set_cons_succ])
          refine wpAnyH_take (i := 16) (oi := ({ dst := some 66, op := Op.move (Operand.tmp 11), type := 3, pos := "ref.go:131", after := #[{ on := 9, ground := Ground.guard }], guard := some (9, true) } : Oper)) (v := ?_) rfl (by kernel_rfl) (by kernel_rfl) (by kernel_rfl) (fun _ _ _ h => h) (Or.inl ⟨by rfl, ?_⟩) (by assumption) ?_
          rotate_left
          · intro w hSw; (try dsimp only at hSw); go_simp <;> with_reducible rfl
          (try simp only [Act.put, List.setIfInBounds_toArray, List.set_cons_zero, List.set_cons_succ])
          refine wpAnyH_take (i := 17) (oi := ({ dst := some 67, op := Op.indexAddr 52 (Operand.tmp 65) (Operand.tmp 66), type := 0, pos := "ref.go:131", after := #[{ on := 15, ground := Ground.data }, { on := 16, ground := Ground.data }, { on := 9, ground := Ground.guard }], guard := some (9, true) } : Oper)) (v := ?_) rfl (by kernel_rfl) (by kernel_rfl) (by kernel_rfl) (fun _ _ _ h => h) (Or.inl ⟨by rfl, ?_⟩) (by assumption) ?_
          rotate_left
          · intro w hSw; (try dsimp only at hSw); go_simp <;> with_reducible rfl
          (try simp only [Act.put, List.setIfInBounds_toArray, List.set_cons_zero, List.set_cons_succ])
          refine wpAnyH_take (i := 18) (oi := ({ dst := some 68, op := Op.indexAddr 36 (Operand.tmp 67) (Operand.const (Value.int IntKind.i64 1)), type := 0, pos := "ref.go:131", after := #[{ on := 17, ground := Ground.data }, { on := 9, ground := Ground.guard }], guard := some (9, true) } : Oper)) (v := ?_) rfl (by kernel_rfl) (by kernel_rfl) (by kernel_rfl) (fun _ _ _ h => h) (Or.inl ⟨by rfl, ?_⟩) (by assumption) ?_
          rotate_left
          · intro w hSw; (try dsimp only at hSw); go_simp <;> with_reducible rfl
          (try simp only [Act.put, List.setIfInBounds_toArray, List.set_cons_zero, List.set_cons_succ])
          refine wpAnyH_take (i := 19) (oi := ({ dst := some 69, op := Op.load 23 (Operand.tmp 68), type := 23, pos := "ref.go:131", after := #[{ on := 18, ground := Ground.data }, { on := 9, ground := Ground.guard }], guard := some (9, true) } : Oper)) (v := ?_) rfl (by kernel_rfl) (by kernel_rfl) (by kernel_rfl) (fun _ _ _ h => h) (Or.inl ⟨by rfl, ?_⟩) (by assumption) ?_
          rotate_left
          · intro w hSw; (try dsimp only at hSw); go_simp <;> with_reducible rfl
          (try simp only [Act.put, List.setIfInBounds_toArray, List.set_cons_zero, List.set_cons_succ])
          refine wpAnyH_take (i := 21) (oi := ({ dst := some 71, op := Op.move (Operand.tmp 10), type := 52, pos := "ref.go:131", after := #[{ on := 9, ground := Ground.guard }], guard := some (9, true) } : Oper)) (v := ?_) rfl (by kernel_rfl) (by kernel_rfl) (by kernel_rfl) (fun _ _ _ h => h) (Or.inl ⟨by rfl, ?_⟩) (by assumption) ?_
          rotate_left
          · intro w hSw; (try dsimp only at hSw); go_simp <;> with_reducible rfl
          (try simp only [Act.put, List.setIfInBounds_toArray, List.set_cons_zero, List.set_cons_succ])
          refine wpAnyH_take (i := 22) (oi := ({ dst := some 72, op := Op.move (Operand.tmp 11), type := 3, pos := "ref.go:131", after := #[{ on := 9, ground := Ground.guard }], guard := some (9, true) } : Oper)) (v := ?_) rfl (by kernel_rfl) (by kernel_rfl) (by kernel_rfl) (fun _ _ _ h => h) (Or.inl ⟨by rfl, ?_⟩) (by assumption) ?_
          rotate_left
          · intro w hSw; (try dsimp only at hSw); go_simp <;> with_reducible rfl
          (try simp only [Act.put, List.setIfInBounds_toArray, List.set_cons_zero, List.set_cons_succ])
          refine wpAnyH_take (i := 23) (oi := ({ dst := some 73, op := Op.indexAddr 52 (Operand.tmp 71) (Operand.tmp 72), type := 0, pos := "ref.go:131", after := #[{ on := 21, ground := Ground.data }, { on := 22, ground := Ground.data }, { on := 9, ground := Ground.guard }], guard := some (9, true) } : Oper)) (v := ?_) rfl (by kernel_rfl) (by kernel_rfl) (by kernel_rfl) (fun _ _ _ h => h) (Or.inl ⟨by rfl, ?_⟩) (by assumption) ?_
          rotate_left
          · intro w hSw; (try dsimp only at hSw); go_simp <;> with_reducible rfl
          (try simp only [Act.put, List.setIfInBounds_toArray, List.set_cons_zero, List.set_cons_succ])
          refine wpAnyH_take (i := 24) (oi := ({ dst := some 74, op := Op.indexAddr 36 (Operand.tmp 73) (Operand.const (Value.int IntKind.i64 0)), type := 0, pos := "ref.go:131", after := #[{ on := 23, ground := Ground.data }, { on := 9, ground := Ground.guard }], guard := some (9, true) } : Oper)) (v := ?_) rfl (by kernel_rfl) (by kernel_rfl) (by kernel_rfl) (fun _ _ _ h => h) (Or.inl ⟨by rfl, ?_⟩) (by assumption) ?_
          rotate_left
          · intro w hSw; (try dsimp only at hSw); go_simp <;> with_reducible rfl
          (try simp only [Act.put, List.setIfInBounds_toArray, List.set_cons_zero, List.set_cons_succ])
          refine wpAnyH_take (i := 25) (oi := ({ dst := some 75, op := Op.load 23 (Operand.tmp 74), type := 23, pos := "ref.go:131", after := #[{ on := 24, ground := Ground.data }, { on := 9, ground := Ground.guard }], guard := some (9, true) } : Oper)) (v := ?_) rfl (by kernel_rfl) (by kernel_rfl) (by kernel_rfl) (fun _ _ _ h => h) (Or.inl ⟨by rfl, ?_⟩) (by assumption) ?_
          rotate_left
          · intro w hSw; (try dsimp only at hSw); go_simp <;> with_reducible rfl
          (try simp only [Act.put, List.setIfInBounds_toArray, List.set_cons_zero, List.set_cons_succ])
          refine wpAnyH_take (i := 26) (oi := ({ dst := some 76, op := Op.move (Operand.tmp 10), type := 52, pos := "ref.go:131", after := #[{ on := 9, ground := Ground.guard }], guard := some (9, true) } : Oper)) (v := ?_) rfl (by kernel_rfl) (by kernel_rfl) (by kernel_rfl) (fun _ _ _ h => h) (Or.inl ⟨by rfl, ?_⟩) (by assumption) ?_
          rotate_left
          · intro w hSw; (try dsimp only at hSw); go_simp <;> with_reducible rfl
          (try simp only [Act.put, List.setIfInBounds_toArray, List.set_cons_zero, List.set_cons_succ])
          refine wpAnyH_take (i := 27) (oi := ({ dst := some 77, op := Op.move (Operand.tmp 11), type := 3, pos := "ref.go:131", after := #[{ on := 9, ground := Ground.guard }], guard := some (9, true) } : Oper)) (v := ?_) rfl (by kernel_rfl) (by kernel_rfl) (by kernel_rfl) (fun _ _ _ h => h) (Or.inl ⟨by rfl, ?_⟩) (by assumption) ?_
          rotate_left
          · intro w hSw; (try dsimp only at hSw); go_simp <;> with_reducible rfl
          (try simp only [Act.put, List.setIfInBounds_toArray, List.set_cons_zero, List.set_cons_succ])
          refine wpAnyH_take (i := 28) (oi := ({ dst := some 78, op := Op.indexAddr 52 (Operand.tmp 76) (Operand.tmp 77), type := 0, pos := "ref.go:131", after := #[{ on := 26, ground := Ground.data }, { on := 27, ground := Ground.data }, { on := 9, ground := Ground.guard }], guard := some (9, true) } : Oper)) (v := ?_) rfl (by kernel_rfl) (by kernel_rfl) (by kernel_rfl) (fun _ _ _ h => h) (Or.inl ⟨by rfl, ?_⟩) (by assumption) ?_
          rotate_left
          · intro w hSw; (try dsimp only at hSw); go_simp <;> with_reducible rfl
          (try simp only [Act.put, List.setIfInBounds_toArray, List.set_cons_zero, List.set_cons_succ])
          refine wpAnyH_take (i := 29) (oi := ({ dst := some 79, op := Op.indexAddr 36 (Operand.tmp 78) (Operand.const (Value.int IntKind.i64 1)), type := 0, pos := "ref.go:131", after := #[{ on := 28, ground := Ground.data }, { on := 9, ground := Ground.guard }], guard := some (9, true) } : Oper)) (v := ?_) rfl (by kernel_rfl) (by kernel_rfl) (by kernel_rfl) (fun _ _ _ h => h) (Or.inl ⟨by rfl, ?_⟩) (by assumption) ?_
          rotate_left
          · intro w hSw; (try dsimp only at hSw); go_simp <;> with_reducible rfl
          (try simp only [Act.put, List.setIfInBounds_toArray, List.set_cons_zero, List.set_cons_succ])
          refine wpAnyH_take (i := 30) (oi := ({ dst := some 80, op := Op.load 23 (Operand.tmp 79), type := 23, pos := "ref.go:131", after := #[{ on := 29, ground := Ground.data }, { on := 9, ground := Ground.guard }], guard := some (9, true) } : Oper)) (v := ?_) rfl (by kernel_rfl) (by kernel_rfl) (by kernel_rfl) (fun _ _ _ h => h) (Or.inl ⟨by rfl, ?_⟩) (by assumption) ?_
          rotate_left
          · intro w hSw; (try dsimp only at hSw); go_simp <;> with_reducible rfl
          (try simp only [Act.put, List.setIfInBounds_toArray, List.set_cons_zero, List.set_cons_succ])
          refine wpAnyH_ready (rs := [20]) (by kernel_rfl) (by simp) ?_
          refine AllReadyH.cons (o := ({ dst := some 70, op := Op.call { callee := Callee.value (Operand.func 18), args := #[Operand.tmp 64, Operand.tmp 69], argTypes := #[23, 23] }, type := 23, pos := "ref.go:131", after := #[{ on := 14, ground := Ground.data }, { on := 19, ground := Ground.data }, { on := 9, ground := Ground.chain }, { on := 9, ground := Ground.guard }], guard := some (9, true) } : Oper)) rfl (fun K hK => ?_) ?_
          rotate_left
          · exact AllReadyH.nil
          go_simp
          go_at_call 18
          with_reducible refine (J1.out _).mono ?_
          rintro e y0 ⟨rfl, hq0⟩
          have hB0 := below_step hsd hq0
          clear hHeld
          first | (with_reducible refine hK.out _ _ ?_ (fun hHeld => ?_)) | (go_wp2_with fail; with_reducible refine hK.out _ _ ?_ (fun hHeld => ?_))
          · exact ⟨cell_below hB0 c1, cell_below hB0 c2, cell_below hB0 c3, cell_below hB0 c4, hB0⟩
          clear hK K
          (try simp only [Act.put, List.setIfInBounds_toArray, List.set_cons_zero, List.set_cons_succ])
          refine wpAnyH_ready (rs := [31]) (by kernel_rfl) (by simp) ?_
          refine AllReadyH.cons (o := ({ dst := some 81, op := Op.call { callee := Callee.value (Operand.func 18), args := #[Operand.tmp 75, Operand.tmp 80], argTypes := #[23, 23] }, type := 23, pos := "ref.go:131", after := #[{ on := 25, ground := Ground.data }, { on := 30, ground := Ground.data }, { on := 20, ground := Ground.chain }, { on := 9, ground := Ground.guard }], guard := some (9, true) } : Oper)) rfl (fun K hK => ?_) ?_
          rotate_left
          · exact AllReadyH.nil
          go_simp
          go_at_call 18
          with_reducible refine (J2.out _).mono ?_
          rintro e y1 ⟨rfl, hq1⟩
          have hB1 := below_step hB0 hq1
          clear hHeld
          first | (with_reducible refine hK.out _ _ ?_ (fun hHeld => ?_)) | (go_wp2_with fail; with_reducible refine hK.out _ _ ?_ (fun hHeld => ?_))
          · exact ⟨cell_below hB1 c1, cell_below hB1 c2, cell_below hB1 c3, cell_below hB1 c4, hB1⟩
          clear hK K
          (try simp only [Act.put, List.setIfInBounds_toArray, List.set_cons_zero, List.set_cons_succ])
          refine wpAnyH_take (i := 32) (oi := ({ dst := some 82, op := Op.binOp BinOp.eql 23 (Operand.tmp 70) (Operand.tmp 81) 23, type := 4, pos := "ref.go:131", after := #[{ on := 20, ground := Ground.data }, { on := 31, ground := Ground.data }, { on := 9, ground := Ground.guard }], guard := some (9, true) } : Oper)) (v := ?_) rfl (by kernel_rfl) (by kernel_rfl) (by kernel_rfl) (fun _ _ _ h => h) (Or.inl ⟨by rfl, ?_⟩) (by assumption) ?_
          rotate_left
          · intro w hSw; (try dsimp only at hSw); go_simp <;> with_reducible rfl
          (try simp only [Act.put, List.setIfInBounds_toArray, List.set_cons_zero, List.set_cons_succ])
          refine wpAnyH_take (i := 33) (oi := ({ dst := some 83, op := Op.pick (Operand.tmp 59) (Operand.tmp 82) (Operand.const (Value.bool false)), type := 4, pos := "ref.go:131", after := #[{ on := 9, ground := Ground.data }, { on := 32, ground := Ground.data }], guard := none } : Oper)) (v := ?_) rfl (by kernel_rfl) (by kernel_rfl) (by kernel_rfl) (fun _ _ _ h => h) (Or.inl ⟨by rfl, ?_⟩) (by assumption) ?_
          rotate_left
          · intro w hSw; (try dsimp only at hSw); go_simp <;> with_reducible rfl
          (try simp only [Act.put, List.setIfInBounds_toArray, List.set_cons_zero, List.set_cons_succ])
          refine wpAnyH_done (by kernel_rfl) ?_ _
          have BN := hid (below_step BR.out hB1)
          clear hHeld
          have d1 := cell_below hB1 c1
          have d2 := cell_below hB1 c2
          have d3 := cell_below hB1 c3
          have d4 := cell_below hB1 c4
          clear hB0 hB1 hq0 hq1 J1 J2
          obtain ⟨w8, hw8⟩ : ∃ x, y1 = x := ⟨_, rfl⟩
          rw [hw8] at BN d1 d2 d3 d4 ⊢
          clear hw8 hsd
          have BN0 := below_step BB.out BN.out
          clear c1 c2 c3 c4
          go_upto_region 8 with fail
          have hsd := (Below.refl w8.heap.size w8).drew
          refine wp_region_held_drew (S := fun W' => (W'.cell? ⟨ga, k * 2, none⟩ = some (.int .u64 (x1.toNat : Int)) ∧ W'.cell? ⟨ga, k * 2 + 1, none⟩ = some (.int .u64 (x2.toNat : Int)) ∧ W'.cell? ⟨gb, k * 2, none⟩ = some (.int .u64 (z1.toNat : Int)) ∧ W'.cell? ⟨gb, k * 2 + 1, none⟩ = some (.int .u64 (z2.toNat : Int)))) (by kernel_rfl) ?_ (fun hHeld => ?_)
          · exact ⟨d1, d2, d3, d4⟩
          refine wpAnyH_take (i := 0) (oi := ({ dst := some 84, op := Op.move (Operand.tmp 9), type := 52, pos := "ref.go:132", after := #[], guard := none } : Oper)) (v := ?_) rfl (by kernel_rfl) (by kernel_rfl) (by kernel_rfl) (fun _ _ _ h => h) (Or.inl ⟨by rfl, ?_⟩) (by assumption) ?_
          rotate_left
          · intro w hSw; (try dsimp only at hSw); go_simp <;> with_reducible rfl
          (try simp only [Act.put, List.setIfInBounds_toArray, List.set_cons_zero, List.set_cons_succ])
          refine wpAnyH_take (i := 1) (oi := ({ dst := some 85, op := Op.move (Operand.tmp 11), type := 3, pos := "ref.go:132", after := #[], guard := none } : Oper)) (v := ?_) rfl (by kernel_rfl) (by kernel_rfl) (by kernel_rfl) (fun _ _ _ h => h) (Or.inl ⟨by rfl, ?_⟩) (by assumption) ?_
          rotate_left
          · intro w hSw; (try dsimp only at hSw); go_simp <;> with_reducible rfl
          (try simp only [Act.put, List.setIfInBounds_toArray, List.set_cons_zero, List.set_cons_succ])
          refine wpAnyH_take (i := 2) (oi := ({ dst := some 86, op := Op.indexAddr 52 (Operand.tmp 84) (Operand.tmp 85), type := 0, pos := "ref.go:132", after := #[{ on := 0, ground := Ground.data }, { on := 1, ground := Ground.data }], guard := none } : Oper)) (v := ?_) rfl (by kernel_rfl) (by kernel_rfl) (by kernel_rfl) (fun _ _ _ h => h) (Or.inl ⟨by rfl, ?_⟩) (by assumption) ?_
          rotate_left
          · intro w hSw; (try dsimp only at hSw); go_simp <;> with_reducible rfl
          (try simp only [Act.put, List.setIfInBounds_toArray, List.set_cons_zero, List.set_cons_succ])
          refine wpAnyH_take (i := 3) (oi := ({ dst := some 87, op := Op.load 36 (Operand.tmp 86), type := 36, pos := "ref.go:132", after := #[{ on := 2, ground := Ground.data }], guard := none } : Oper)) (v := ?_) rfl (by kernel_rfl) (by kernel_rfl) (by kernel_rfl) (fun _ _ _ h => h) (Or.inl ⟨by rfl, ?_⟩) (by assumption) ?_
          rotate_left
          · intro w hSw; (try dsimp only at hSw); go_simp <;> with_reducible rfl
          (try simp only [Act.put, List.setIfInBounds_toArray, List.set_cons_zero, List.set_cons_succ])
          refine wpAnyH_take (i := 4) (oi := ({ dst := some 88, op := Op.move (Operand.tmp 10), type := 52, pos := "ref.go:132", after := #[], guard := none } : Oper)) (v := ?_) rfl (by kernel_rfl) (by kernel_rfl) (by kernel_rfl) (fun _ _ _ h => h) (Or.inl ⟨by rfl, ?_⟩) (by assumption) ?_
          rotate_left
          · intro w hSw; (try dsimp only at hSw); go_simp <;> with_reducible rfl
          (try simp only [Act.put, List.setIfInBounds_toArray, List.set_cons_zero, List.set_cons_succ])
          refine wpAnyH_take (i := 5) (oi := ({ dst := some 89, op := Op.move (Operand.tmp 11), type := 3, pos := "ref.go:132", after := #[], guard := none } : Oper)) (v := ?_) rfl (by kernel_rfl) (by kernel_rfl) (by kernel_rfl) (fun _ _ _ h => h) (Or.inl ⟨by rfl, ?_⟩) (by assumption) ?_
          rotate_left
          · intro w hSw; (try dsimp only at hSw); go_simp <;> with_reducible rfl
          (try simp only [Act.put, List.setIfInBounds_toArray, List.set_cons_zero, List.set_cons_succ])
          refine wpAnyH_take (i := 6) (oi := ({ dst := some 90, op := Op.indexAddr 52 (Operand.tmp 88) (Operand.tmp 89), type := 0, pos := "ref.go:132", after := #[{ on := 4, ground := Ground.data }, { on := 5, ground := Ground.data }], guard := none } : Oper)) (v := ?_) rfl (by kernel_rfl) (by kernel_rfl) (by kernel_rfl) (fun _ _ _ h => h) (Or.inl ⟨by rfl, ?_⟩) (by assumption) ?_
          rotate_left
          · intro w hSw; (try dsimp only at hSw); go_simp <;> with_reducible rfl
          (try simp only [Act.put, List.setIfInBounds_toArray, List.set_cons_zero, List.set_cons_succ])
          refine wpAnyH_take (i := 7) (oi := ({ dst := some 91, op := Op.load 36 (Operand.tmp 90), type := 36, pos := "ref.go:132", after := #[{ on := 6, ground := Ground.data }], guard := none } : Oper)) (v := ?_) rfl (by kernel_rfl) (by kernel_rfl) (by kernel_rfl) (fun _ _ _ h => h) (Or.inl ⟨by rfl, ?_⟩) (by assumption) ?_
          rotate_left
          · intro w hSw; (try dsimp only at hSw); go_simp <;> with_reducible rfl
          (try simp only [Act.put, List.setIfInBounds_toArray, List.set_cons_zero, List.set_cons_succ])
          refine wpAnyH_take (i := 8) (oi := ({ dst := some 92, op := Op.build 37 #[(0, Operand.tmp 87), (1, Operand.tmp 91)], type := 37, pos := "ref.go:132", after := #[{ on := 3, ground := Ground.data }, { on := 7, ground := Ground.data }], guard := none } : Oper)) (v := ?_) rfl (by kernel_rfl) (by kernel_rfl) (by kernel_rfl) (fun _ _ _ h => h) (Or.inl ⟨by rfl, ?_⟩) (by assumption) ?_
          rotate_left
          · intro w hSw; (try dsimp only at hSw); go_simp <;> with_reducible rfl
          (try simp only [Act.put, List.setIfInBounds_toArray, List.set_cons_zero, List.set_cons_succ])
          refine wpAnyH_take (i := 9) (oi := ({ dst := some 93, op := Op.build 41 #[(0, Operand.tmp 92), (1, Operand.const (Value.bool true))], type := 41, pos := "ref.go:132", after := #[{ on := 8, ground := Ground.data }], guard := none } : Oper)) (v := ?_) rfl (by kernel_rfl) (by kernel_rfl) (by kernel_rfl) (fun _ _ _ h => h) (Or.inl ⟨by rfl, ?_⟩) (by assumption) ?_
          rotate_left
          · intro w hSw; (try dsimp only at hSw); go_simp <;> with_reducible rfl
          (try simp only [Act.put, List.setIfInBounds_toArray, List.set_cons_zero, List.set_cons_succ])
          refine wpAnyH_ready (rs := [10]) (by kernel_rfl) (by simp) ?_
          refine AllReadyH.cons (o := ({ dst := none, op := Op.store 41 (Operand.tmp 8) (Operand.tmp 93), type := 0, pos := "ref.go:132", after := #[{ on := 9, ground := Ground.data }, { on := 0, ground := Ground.phase }, { on := 1, ground := Ground.phase }, { on := 2, ground := Ground.phase }, { on := 3, ground := Ground.phase }, { on := 4, ground := Ground.phase }, { on := 5, ground := Ground.phase }, { on := 6, ground := Ground.phase }, { on := 7, ground := Ground.phase }, { on := 8, ground := Ground.phase }, { on := 9, ground := Ground.phase }], guard := none } : Oper)) rfl (fun K hK => ?_) ?_
          rotate_left
          · exact AllReadyH.nil
          have RB := (BN0.block (w.heap.size + 1 + 1) (by have := HZ.out; omega)).trans HR.out
          obtain ⟨m, hm, hk5⟩ := set5R_facts (.int .u64 (x1.toNat : Int)) (.int .u64 (x2.toNat : Int)) (.int .u64 (z1.toNat : Int)) (.int .u64 (z2.toNat : Int)) (.bool true) RB (by omega) (below_step B0.out BN0)
          have HM := hid hm.drew
          have e1 := (drew_cell _ _).trans (hk5 ga (k * 2) (.int .u64 (x1.toNat : Int)) hga d1)
          have e2 := (drew_cell _ _).trans (hk5 ga (k * 2 + 1) (.int .u64 (x2.toNat : Int)) hga d2)
          have e3 := (drew_cell _ _).trans (hk5 gb (k * 2) (.int .u64 (z1.toNat : Int)) hgb d3)
          have e4 := (drew_cell _ _).trans (hk5 gb (k * 2 + 1) (.int .u64 (z2.toNat : Int)) hgb d4)
          have ES := hid (And.intro e1 (And.intro e2 (And.intro e3 e4)))
          unfold set5R at m HM ES
          clear hm hk5 e1 e2 e3 e4
          have f0 := blk_free RB 0
          have f1 := blk_free RB 1
          have f2 := blk_free RB 2
          have f3 := blk_free RB 3
          have f4 := blk_free RB 4
          have k0 := blk_cell RB (j := 0) (v := .int .u64 0) rfl
          have k1 := blk_cell RB (j := 1) (v := .int .u64 0) rfl
          have k2 := blk_cell RB (j := 2) (v := .int .u64 0) rfl
          have k3 := blk_cell RB (j := 3) (v := .int .u64 0) rfl
          have k4 := blk_cell RB (j := 4) (v := .bool false) rfl
          have p0 := blk_cell (j := 0) (v := .int .u64 (x1.toNat : Int)) (blk_set (j := 0) RB (.int .u64 (x1.toNat : Int))) rfl
          have m0 := blk_cell m (j := 0) (v := .int .u64 (x1.toNat : Int)) rfl
          have p1 := blk_cell (j := 1) (v := .int .u64 (x2.toNat : Int)) (blk_set (j := 1) (blk_set (j := 0) RB (.int .u64 (x1.toNat : Int))) (.int .u64 (x2.toNat : Int))) rfl
          have m1 := blk_cell m (j := 1) (v := .int .u64 (x2.toNat : Int)) rfl
          have p2 := blk_cell (j := 2) (v := .int .u64 (z1.toNat : Int)) (blk_set (j := 2) (blk_set (j := 1) (blk_set (j := 0) RB (.int .u64 (x1.toNat : Int))) (.int .u64 (x2.toNat : Int))) (.int .u64 (z1.toNat : Int))) rfl
          have m2 := blk_cell m (j := 2) (v := .int .u64 (z1.toNat : Int)) rfl
          have p3 := blk_cell (j := 3) (v := .int .u64 (z2.toNat : Int)) (blk_set (j := 3) (blk_set (j := 2) (blk_set (j := 1) (blk_set (j := 0) RB (.int .u64 (x1.toNat : Int))) (.int .u64 (x2.toNat : Int))) (.int .u64 (z1.toNat : Int))) (.int .u64 (z2.toNat : Int))) rfl
          have m3 := blk_cell m (j := 3) (v := .int .u64 (z2.toNat : Int)) rfl
          have p4 := blk_cell (j := 4) (v := .bool true) (blk_set (j := 4) (blk_set (j := 3) (blk_set (j := 2) (blk_set (j := 1) (blk_set (j := 0) RB (.int .u64 (x1.toNat : Int))) (.int .u64 (x2.toNat : Int))) (.int .u64 (z1.toNat : Int))) (.int .u64 (z2.toNat : Int))) (.bool true)) rfl
          have m4 := blk_cell m (j := 4) (v := .bool true) rfl
          clear m RB
          go_simp
          clear hHeld
          first | (with_reducible refine hK.out _ _ ?_ (fun hHeld => ?_)) | (go_wp2_with fail; with_reducible refine hK.out _ _ ?_ (fun hHeld => ?_))
          · exact ES.out
          clear hK K
          (try simp only [Act.put, List.setIfInBounds_toArray, List.set_cons_zero, List.set_cons_succ])
          refine wpAnyH_done (by kernel_rfl) ?_ _
          clear hHeld
          go_wp2_with fail
          (try simp only [Exit.inBlock, Exit.then])
          exact bodyPost_ret (v := .agg #[.int .u64 (x1.toNat : Int), .int .u64 (x2.toNat : Int), .int .u64 (z1.toNat : Int), .int .u64 (z2.toNat : Int), .bool true]) (by simp [results, Try.results13, go_sem, p0, p1, p2, p3, p4, m0, m1, m2, m3, m4]) rfl ⟨by rw [HE.out]; rfl, HM.out⟩
        · have FN := hid (FS.out.2 (by simp [hits, joinP, hj]))
          have t2 := bv_ne hj
          clear FS hpe hj
          generalize joinB x1 x2 = Y at *
          generalize joinB z1 z2 = Y2 at *
          go_upto_region 7 with fail
          have hsd := (Below.refl wr.heap.size wr).drew
          refine wp_region_held_drew (S := fun W' => (W'.cell? ⟨ga, k * 2, none⟩ = some (.int .u64 (x1.toNat : Int)) ∧ W'.cell? ⟨ga, k * 2 + 1, none⟩ = some (.int .u64 (x2.toNat : Int)) ∧ W'.cell? ⟨gb, k * 2, none⟩ = some (.int .u64 (z1.toNat : Int)) ∧ W'.cell? ⟨gb, k * 2 + 1, none⟩ = some (.int .u64 (z2.toNat : Int)) ∧ Below wr.heap.size wr W')) (by kernel_rfl) ?_ (fun hHeld => ?_)
          · exact ⟨c1, c2, c3, c4, hsd⟩
          refine wpAnyH_take (i := 0) (oi := ({ dst := some 50, op := Op.move (Operand.tmp 9), type := 52, pos := "ref.go:131", after := #[], guard := none } : Oper)) (v := ?_) rfl (by kernel_rfl) (by kernel_rfl) (by kernel_rfl) (fun _ _ _ h => h) (Or.inl ⟨by rfl, ?_⟩) (by assumption) ?_
          rotate_left
          · intro w hSw; (try dsimp only at hSw); go_simp <;> with_reducible rfl
          (try simp only [Act.put, List.setIfInBounds_toArray, List.set_cons_zero, List.set_cons_succ])
          refine wpAnyH_take (i := 1) (oi := ({ dst := some 51, op := Op.move (Operand.tmp 11), type := 3, pos := "ref.go:131", after := #[], guard := none } : Oper)) (v := ?_) rfl (by kernel_rfl) (by kernel_rfl) (by kernel_rfl) (fun _ _ _ h => h) (Or.inl ⟨by rfl, ?_⟩) (by assumption) ?_
          rotate_left
          · intro w hSw; (try dsimp only at hSw); go_simp <;> with_reducible rfl
          (try simp only [Act.put, List.setIfInBounds_toArray, List.set_cons_zero, List.set_cons_succ])
          refine wpAnyH_take (i := 2) (oi := ({ dst := some 52, op := Op.indexAddr 52 (Operand.tmp 50) (Operand.tmp 51), type := 0, pos := "ref.go:131", after := #[{ on := 0, ground := Ground.data }, { on := 1, ground := Ground.data }], guard := none } : Oper)) (v := ?_) rfl (by kernel_rfl) (by kernel_rfl) (by kernel_rfl) (fun _ _ _ h => h) (Or.inl ⟨by rfl, ?_⟩) (by assumption) ?_
          rotate_left
          · intro w hSw; (try dsimp only at hSw); go_simp <;> with_reducible rfl
          (try simp only [Act.put, List.setIfInBounds_toArray, List.set_cons_zero, List.set_cons_succ])
          refine wpAnyH_take (i := 3) (oi := ({ dst := some 53, op := Op.load 36 (Operand.tmp 52), type := 36, pos := "ref.go:131", after := #[{ on := 2, ground := Ground.data }], guard := none } : Oper)) (v := ?_) rfl (by kernel_rfl) (by kernel_rfl) (by kernel_rfl) (fun _ _ _ h => h) (Or.inl ⟨by rfl, ?_⟩) (by assumption) ?_
          rotate_left
          · intro w hSw; (try dsimp only at hSw); go_simp <;> with_reducible rfl
          (try simp only [Act.put, List.setIfInBounds_toArray, List.set_cons_zero, List.set_cons_succ])
          refine wpAnyH_take (i := 4) (oi := ({ dst := some 54, op := Op.move (Operand.tmp 10), type := 52, pos := "ref.go:131", after := #[], guard := none } : Oper)) (v := ?_) rfl (by kernel_rfl) (by kernel_rfl) (by kernel_rfl) (fun _ _ _ h => h) (Or.inl ⟨by rfl, ?_⟩) (by assumption) ?_
          rotate_left
          · intro w hSw; (try dsimp only at hSw); go_simp <;> with_reducible rfl
          (try simp only [Act.put, List.setIfInBounds_toArray, List.set_cons_zero, List.set_cons_succ])
          refine wpAnyH_take (i := 5) (oi := ({ dst := some 55, op := Op.move (Operand.tmp 11), type := 3, pos := "ref.go:131", after := #[], guard := none } : Oper)) (v := ?_) rfl (by kernel_rfl) (by kernel_rfl) (by kernel_rfl) (fun _ _ _ h => h) (Or.inl ⟨by rfl, ?_⟩) (by assumption) ?_
          rotate_left
          · intro w hSw; (try dsimp only at hSw); go_simp <;> with_reducible rfl
          (try simp only [Act.put, List.setIfInBounds_toArray, List.set_cons_zero, List.set_cons_succ])
          refine wpAnyH_take (i := 6) (oi := ({ dst := some 56, op := Op.indexAddr 52 (Operand.tmp 54) (Operand.tmp 55), type := 0, pos := "ref.go:131", after := #[{ on := 4, ground := Ground.data }, { on := 5, ground := Ground.data }], guard := none } : Oper)) (v := ?_) rfl (by kernel_rfl) (by kernel_rfl) (by kernel_rfl) (fun _ _ _ h => h) (Or.inl ⟨by rfl, ?_⟩) (by assumption) ?_
          rotate_left
          · intro w hSw; (try dsimp only at hSw); go_simp <;> with_reducible rfl
          (try simp only [Act.put, List.setIfInBounds_toArray, List.set_cons_zero, List.set_cons_succ])
          refine wpAnyH_take (i := 7) (oi := ({ dst := some 57, op := Op.load 36 (Operand.tmp 56), type := 36, pos := "ref.go:131", after := #[{ on := 6, ground := Ground.data }], guard := none } : Oper)) (v := ?_) rfl (by kernel_rfl) (by kernel_rfl) (by kernel_rfl) (fun _ _ _ h => h) (Or.inl ⟨by rfl, ?_⟩) (by assumption) ?_
          rotate_left
          · intro w hSw; (try dsimp only at hSw); go_simp <;> with_reducible rfl
          (try simp only [Act.put, List.setIfInBounds_toArray, List.set_cons_zero, List.set_cons_succ])
          refine wpAnyH_take (i := 8) (oi := ({ dst := some 58, op := Op.binOp BinOp.neq 36 (Operand.tmp 53) (Operand.tmp 57) 36, type := 4, pos := "ref.go:131", after := #[{ on := 3, ground := Ground.data }, { on := 7, ground := Ground.data }], guard := none } : Oper)) (v := ?_) rfl (by kernel_rfl) (by kernel_rfl) (by kernel_rfl) (fun _ _ _ h => h) (Or.inl ⟨by rfl, ?_⟩) (by assumption) ?_
          rotate_left
          · intro w hSw; (try dsimp only at hSw); go_simp <;> with_reducible rfl
          (try simp only [Act.put, List.setIfInBounds_toArray, List.set_cons_zero, List.set_cons_succ])
          refine wpAnyH_take (i := 9) (oi := ({ dst := some 59, op := Op.move (Operand.tmp 58), type := 4, pos := "ref.go:131", after := #[{ on := 8, ground := Ground.data }], guard := none } : Oper)) (v := ?_) rfl (by kernel_rfl) (by kernel_rfl) (by kernel_rfl) (fun _ _ _ h => h) (Or.inl ⟨by rfl, ?_⟩) (by assumption) ?_
          rotate_left
          · intro w hSw; (try dsimp only at hSw); go_simp <;> with_reducible rfl
          (try simp only [Act.put, List.setIfInBounds_toArray, List.set_cons_zero, List.set_cons_succ])
          refine wpAnyH_take (i := 10) (oi := ({ dst := some 60, op := Op.move (Operand.tmp 9), type := 52, pos := "ref.go:131", after := #[{ on := 9, ground := Ground.guard }], guard := some (9, true) } : Oper)) (v := ?_) rfl (by kernel_rfl) (by kernel_rfl) (by kernel_rfl) (fun _ _ _ h => h) (Or.inl ⟨by rfl, ?_⟩) (by assumption) ?_
          rotate_left
          · intro w hSw; (try dsimp only at hSw); go_simp <;> with_reducible rfl
          (try simp only [Act.put, List.setIfInBounds_toArray, List.set_cons_zero, List.set_cons_succ])
          refine wpAnyH_take (i := 11) (oi := ({ dst := some 61, op := Op.move (Operand.tmp 11), type := 3, pos := "ref.go:131", after := #[{ on := 9, ground := Ground.guard }], guard := some (9, true) } : Oper)) (v := ?_) rfl (by kernel_rfl) (by kernel_rfl) (by kernel_rfl) (fun _ _ _ h => h) (Or.inl ⟨by rfl, ?_⟩) (by assumption) ?_
          rotate_left
          · intro w hSw; (try dsimp only at hSw); go_simp <;> with_reducible rfl
          (try simp only [Act.put, List.setIfInBounds_toArray, List.set_cons_zero, List.set_cons_succ])
          refine wpAnyH_take (i := 12) (oi := ({ dst := some 62, op := Op.indexAddr 52 (Operand.tmp 60) (Operand.tmp 61), type := 0, pos := "ref.go:131", after := #[{ on := 10, ground := Ground.data }, { on := 11, ground := Ground.data }, { on := 9, ground := Ground.guard }], guard := some (9, true) } : Oper)) (v := ?_) rfl (by kernel_rfl) (by kernel_rfl) (by kernel_rfl) (fun _ _ _ h => h) (Or.inl ⟨by rfl, ?_⟩) (by assumption) ?_
          rotate_left
          · intro w hSw; (try dsimp only at hSw); go_simp <;> with_reducible rfl
          (try simp only [Act.put, List.setIfInBounds_toArray, List.set_cons_zero, List.set_cons_succ])
          refine wpAnyH_take (i := 13) (oi := ({ dst := some 63, op := Op.indexAddr 36 (Operand.tmp 62) (Operand.const (Value.int IntKind.i64 0)), type := 0, pos := "ref.go:131", after := #[{ on := 12, ground := Ground.data }, { on := 9, ground := Ground.guard }], guard := some (9, true) } : Oper)) (v := ?_) rfl (by kernel_rfl) (by kernel_rfl) (by kernel_rfl) (fun _ _ _ h => h) (Or.inl ⟨by rfl, ?_⟩) (by assumption) ?_
          rotate_left
          · intro w hSw; (try dsimp only at hSw); go_simp <;> with_reducible rfl
          (try simp only [Act.put, List.setIfInBounds_toArray, List.set_cons_zero, List.set_cons_succ])
          refine wpAnyH_take (i := 14) (oi := ({ dst := some 64, op := Op.load 23 (Operand.tmp 63), type := 23, pos := "ref.go:131", after := #[{ on := 13, ground := Ground.data }, { on := 9, ground := Ground.guard }], guard := some (9, true) } : Oper)) (v := ?_) rfl (by kernel_rfl) (by kernel_rfl) (by kernel_rfl) (fun _ _ _ h => h) (Or.inl ⟨by rfl, ?_⟩) (by assumption) ?_
          rotate_left
          · intro w hSw; (try dsimp only at hSw); go_simp <;> with_reducible rfl
          (try simp only [Act.put, List.setIfInBounds_toArray, List.set_cons_zero, List.set_cons_succ])
          refine wpAnyH_take (i := 15) (oi := ({ dst := some 65, op := Op.move (Operand.tmp 9), type := 52, pos := "ref.go:131", after := #[{ on := 9, ground := Ground.guard }], guard := some (9, true) } : Oper)) (v := ?_) rfl (by kernel_rfl) (by kernel_rfl) (by kernel_rfl) (fun _ _ _ h => h) (Or.inl ⟨by rfl, ?_⟩) (by assumption) ?_
          rotate_left
          · intro w hSw; (try dsimp only at hSw); go_simp <;> with_reducible rfl
          (try simp only [Act.put, List.setIfInBounds_toArray, List.set_cons_zero, List.set_cons_succ])
          refine wpAnyH_take (i := 16) (oi := ({ dst := some 66, op := Op.move (Operand.tmp 11), type := 3, pos := "ref.go:131", after := #[{ on := 9, ground := Ground.guard }], guard := some (9, true) } : Oper)) (v := ?_) rfl (by kernel_rfl) (by kernel_rfl) (by kernel_rfl) (fun _ _ _ h => h) (Or.inl ⟨by rfl, ?_⟩) (by assumption) ?_
          rotate_left
          · intro w hSw; (try dsimp only at hSw); go_simp <;> with_reducible rfl
          (try simp only [Act.put, List.setIfInBounds_toArray, List.set_cons_zero, List.set_cons_succ])
          refine wpAnyH_take (i := 17) (oi := ({ dst := some 67, op := Op.indexAddr 52 (Operand.tmp 65) (Operand.tmp 66), type := 0, pos := "ref.go:131", after := #[{ on := 15, ground := Ground.data }, { on := 16, ground := Ground.data }, { on := 9, ground := Ground.guard }], guard := some (9, true) } : Oper)) (v := ?_) rfl (by kernel_rfl) (by kernel_rfl) (by kernel_rfl) (fun _ _ _ h => h) (Or.inl ⟨by rfl, ?_⟩) (by assumption) ?_
          rotate_left
          · intro w hSw; (try dsimp only at hSw); go_simp <;> with_reducible rfl
          (try simp only [Act.put, List.setIfInBounds_toArray, List.set_cons_zero, List.set_cons_succ])
          refine wpAnyH_take (i := 18) (oi := ({ dst := some 68, op := Op.indexAddr 36 (Operand.tmp 67) (Operand.const (Value.int IntKind.i64 1)), type := 0, pos := "ref.go:131", after := #[{ on := 17, ground := Ground.data }, { on := 9, ground := Ground.guard }], guard := some (9, true) } : Oper)) (v := ?_) rfl (by kernel_rfl) (by kernel_rfl) (by kernel_rfl) (fun _ _ _ h => h) (Or.inl ⟨by rfl, ?_⟩) (by assumption) ?_
          rotate_left
          · intro w hSw; (try dsimp only at hSw); go_simp <;> with_reducible rfl
          (try simp only [Act.put, List.setIfInBounds_toArray, List.set_cons_zero, List.set_cons_succ])
          refine wpAnyH_take (i := 19) (oi := ({ dst := some 69, op := Op.load 23 (Operand.tmp 68), type := 23, pos := "ref.go:131", after := #[{ on := 18, ground := Ground.data }, { on := 9, ground := Ground.guard }], guard := some (9, true) } : Oper)) (v := ?_) rfl (by kernel_rfl) (by kernel_rfl) (by kernel_rfl) (fun _ _ _ h => h) (Or.inl ⟨by rfl, ?_⟩) (by assumption) ?_
          rotate_left
          · intro w hSw; (try dsimp only at hSw); go_simp <;> with_reducible rfl
          (try simp only [Act.put, List.setIfInBounds_toArray, List.set_cons_zero, List.set_cons_succ])
          refine wpAnyH_take (i := 21) (oi := ({ dst := some 71, op := Op.move (Operand.tmp 10), type := 52, pos := "ref.go:131", after := #[{ on := 9, ground := Ground.guard }], guard := some (9, true) } : Oper)) (v := ?_) rfl (by kernel_rfl) (by kernel_rfl) (by kernel_rfl) (fun _ _ _ h => h) (Or.inl ⟨by rfl, ?_⟩) (by assumption) ?_
          rotate_left
          · intro w hSw; (try dsimp only at hSw); go_simp <;> with_reducible rfl
          (try simp only [Act.put, List.setIfInBounds_toArray, List.set_cons_zero, List.set_cons_succ])
          refine wpAnyH_take (i := 22) (oi := ({ dst := some 72, op := Op.move (Operand.tmp 11), type := 3, pos := "ref.go:131", after := #[{ on := 9, ground := Ground.guard }], guard := some (9, true) } : Oper)) (v := ?_) rfl (by kernel_rfl) (by kernel_rfl) (by kernel_rfl) (fun _ _ _ h => h) (Or.inl ⟨by rfl, ?_⟩) (by assumption) ?_
          rotate_left
          · intro w hSw; (try dsimp only at hSw); go_simp <;> with_reducible rfl
          (try simp only [Act.put, List.setIfInBounds_toArray, List.set_cons_zero, List.set_cons_succ])
          refine wpAnyH_take (i := 23) (oi := ({ dst := some 73, op := Op.indexAddr 52 (Operand.tmp 71) (Operand.tmp 72), type := 0, pos := "ref.go:131", after := #[{ on := 21, ground := Ground.data }, { on := 22, ground := Ground.data }, { on := 9, ground := Ground.guard }], guard := some (9, true) } : Oper)) (v := ?_) rfl (by kernel_rfl) (by kernel_rfl) (by kernel_rfl) (fun _ _ _ h => h) (Or.inl ⟨by rfl, ?_⟩) (by assumption) ?_
          rotate_left
          · intro w hSw; (try dsimp only at hSw); go_simp <;> with_reducible rfl
          (try simp only [Act.put, List.setIfInBounds_toArray, List.set_cons_zero, List.set_cons_succ])
          refine wpAnyH_take (i := 24) (oi := ({ dst := some 74, op := Op.indexAddr 36 (Operand.tmp 73) (Operand.const (Value.int IntKind.i64 0)), type := 0, pos := "ref.go:131", after := #[{ on := 23, ground := Ground.data }, { on := 9, ground := Ground.guard }], guard := some (9, true) } : Oper)) (v := ?_) rfl (by kernel_rfl) (by kernel_rfl) (by kernel_rfl) (fun _ _ _ h => h) (Or.inl ⟨by rfl, ?_⟩) (by assumption) ?_
          rotate_left
          · intro w hSw; (try dsimp only at hSw); go_simp <;> with_reducible rfl
          (try simp only [Act.put, List.setIfInBounds_toArray, List.set_cons_zero, List.set_cons_succ])
          refine wpAnyH_take (i := 25) (oi := ({ dst := some 75, op := Op.load 23 (Operand.tmp 74), type := 23, pos := "ref.go:131", after := #[{ on := 24, ground := Ground.data }, { on := 9, ground := Ground.guard }], guard := some (9, true) } : Oper)) (v := ?_) rfl (by kernel_rfl) (by kernel_rfl) (by kernel_rfl) (fun _ _ _ h => h) (Or.inl ⟨by rfl, ?_⟩) (by assumption) ?_
          rotate_left
          · intro w hSw; (try dsimp only at hSw); go_simp <;> with_reducible rfl
          (try simp only [Act.put, List.setIfInBounds_toArray, List.set_cons_zero, List.set_cons_succ])
          refine wpAnyH_take (i := 26) (oi := ({ dst := some 76, op := Op.move (Operand.tmp 10), type := 52, pos := "ref.go:131", after := #[{ on := 9, ground := Ground.guard }], guard := some (9, true) } : Oper)) (v := ?_) rfl (by kernel_rfl) (by kernel_rfl) (by kernel_rfl) (fun _ _ _ h => h) (Or.inl ⟨by rfl, ?_⟩) (by assumption) ?_
          rotate_left
          · intro w hSw; (try dsimp only at hSw); go_simp <;> with_reducible rfl
          (try simp only [Act.put, List.setIfInBounds_toArray, List.set_cons_zero, List.set_cons_succ])
          refine wpAnyH_take (i := 27) (oi := ({ dst := some 77, op := Op.move (Operand.tmp 11), type := 3, pos := "ref.go:131", after := #[{ on := 9, ground := Ground.guard }], guard := some (9, true) } : Oper)) (v := ?_) rfl (by kernel_rfl) (by kernel_rfl) (by kernel_rfl) (fun _ _ _ h => h) (Or.inl ⟨by rfl, ?_⟩) (by assumption) ?_
          rotate_left
          · intro w hSw; (try dsimp only at hSw); go_simp <;> with_reducible rfl
          (try simp only [Act.put, List.setIfInBounds_toArray, List.set_cons_zero, List.set_cons_succ])
          refine wpAnyH_take (i := 28) (oi := ({ dst := some 78, op := Op.indexAddr 52 (Operand.tmp 76) (Operand.tmp 77), type := 0, pos := "ref.go:131", after := #[{ on := 26, ground := Ground.data }, { on := 27, ground := Ground.data }, { on := 9, ground := Ground.guard }], guard := some (9, true) } : Oper)) (v := ?_) rfl (by kernel_rfl) (by kernel_rfl) (by kernel_rfl) (fun _ _ _ h => h) (Or.inl ⟨by rfl, ?_⟩) (by assumption) ?_
          rotate_left
          · intro w hSw; (try dsimp only at hSw); go_simp <;> with_reducible rfl
          (try simp only [Act.put, List.setIfInBounds_toArray, List.set_cons_zero, List.set_cons_succ])
          refine wpAnyH_take (i := 29) (oi := ({ dst := some 79, op := Op.indexAddr 36 (Operand.tmp 78) (Operand.const (Value.int IntKind.i64 1)), type := 0, pos := "ref.go:131", after := #[{ on := 28, ground := Ground.data }, { on := 9, ground := Ground.guard }], guard := some (9, true) } : Oper)) (v := ?_) rfl (by kernel_rfl) (by kernel_rfl) (by kernel_rfl) (fun _ _ _ h => h) (Or.inl ⟨by rfl, ?_⟩) (by assumption) ?_
          rotate_left
          · intro w hSw; (try dsimp only at hSw); go_simp <;> with_reducible rfl
          (try simp only [Act.put, List.setIfInBounds_toArray, List.set_cons_zero, List.set_cons_succ])
          refine wpAnyH_take (i := 30) (oi := ({ dst := some 80, op := Op.load 23 (Operand.tmp 79), type := 23, pos := "ref.go:131", after := #[{ on := 29, ground := Ground.data }, { on := 9, ground := Ground.guard }], guard := some (9, true) } : Oper)) (v := ?_) rfl (by kernel_rfl) (by kernel_rfl) (by kernel_rfl) (fun _ _ _ h => h) (Or.inl ⟨by rfl, ?_⟩) (by assumption) ?_
          rotate_left
          · intro w hSw; (try dsimp only at hSw); go_simp <;> with_reducible rfl
          (try simp only [Act.put, List.setIfInBounds_toArray, List.set_cons_zero, List.set_cons_succ])
          refine wpAnyH_ready (rs := [20]) (by kernel_rfl) (by simp) ?_
          refine AllReadyH.cons (o := ({ dst := some 70, op := Op.call { callee := Callee.value (Operand.func 18), args := #[Operand.tmp 64, Operand.tmp 69], argTypes := #[23, 23] }, type := 23, pos := "ref.go:131", after := #[{ on := 14, ground := Ground.data }, { on := 19, ground := Ground.data }, { on := 9, ground := Ground.chain }, { on := 9, ground := Ground.guard }], guard := some (9, true) } : Oper)) rfl (fun K hK => ?_) ?_
          rotate_left
          · exact AllReadyH.nil
          go_simp
          go_at_call 18
          with_reducible refine (J1.out _).mono ?_
          rintro e y0 ⟨rfl, hq0⟩
          have hB0 := below_step hsd hq0
          clear hHeld
          first | (with_reducible refine hK.out _ _ ?_ (fun hHeld => ?_)) | (go_wp2_with fail; with_reducible refine hK.out _ _ ?_ (fun hHeld => ?_))
          · exact ⟨cell_below hB0 c1, cell_below hB0 c2, cell_below hB0 c3, cell_below hB0 c4, hB0⟩
          clear hK K
          (try simp only [Act.put, List.setIfInBounds_toArray, List.set_cons_zero, List.set_cons_succ])
          refine wpAnyH_ready (rs := [31]) (by kernel_rfl) (by simp) ?_
          refine AllReadyH.cons (o := ({ dst := some 81, op := Op.call { callee := Callee.value (Operand.func 18), args := #[Operand.tmp 75, Operand.tmp 80], argTypes := #[23, 23] }, type := 23, pos := "ref.go:131", after := #[{ on := 25, ground := Ground.data }, { on := 30, ground := Ground.data }, { on := 20, ground := Ground.chain }, { on := 9, ground := Ground.guard }], guard := some (9, true) } : Oper)) rfl (fun K hK => ?_) ?_
          rotate_left
          · exact AllReadyH.nil
          go_simp
          go_at_call 18
          with_reducible refine (J2.out _).mono ?_
          rintro e y1 ⟨rfl, hq1⟩
          have hB1 := below_step hB0 hq1
          clear hHeld
          first | (with_reducible refine hK.out _ _ ?_ (fun hHeld => ?_)) | (go_wp2_with fail; with_reducible refine hK.out _ _ ?_ (fun hHeld => ?_))
          · exact ⟨cell_below hB1 c1, cell_below hB1 c2, cell_below hB1 c3, cell_below hB1 c4, hB1⟩
          clear hK K
          (try simp only [Act.put, List.setIfInBounds_toArray, List.set_cons_zero, List.set_cons_succ])
          refine wpAnyH_take (i := 32) (oi := ({ dst := some 82, op := Op.binOp BinOp.eql 23 (Operand.tmp 70) (Operand.tmp 81) 23, type := 4, pos := "ref.go:131", after := #[{ on := 20, ground := Ground.data }, { on := 31, ground := Ground.data }, { on := 9, ground := Ground.guard }], guard := some (9, true) } : Oper)) (v := ?_) rfl (by kernel_rfl) (by kernel_rfl) (by kernel_rfl) (fun _ _ _ h => h) (Or.inl ⟨by rfl, ?_⟩) (by assumption) ?_
          rotate_left
          · intro w hSw; (try dsimp only at hSw); go_simp <;> with_reducible rfl
          (try simp only [Act.put, List.setIfInBounds_toArray, List.set_cons_zero, List.set_cons_succ])
          refine wpAnyH_take (i := 33) (oi := ({ dst := some 83, op := Op.pick (Operand.tmp 59) (Operand.tmp 82) (Operand.const (Value.bool false)), type := 4, pos := "ref.go:131", after := #[{ on := 9, ground := Ground.data }, { on := 32, ground := Ground.data }], guard := none } : Oper)) (v := ?_) rfl (by kernel_rfl) (by kernel_rfl) (by kernel_rfl) (fun _ _ _ h => h) (Or.inl ⟨by rfl, ?_⟩) (by assumption) ?_
          rotate_left
          · intro w hSw; (try dsimp only at hSw); go_simp <;> with_reducible rfl
          (try simp only [Act.put, List.setIfInBounds_toArray, List.set_cons_zero, List.set_cons_succ])
          refine wpAnyH_done (by kernel_rfl) ?_ _
          have BN := hid (below_step BR.out hB1)
          clear hHeld
          go_wp2_with fail
          go_roundw
          case rel => exact ⟨k + 1, by omega, by go_num, FN, BN⟩
          case measure => simp [intOf]; omega
    · have hkk : k = a + 1 + 1 := by omega
      have HE := hid (show collR none = RV from by
        rw [← HRV.out]
        have h := FN0.out
        rw [hkk, ← ZL.out, List.take_length] at h
        rw [h])
      have BN0 := below_step BB.out BR.out
      clear FN0 hlt
      have RB := (BN0.block (w.heap.size + 1 + 1) (by have := HZ.out; omega)).trans HR.out
      obtain ⟨m, hm, -⟩ := set5R_facts (.int .u64 0) (.int .u64 0) (.int .u64 0) (.int .u64 0) (.bool false) RB (by omega) (below_step B0.out BN0)
      have HM := hid hm
      unfold set5R at m HM
      have f0 := blk_free RB 0
      have f1 := blk_free RB 1
      have f2 := blk_free RB 2
      have f3 := blk_free RB 3
      have f4 := blk_free RB 4
      have k0 := blk_cell RB (j := 0) (v := .int .u64 0) rfl
      have k1 := blk_cell RB (j := 1) (v := .int .u64 0) rfl
      have k2 := blk_cell RB (j := 2) (v := .int .u64 0) rfl
      have k3 := blk_cell RB (j := 3) (v := .int .u64 0) rfl
      have k4 := blk_cell RB (j := 4) (v := .bool false) rfl
      have m0 := blk_cell m (j := 0) (v := .int .u64 0) rfl
      have m1 := blk_cell m (j := 1) (v := .int .u64 0) rfl
      have m2 := blk_cell m (j := 2) (v := .int .u64 0) rfl
      have m3 := blk_cell m (j := 3) (v := .int .u64 0) rfl
      have m4 := blk_cell m (j := 4) (v := .bool false) rfl
      have p0 := blk_cell (j := 0) (v := .int .u64 0) (blk_set (j := 0) RB (.int .u64 0)) rfl
      have p1 := blk_cell (j := 1) (v := .int .u64 0) (blk_set (j := 1) (blk_set (j := 0) RB (.int .u64 0)) (.int .u64 0)) rfl
      have p2 := blk_cell (j := 2) (v := .int .u64 0) (blk_set (j := 2) (blk_set (j := 1) (blk_set (j := 0) RB (.int .u64 0)) (.int .u64 0)) (.int .u64 0)) rfl
      have p3 := blk_cell (j := 3) (v := .int .u64 0) (blk_set (j := 3) (blk_set (j := 2) (blk_set (j := 1) (blk_set (j := 0) RB (.int .u64 0)) (.int .u64 0)) (.int .u64 0)) (.int .u64 0)) rfl
      have p4 := blk_cell (j := 4) (v := .bool false) (blk_set (j := 4) (blk_set (j := 3) (blk_set (j := 2) (blk_set (j := 1) (blk_set (j := 0) RB (.int .u64 0)) (.int .u64 0)) (.int .u64 0)) (.int .u64 0)) (.bool false)) rfl
      clear hm m RB
      go_wp2_with fail
      (try simp only [Exit.inBlock, Exit.then])
      exact bodyPost_ret (v := .agg #[.int .u64 0, .int .u64 0, .int .u64 0, .int .u64 0, .bool false]) (by simp [results, Try.results13, go_sem, p0, p1, p2, p3, p4, m0, m1, m2, m3, m4]) rfl ⟨by rw [← HE.out]; rfl, HM.out⟩


theorem rcollide_any (n i : Int) (lp lq : BitVec 64) (pp pq : List (BitVec 64)) (a b : Nat) (hlp : pp.length = a) (hlq : pq.length = b) (pa qa : Option Addr) (pc qc : Nat) (w : World) (hp : U64At w (.slice pa a pc) pp) (hq : U64At w (.slice qa b qc) pq) :
    Calls Try.prog 13 #[.int .i64 n, .int .i64 i, .agg #[.int .u64 (lp.toNat : Int), .slice pa a pc], .agg #[.int .u64 (lq.toNat : Int), .slice qa b qc]] w fun e w' => e = .returned (collR (collideB n i lp pp lq pq)) ∧ Below w.heap.size w w' := by
  unfold collideB
  by_cases he : placeE n i = 0
  · obtain ⟨h1, h2, h3⟩ := place_ok he
    obtain ⟨n, rfl⟩ : ∃ k : Nat, n = (k : Int) := ⟨n.toNat, by omega⟩
    obtain ⟨i, rfl⟩ : ∃ k : Nat, i = (k : Int) := ⟨i.toNat, by omega⟩
    rw [if_neg (by simpa using he)]
    simp only [Int.toNat_natCast, aheads_len]
    by_cases h4 : a = (sibs 0 n i).length
    · by_cases h5 : b = a
      · subst h5
        rw [if_pos ⟨by omega, by omega⟩]
        exact rcoll_in n i lp lq (by omega) (by omega) pp pq b h4.symm hlp hlq pa qa pc qc w hp hq
      · rw [if_neg (fun h => h5 (by omega))]
        exact rcoll_ne2 n i lp lq (by omega) (by omega) a b h4.symm h5 pa qa pc qc w
    · rw [if_neg (fun h => h4 (by omega))]
      exact rcoll_ne1 n i lp lq (by omega) (by omega) _ rfl a b h4 pa qa pc qc w
  · rw [if_pos he]
    exact rcoll_bad n i lp lq _ rfl he a b pa qa pc qc w
end Go.Proofs.Ytchmiaeajkpijaa

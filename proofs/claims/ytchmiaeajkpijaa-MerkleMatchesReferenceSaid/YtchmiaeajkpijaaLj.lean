import Derived.Test.YtchmiaeajkpijaaLl
namespace Go.Proofs.Ytchmiaeajkpijaa
open Go.RowKit Go.Shelf
set_option linter.unusedVariables false

/-! 'Collide': where the second path is of another length; all cases where the first is an own path. -/
set_option maxRecDepth 100000 in
set_option maxHeartbeats 2000000 in
theorem collide_lenq (n i : Nat) (hi : i < n) (hn : n ≤ 4096) (lp lq : BitVec 64) (k ql : Nat) (hk : (sibs 0 n i).length = k) (hne : ql ≠ k) (pa qa : Option Addr) (pc qc : Nat) (w : World) :
    Calls Try.prog 12 #[.int .i64 (n : Int), .int .i64 (i : Int), .agg #[.int .u64 (lp.toNat : Int), .slice pa k pc], .agg #[.int .u64 (lq.toNat : Int), .slice qa ql qc]] w fun e w' => e = .returned (collV none) ∧ Below w.heap.size w w' := by
  have pl : placeE n i = 0 := by
    rcases place_cases n i with h1 | h1 | h1 | h1 <;> omega
  have PL := hid (fun W => pl ▸ place_any n i W)
  have PP := hid (fun W => pathLen_any n i hi (by omega) W)
  rw [hk] at PP
  have t1 : ((ql : Int) == (k : Int)) = false := by rw [beq_eq_false_iff_ne]; omega
  have t2 : ((ql : Int) != (k : Int)) = true := by rw [bne_iff_ne]; omega
  have t3 : (ql == k) = false := by rw [beq_eq_false_iff_ne]; omega
  clear pl hk
  go_enter Try.func12, Try.ntmps12
  go_wp2_with fail
  refine (PL.out _).mono ?_
  clear PL
  rintro e W0 ⟨rfl, hW0⟩
  have F0 := collW_facts w (.int .u64 (lp.toNat : Int)) (.slice pa k pc) (.int .u64 (lq.toNat : Int)) (.slice qa ql qc)
  rw [show collW w (.int .u64 (lp.toNat : Int)) (.slice pa k pc) (.int .u64 (lq.toNat : Int)) (.slice qa ql qc) = W0 from hW0] at F0
  clear hW0
  go_wp2_with fail
  refine (PP.out _).mono ?_
  clear PP
  rintro e W1 ⟨rfl, hW1⟩
  obtain ⟨fs, fp, fq, fr, fb, fB⟩ := F0
  have gp := (hW1.block _ (by omega)).trans fp
  have gq := (hW1.block _ (by omega)).trans fq
  have hz := (hW1.block _ (by omega)).trans fr
  have hbz : Boxed W1 (w.heap.size + 1 + 1 + 1) 4 (.bool false) := (hW1.block _ (by omega)).trans fb
  have B1 := hid (show Below w.heap.size w W1 from fB.trans (hW1.mono (by omega)))
  clear fs fp fq fr fb fB hW1 W0
  have p1 := blk_cell gp (j := 1) (v := .slice pa k pc) rfl
  have q1 := blk_cell gq (j := 1) (v := .slice qa ql qc) rfl
  clear gp gq
  have k0 := blk_cell hz (j := 0) (v := .int .u64 0) rfl
  have k1 := blk_cell hz (j := 1) (v := .int .u64 0) rfl
  have k2 := blk_cell hz (j := 2) (v := .int .u64 0) rfl
  have k3 := blk_cell hz (j := 3) (v := .int .u64 0) rfl
  have e0 := blk_free hz 0
  have e1 := blk_free hz 1
  have e2 := blk_free hz 2
  have e3 := blk_free hz 3
  have kb := hbz.cell
  have fb := hbz.frozen
  have F := hid (set5_facts (.int .u64 0) (.int .u64 0) (.int .u64 0) (.int .u64 0) (.bool false) hz hbz (by omega))
  clear hz hbz
  go_wp2
  (try simp only [Exit.inBlock, Exit.then])
  obtain ⟨g1, g2, g3, g4, g5⟩ := F.out
  exact bodyPost_ret (coll_results _ _ (w.heap.size + 1 + 1) (w.heap.size + 1 + 1 + 1) #[.int .u64 0, .int .u64 0, .int .u64 0, .int .u64 0] (.bool false) rfl rfl g1 rfl g2) rfl ⟨rfl, g5 _ _ B1.out (by omega) (by omega)⟩
/-- Collide, of a path of the right length and any other. -/
theorem collide_own (n i : Nat) (hi : i < n) (hn : n ≤ 4096) (lp lq : BitVec 64) (pp pq : List (BitVec 64)) (k ql : Nat) (hk : (sibs 0 n i).length = k) (hlp : pp.length = k) (hlq : pq.length = ql) (pa qa : Option Addr) (pc qc : Nat) (w : World) (hp : U64At w (.slice pa k pc) pp) (hq : U64At w (.slice qa ql qc) pq) :
    Calls Try.prog 12 #[.int .i64 (n : Int), .int .i64 (i : Int), .agg #[.int .u64 (lp.toNat : Int), .slice pa k pc], .agg #[.int .u64 (lq.toNat : Int), .slice qa ql qc]] w fun e w' => e = .returned (collV (collideB n i lp pp lq pq)) ∧ Below w.heap.size w w' := by
  have pl : placeE n i = 0 := by
    rcases place_cases n i with h1 | h1 | h1 | h1 <;> omega
  by_cases h : ql = k
  · subst h
    have := (callsIn_wide (n := 0)).1 (collide_in n i hi hn lp lq pp pq ql hk hlp hlq pa qa pc qc 0 w hp hq)
    have e : collideB n i lp pp lq pq = ((pairsB n i lp pp).zip (pairsB n i lq pq)).find? hits := by
      unfold collideB
      rw [if_neg (by simpa using pl), if_pos ⟨by rw [aheads_len]; simp; omega, by rw [aheads_len]; simp; omega⟩]
      rfl
    rw [e]
    exact this
  · have := collide_lenq n i hi hn lp lq k ql hk h pa qa pc qc w
    have e : collideB n i lp pp lq pq = none := by
      unfold collideB
      rw [if_neg (by simpa using pl), if_neg]
      rintro ⟨-, h2⟩
      rw [aheads_len] at h2
      simp at h2
      omega
    rw [e]
    exact this
end Go.Proofs.Ytchmiaeajkpijaa

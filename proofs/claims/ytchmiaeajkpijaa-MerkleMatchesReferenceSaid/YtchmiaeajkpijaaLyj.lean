import Derived.Test.YtchmiaeajkpijaaLyd
namespace Go.Proofs.Ytchmiaeajkpijaa
open Go.RowKit Go.Shelf
set_option linter.unusedVariables false

/-! 'Collide' of all arguments. -/
set_option maxRecDepth 100000 in
set_option maxHeartbeats 2000000 in
theorem collide_lenp (n i : Nat) (hi : i < n) (hn : n ≤ 4096) (lp lq : BitVec 64) (k plen ql : Nat) (hk : (sibs 0 n i).length = k) (hne : plen ≠ k) (pa qa : Option Addr) (pc qc : Nat) (w : World) :
    Calls Try.prog 12 #[.int .i64 (n : Int), .int .i64 (i : Int), .agg #[.int .u64 (lp.toNat : Int), .slice pa plen pc], .agg #[.int .u64 (lq.toNat : Int), .slice qa ql qc]] w fun e w' => e = .returned (collV none) ∧ Below w.heap.size w w' := by
  have pl : placeE n i = 0 := by
    rcases place_cases n i with h1 | h1 | h1 | h1 <;> omega
  have PL := hid (fun W => pl ▸ place_any n i W)
  have PP := hid (fun W => pathLen_any n i hi (by omega) W)
  rw [hk] at PP
  have t1 : ((plen : Int) == (k : Int)) = false := by rw [beq_eq_false_iff_ne]; omega
  have t2 : ((plen : Int) != (k : Int)) = true := by rw [bne_iff_ne]; omega
  have t3 : (plen == k) = false := by rw [beq_eq_false_iff_ne]; omega
  clear pl hk
  go_enter Try.func12, Try.ntmps12
  go_wp2_with fail
  refine (PL.out _).mono ?_
  clear PL
  rintro e W0 ⟨rfl, hW0⟩
  have F0 := collW_facts w (.int .u64 (lp.toNat : Int)) (.slice pa plen pc) (.int .u64 (lq.toNat : Int)) (.slice qa ql qc)
  rw [show collW w (.int .u64 (lp.toNat : Int)) (.slice pa plen pc) (.int .u64 (lq.toNat : Int)) (.slice qa ql qc) = W0 from hW0] at F0
  clear hW0
  go_wp2_with fail
  refine (PP.out _).mono ?_
  clear PP
  rintro e W1 ⟨rfl, hW1⟩
  obtain ⟨fs, fp, fq, fr, fb, fB⟩ := F0
  have gp := (hW1.block _ (by omega)).trans fp
  have gq := (hW1.block _ (by omega)).trans fq
  have hz := (hW1.block _ (by omega)).trans fr
  have hbz : Boxed W1 (w.heap.size + 1 + 1 + 1) 4 (.bool false) := (hW1.block _ (by omega)).trans fb
  have B1 := hid (show Below w.heap.size w W1 from fB.trans (hW1.mono (by omega)))
  clear fs fp fq fr fb fB hW1 W0
  have p1 := blk_cell gp (j := 1) (v := .slice pa plen pc) rfl
  have q1 := blk_cell gq (j := 1) (v := .slice qa ql qc) rfl
  clear gp gq
  have k0 := blk_cell hz (j := 0) (v := .int .u64 0) rfl
  have k1 := blk_cell hz (j := 1) (v := .int .u64 0) rfl
  have k2 := blk_cell hz (j := 2) (v := .int .u64 0) rfl
  have k3 := blk_cell hz (j := 3) (v := .int .u64 0) rfl
  have e0 := blk_free hz 0
  have e1 := blk_free hz 1
  have e2 := blk_free hz 2
  have e3 := blk_free hz 3
  have kb := hbz.cell
  have fb := hbz.frozen
  have F := hid (set5_facts (.int .u64 0) (.int .u64 0) (.int .u64 0) (.int .u64 0) (.bool false) hz hbz (by omega))
  clear hz hbz
  go_wp2
  (try simp only [Exit.inBlock, Exit.then])
  obtain ⟨g1, g2, g3, g4, g5⟩ := F.out
  exact bodyPost_ret (coll_results _ _ (w.heap.size + 1 + 1) (w.heap.size + 1 + 1 + 1) #[.int .u64 0, .int .u64 0, .int .u64 0, .int .u64 0] (.bool false) rfl rfl g1 rfl g2) rfl ⟨rfl, g5 _ _ B1.out (by omega) (by omega)⟩
theorem mcollide_any (n i : Int) (lp lq : BitVec 64) (pp pq : List (BitVec 64)) (a b : Nat) (hlp : pp.length = a) (hlq : pq.length = b) (pa qa : Option Addr) (pc qc : Nat) (w : World) (hp : U64At w (.slice pa a pc) pp) (hq : U64At w (.slice qa b qc) pq) :
    Calls Try.prog 12 #[.int .i64 n, .int .i64 i, .agg #[.int .u64 (lp.toNat : Int), .slice pa a pc], .agg #[.int .u64 (lq.toNat : Int), .slice qa b qc]] w fun e w' => e = .returned (collV (collideB n i lp pp lq pq)) ∧ Below w.heap.size w w' := by
  by_cases he : placeE n i = 0
  · obtain ⟨h1, h2, h3⟩ := place_ok he
    obtain ⟨n, rfl⟩ : ∃ k : Nat, n = (k : Int) := ⟨n.toNat, by omega⟩
    obtain ⟨i, rfl⟩ : ∃ k : Nat, i = (k : Int) := ⟨i.toNat, by omega⟩
    by_cases h4 : (sibs 0 n i).length = a
    · exact collide_own n i (by omega) (by omega) lp lq pp pq a b h4 hlp hlq pa qa pc qc w hp hq
    · have e : collideB n i lp pp lq pq = none := by
        unfold collideB
        rw [if_neg (by simpa using he), if_neg]
        rintro ⟨h5, -⟩
        rw [aheads_len] at h5
        simp at h5
        omega
      rw [e]
      exact collide_lenp n i (by omega) (by omega) lp lq _ a b rfl (fun h => h4 h.symm) pa qa pc qc w
  · have e : collideB n i lp pp lq pq = none := by
      unfold collideB
      rw [if_pos he]
    rw [e]
    exact collide_bad n i lp lq pa qa a pc b qc w he
end Go.Proofs.Ytchmiaeajkpijaa

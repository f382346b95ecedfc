import Derived.Test.YtdcaecpcofencaaJbc
namespace Go.Proofs.Ytdcaecpcofencaa
open Go.RowKit Go.Instr Go.Deep
set_option maxRecDepth 100000
set_option linter.unusedVariables false
set_option linter.unusedSimpArgs false

/-! The reference's Set of any variable. -/
set_option maxRecDepth 100000 in
set_option maxHeartbeats 1000000 in
theorem rset_out (w : World) {lo b n m : Nat} {R C : Nat → Nat} {Z : Nat → Nat → Int} (c : Nat) (h : Gr w lo b n m R C Z) (vv : Int) (hvv : vv < 0 ∨ (n : Int) ≤ vv) (op nn v : Int) (oa : Option Addr) (len cap : Nat) (wh : Bool) (hn : n ≤ 65536) (hm : m ≤ 65536) :
    Calls Try.prog 16 #[.slice (some ⟨b, 0, none⟩) n c, .int .i64 vv, .agg #[.int .i64 op, .int .i64 nn, .int .i64 v, .slice oa len cap], .bool wh] w fun e w' => GrRet w.heap.size n m Z w e w' := by
  obtain ⟨w0, hw0⟩ : ∃ w0, w.alloc (.cells #[.int .i64 op, .int .i64 nn, .int .i64 v, .slice oa len cap] 34) = w0 := ⟨_, rfl⟩
  have B0 := hidA (show Below w.heap.size w w0 by rw [← hw0]; exact below_al _ _)
  have hG := hidA (h.belowA B0.out)
  have Hw := hidA hw0
  clear h hw0
  by_cases hv0 : vv < 0
  · clear hvv
    go_enter Try.func16, Try.ntmps16
    go_upto_region 1 with (fail)
    rw [Hw.out]
    go_wp2_with (go_at_call 27; (with_reducible refine (copy_any _ c hG.out hn hm).mono ?_); rintro e w1 ⟨gb, gc, R1, C1, rfl, hg, hb1⟩)
    go_ret
    exact GrRet.lift B0.out (GrRet.mk' hg hb1)
  · have hvn : (n : Int) ≤ vv := by omega
    clear hvv
    go_enter Try.func16, Try.ntmps16
    go_upto_region 1 with (fail)
    rw [Hw.out]
    go_wp2_with (go_at_call 27; (with_reducible refine (copy_any _ c hG.out hn hm).mono ?_); rintro e w1 ⟨gb, gc, R1, C1, rfl, hg, hb1⟩)
    go_ret
    exact GrRet.lift B0.out (GrRet.mk' hg hb1)
theorem rset_any (w : World) {lo b n m : Nat} {R C : Nat → Nat} {Z : Nat → Nat → Int} (c : Nat) (h : Gr w lo b n m R C Z) (vv : Int) (op nn v : Int) (l : List Ex) (hok : ExOk l) (oa : Option Addr) (cap : Nat) (hx : exIn w (.mk op nn v l) (.agg #[.int .i64 op, .int .i64 nn, .int .i64 v, .slice oa l.length cap])) (wh : Bool) (hn : n ≤ 65536) (hm : m ≤ 65536) (hZ : Zok n m Z) :
    Calls Try.prog 16 #[.slice (some ⟨b, 0, none⟩) n c, .int .i64 vv, .agg #[.int .i64 op, .int .i64 nn, .int .i64 v, .slice oa l.length cap], .bool wh] w fun e w' => GrRet w.heap.size n m (setN n m Z vv wh (shiftT n op nn l).2.2 (shiftT n op nn l).1 (shiftT n op nn l).2.1) w e w' := by
  by_cases hv : 0 ≤ vv ∧ vv < n
  · obtain ⟨i, rfl⟩ : ∃ i : Nat, vv = i := ⟨vv.toNat, by omega⟩
    have hb := shiftT_bd n op nn l
    exact rset_walk w c h i (by omega) op nn v oa _ cap wh _ _ _ (hidA (fun W hW => by have h := rshift_any W op nn v l hok oa _ cap n rfl (exIn_below hW _ _ hx); exact h)) shiftT_lt (by omega) hZ hn hm
  · refine (rset_out w c h vv (by omega) op nn v oa _ cap wh hn hm).mono (fun e w' hr => hr.congr (fun i j hi _ => ?_))
    unfold setN
    rw [if_neg (by omega)]
end Go.Proofs.Ytdcaecpcofencaa

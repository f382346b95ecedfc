import Derived.Test.YtofigldjaoemfaaDoorRsr
import Derived.Deep.RegionHeld3
import Derived.Deep.RegionWith
import Derived.Deep.CutRange
import Derived.Deep.DeepCutAuto
namespace Go.Proofs.YtofigldjaoemfaaDoor
open Go.RowKit Go.Instr
set_option linter.unusedVariables false

set_option maxRecDepth 100000 in
set_option maxHeartbeats 8000000 in
theorem sums_walk (l : List (Int × Int)) (p : Option Addr) (n c : Nat) (kk : Nat) (hk : kk ≤ 255) (hn0 : n ≠ 0) (w : World) (hv : PairsBig w (.slice p n c) l) (hn : l.length = n) (hs : ∀ q ∈ l, Sh q.1 ∧ Sh q.2) (gl : Glob w) :
    Calls Tryd.prog 3 #[.slice p n c, .int .u8 (kk : Int)] w fun e w' => e = .returned (.bool true) ∧ Below w.heap.size w w' := by
  obtain ⟨i0, hi0, hz0, hz1, hz2⟩ := info_frac
  have HV := hid hv
  have HS := hid hs
  have HN := hid hn
  have EX := hid (examples_any w gl)
  clear hv hs hn gl
  go_enter Tryd.func3, Tryd.ntmps3
  go_wp2_with fail
  refine EX.out.mono ?_
  rintro e w0 ⟨rfl, hb⟩
  have B0 := hid hb; clear hb
  go_wp2_with fail
  go_loopw [6, 7, 8] (fun va vb vi wr => Rel1 w l n va vb vi wr) (fun _ _ vi _ => 20 - (intOf vi).toNat)
  case atStart =>
    refine ⟨0, w0.heap.size, 0, w0.heap.size + 1, 0, by omega, by omega, rfl, rfl, rfl, hid ⟨?_, ?_, by omega, by simp; omega, by simp, rfl, by omega, by omega, by unfold maxLen; omega, by unfold maxLen; omega⟩, hid ?_⟩
    · exact own_base (own_below (frac_nil w0) (below_a (Below.refl _ _) _)) B0.out.size
    · have := frac_nil (w0.alloc (.cells #[] 26))
      rw [World.size_alloc] at this
      exact own_base this (by have := B0.out.size; omega)
    · exact below_a (below_a B0.out _) _
  case round =>
    obtain ⟨k, ga, ca, gb, cb, hk1, hk2, rfl, rfl, rfl, TW, BR⟩ := hrel
    by_cases hlt : k < n ∧ k < 20
    · obtain ⟨h1, h2⟩ := hlt
      have hv := HV.out.below (w' := wr) (by
        have := BR.out
        exact this)
      obtain ⟨p', c', e1, hc1, hc2, hv2⟩ := hv
      simp only [Value.slice.injEq] at e1
      obtain ⟨rfl, -, rfl⟩ := e1
      obtain ⟨b, o, rfl, hcell⟩ := hv2 (by have := HN.out; omega)
      have q := hcell k (by have := HN.out; omega)
      have hsh := HS.out (l.getD k (0, 0)) (by rw [List.getD_eq_getElem?_getD, List.getElem?_eq_getElem (show k < l.length by have := HN.out; omega)]; exact List.getElem_mem _)
      have SN := hid (fracs_snoc l k (by have := HN.out; omega))
      have CR := hid (fun w => small_new (l.getD k (0, 0)).1 (denOf (l.getD k (0, 0)).2) hsh.1 (den_bd _) w)
      generalize (l.getD k (0, 0)).1 = x at *
      generalize (l.getD k (0, 0)).2 = y at *
      obtain ⟨d, hd⟩ : ∃ d, denOf y = d := ⟨_, rfl⟩
      have hd2 : 1 + bits .and .i16 y 32767 % 12 = d := hd
      have hbd := den_bd y
      rw [hd] at SN CR hbd
      obtain ⟨F, hF⟩ : ∃ F, fracOf x d = F := ⟨_, rfl⟩
      rw [hF] at SN CR
      obtain ⟨N, D⟩ := F
      have q0 := q.1
      have q1 := q.2
      have hand := and_short y
      have HD := hid (show IntKind.i64.wrap (1 + (IntKind.i64.wrap (bits .and .i16 y 32767)).tmod 12) = d by
        have e1 : IntKind.i64.wrap (bits .and .i16 y 32767) = bits .and .i16 y 32767 := by rw [IntKind.wrap_i64]; omega
        rw [e1, Int.tmod_eq_emod_of_nonneg hand.1, hd2, IntKind.wrap_i64]
        omega)
      have HX := hid (show IntKind.i64.wrap x = x by rw [IntKind.wrap_i64]; have := hsh.1; unfold Sh at this; omega)
      clear hand
      clear hv2 hcell q hsh hd hF hd2
      go_upto_region 9 with fail
      go_cut [9] (fun f wx => ∃ nf : Nat, f = .pointer (some ⟨nf, 0, none⟩) ∧ Hid (wx.cell? ⟨nf, 0, none⟩ = some (.int .i64 N) ∧ wx.cell? ⟨nf, 1, none⟩ = some (.int .i64 D) ∧ wr.heap.size ≤ nf ∧ nf < wx.heap.size ∧ Below wr.heap.size wr wx))
      case first =>
        have hsd := (Below.refl wr.heap.size wr).drew
        refine wp_region_held_drew (S := fun W' => (W'.cell? ⟨b, o + k * 2, none⟩ = some (.int .i16 x) ∧ W'.cell? ⟨b, o + k * 2 + 1, none⟩ = some (.int .i16 y))) (by kernel_rfl) ?_ (fun hHeld => ?_)
        · exact ⟨q0, q1⟩
        refine wpAnyH_take (i := 0) (oi := ({ dst := some 31, op := Op.move (Operand.tmp 0), type := 22, pos := "law.go:191", after := #[], guard := none } : Oper)) (v := ?_) rfl (by kernel_rfl) (by kernel_rfl) (by kernel_rfl) (fun _ _ _ h => h) (Or.inl ⟨by rfl, ?_⟩) (by assumption) ?_
        rotate_left
        · intro w hSw; (try dsimp only at hSw); go_simp <;> with_reducible rfl
        (try simp only [Act.put, List.setIfInBounds_toArray, List.set_cons_zero, List.set_cons_succ])
        refine wpAnyH_take (i := 1) (oi := ({ dst := some 32, op := Op.move (Operand.tmp 8), type := 3, pos := "law.go:191", after := #[], guard := none } : Oper)) (v := ?_) rfl (by kernel_rfl) (by kernel_rfl) (by kernel_rfl) (fun _ _ _ h => h) (Or.inl ⟨by rfl, ?_⟩) (by assumption) ?_
        rotate_left
        · intro w hSw; (try dsimp only at hSw); go_simp <;> with_reducible rfl
        (try simp only [Act.put, List.setIfInBounds_toArray, List.set_cons_zero, List.set_cons_succ])
        refine wpAnyH_take (i := 2) (oi := ({ dst := some 33, op := Op.indexAddr 22 (Operand.tmp 31) (Operand.tmp 32), type := 0, pos := "law.go:191", after := #[{ on := 0, ground := Ground.data }, { on := 1, ground := Ground.data }], guard := none } : Oper)) (v := ?_) rfl (by kernel_rfl) (by kernel_rfl) (by kernel_rfl) (fun _ _ _ h => h) (Or.inl ⟨by rfl, ?_⟩) (by assumption) ?_
        rotate_left
        · intro w hSw; (try dsimp only at hSw); go_simp <;> with_reducible rfl
        (try simp only [Act.put, List.setIfInBounds_toArray, List.set_cons_zero, List.set_cons_succ])
        refine wpAnyH_take (i := 3) (oi := ({ dst := some 34, op := Op.indexAddr 32 (Operand.tmp 33) (Operand.const (Value.int IntKind.i64 0)), type := 0, pos := "law.go:191", after := #[{ on := 2, ground := Ground.data }], guard := none } : Oper)) (v := ?_) rfl (by kernel_rfl) (by kernel_rfl) (by kernel_rfl) (fun _ _ _ h => h) (Or.inl ⟨by rfl, ?_⟩) (by assumption) ?_
        rotate_left
        · intro w hSw; (try dsimp only at hSw); go_simp <;> with_reducible rfl
        (try simp only [Act.put, List.setIfInBounds_toArray, List.set_cons_zero, List.set_cons_succ])
        refine wpAnyH_take (i := 4) (oi := ({ dst := some 35, op := Op.load 31 (Operand.tmp 34), type := 31, pos := "law.go:191", after := #[{ on := 3, ground := Ground.data }], guard := none } : Oper)) (v := ?_) rfl (by kernel_rfl) (by kernel_rfl) (by kernel_rfl) (fun _ _ _ h => h) (Or.inl ⟨by rfl, ?_⟩) (by assumption) ?_
        rotate_left
        · intro w hSw; (try dsimp only at hSw); go_simp <;> with_reducible rfl
        (try simp only [Act.put, List.setIfInBounds_toArray, List.set_cons_zero, List.set_cons_succ])
        refine wpAnyH_take (i := 5) (oi := ({ dst := some 36, op := Op.convert 31 3 (Operand.tmp 35), type := 3, pos := "law.go:191", after := #[{ on := 4, ground := Ground.data }], guard := none } : Oper)) (v := ?_) rfl (by kernel_rfl) (by kernel_rfl) (by kernel_rfl) (fun _ _ _ h => h) (Or.inl ⟨by rfl, ?_⟩) (by assumption) ?_
        rotate_left
        · intro w hSw; (try dsimp only at hSw); go_simp <;> with_reducible rfl
        (try simp only [Act.put, List.setIfInBounds_toArray, List.set_cons_zero, List.set_cons_succ])
        refine wpAnyH_take (i := 6) (oi := ({ dst := some 37, op := Op.move (Operand.tmp 0), type := 22, pos := "law.go:191", after := #[], guard := none } : Oper)) (v := ?_) rfl (by kernel_rfl) (by kernel_rfl) (by kernel_rfl) (fun _ _ _ h => h) (Or.inl ⟨by rfl, ?_⟩) (by assumption) ?_
        rotate_left
        · intro w hSw; (try dsimp only at hSw); go_simp <;> with_reducible rfl
        (try simp only [Act.put, List.setIfInBounds_toArray, List.set_cons_zero, List.set_cons_succ])
        refine wpAnyH_take (i := 7) (oi := ({ dst := some 38, op := Op.move (Operand.tmp 8), type := 3, pos := "law.go:191", after := #[], guard := none } : Oper)) (v := ?_) rfl (by kernel_rfl) (by kernel_rfl) (by kernel_rfl) (fun _ _ _ h => h) (Or.inl ⟨by rfl, ?_⟩) (by assumption) ?_
        rotate_left
        · intro w hSw; (try dsimp only at hSw); go_simp <;> with_reducible rfl
        (try simp only [Act.put, List.setIfInBounds_toArray, List.set_cons_zero, List.set_cons_succ])
        refine wpAnyH_take (i := 8) (oi := ({ dst := some 39, op := Op.indexAddr 22 (Operand.tmp 37) (Operand.tmp 38), type := 0, pos := "law.go:191", after := #[{ on := 6, ground := Ground.data }, { on := 7, ground := Ground.data }], guard := none } : Oper)) (v := ?_) rfl (by kernel_rfl) (by kernel_rfl) (by kernel_rfl) (fun _ _ _ h => h) (Or.inl ⟨by rfl, ?_⟩) (by assumption) ?_
        rotate_left
        · intro w hSw; (try dsimp only at hSw); go_simp <;> with_reducible rfl
        (try simp only [Act.put, List.setIfInBounds_toArray, List.set_cons_zero, List.set_cons_succ])
        refine wpAnyH_take (i := 9) (oi := ({ dst := some 40, op := Op.indexAddr 32 (Operand.tmp 39) (Operand.const (Value.int IntKind.i64 1)), type := 0, pos := "law.go:191", after := #[{ on := 8, ground := Ground.data }], guard := none } : Oper)) (v := ?_) rfl (by kernel_rfl) (by kernel_rfl) (by kernel_rfl) (fun _ _ _ h => h) (Or.inl ⟨by rfl, ?_⟩) (by assumption) ?_
        rotate_left
        · intro w hSw; (try dsimp only at hSw); go_simp <;> with_reducible rfl
        (try simp only [Act.put, List.setIfInBounds_toArray, List.set_cons_zero, List.set_cons_succ])
        refine wpAnyH_take (i := 10) (oi := ({ dst := some 41, op := Op.load 31 (Operand.tmp 40), type := 31, pos := "law.go:191", after := #[{ on := 9, ground := Ground.data }], guard := none } : Oper)) (v := ?_) rfl (by kernel_rfl) (by kernel_rfl) (by kernel_rfl) (fun _ _ _ h => h) (Or.inl ⟨by rfl, ?_⟩) (by assumption) ?_
        rotate_left
        · intro w hSw; (try dsimp only at hSw); go_simp <;> with_reducible rfl
        (try simp only [Act.put, List.setIfInBounds_toArray, List.set_cons_zero, List.set_cons_succ])
        refine wpAnyH_take (i := 11) (oi := ({ dst := some 42, op := Op.binOp BinOp.and 31 (Operand.tmp 41) (Operand.const (Value.int IntKind.i16 32767)) 31, type := 31, pos := "law.go:191", after := #[{ on := 10, ground := Ground.data }], guard := none } : Oper)) (v := ?_) rfl (by kernel_rfl) (by kernel_rfl) (by kernel_rfl) (fun _ _ _ h => h) (Or.inl ⟨by rfl, ?_⟩) (by assumption) ?_
        rotate_left
        · intro w hSw; (try dsimp only at hSw); go_simp <;> with_reducible rfl
        (try simp only [Act.put, List.setIfInBounds_toArray, List.set_cons_zero, List.set_cons_succ])
        refine wpAnyH_take (i := 12) (oi := ({ dst := some 43, op := Op.convert 31 3 (Operand.tmp 42), type := 3, pos := "law.go:191", after := #[{ on := 11, ground := Ground.data }], guard := none } : Oper)) (v := ?_) rfl (by kernel_rfl) (by kernel_rfl) (by kernel_rfl) (fun _ _ _ h => h) (Or.inl ⟨by rfl, ?_⟩) (by assumption) ?_
        rotate_left
        · intro w hSw; (try dsimp only at hSw); go_simp <;> with_reducible rfl
        (try simp only [Act.put, List.setIfInBounds_toArray, List.set_cons_zero, List.set_cons_succ])
        refine wpAnyH_take (i := 13) (oi := ({ dst := some 44, op := Op.binOp BinOp.rem 3 (Operand.tmp 43) (Operand.const (Value.int IntKind.i64 12)) 3, type := 3, pos := "law.go:191", after := #[{ on := 12, ground := Ground.data }], guard := none } : Oper)) (v := ?_) rfl (by kernel_rfl) (by kernel_rfl) (by kernel_rfl) (fun _ _ _ h => h) (Or.inl ⟨by rfl, ?_⟩) (by assumption) ?_
        rotate_left
        · intro w hSw; (try dsimp only at hSw); go_simp <;> with_reducible rfl
        (try simp only [Act.put, List.setIfInBounds_toArray, List.set_cons_zero, List.set_cons_succ])
        refine wpAnyH_take (i := 14) (oi := ({ dst := some 45, op := Op.binOp BinOp.add 3 (Operand.const (Value.int IntKind.i64 1)) (Operand.tmp 44) 3, type := 3, pos := "law.go:191", after := #[{ on := 13, ground := Ground.data }], guard := none } : Oper)) (v := ?_) rfl (by kernel_rfl) (by kernel_rfl) (by kernel_rfl) (fun _ _ _ h => h) (Or.inl ⟨by rfl, ?_⟩) (by assumption) ?_
        rotate_left
        · intro w hSw; (try dsimp only at hSw); go_simp <;> with_reducible rfl
        (try simp only [Act.put, List.setIfInBounds_toArray, List.set_cons_zero, List.set_cons_succ])
        refine wpAnyH_ready (rs := [15, 16]) (by kernel_rfl) (by simp) ?_
        refine (AllReadyH.cons (o := ({ dst := some 46, op := Op.call { callee := Callee.value (Operand.func 6), args := #[Operand.tmp 36, Operand.tmp 45], argTypes := #[3, 3] }, type := 29, pos := "law.go:191", after := #[{ on := 5, ground := Ground.data }, { on := 14, ground := Ground.data }], guard := none } : Oper)) rfl (fun K hK => ?_) (AllReadyH.cons (o := ({ dst := some 9, op := Op.alloc 29, type := 0, pos := "law.go:191", after := #[], guard := none } : Oper)) rfl (fun K hK => ?_) AllReadyH.nil))
        · skip
          go_simp
          go_at_call 6
          rw [HX.out, HD.out]
          with_reducible refine (CR.out _).mono ?_
          rintro e y1 ⟨rfl, hq⟩
          have hsc := below_step hsd hq
          clear hq hHeld
          first | (with_reducible refine hK.out _ _ ?_ (fun hHeld => ?_)) | (go_wp2_with fail; with_reducible refine hK.out _ _ ?_ (fun hHeld => ?_))
          · exact ⟨cell_below hsc q0, cell_below hsc q1⟩
          clear hK K
          (try simp only [Act.put, List.setIfInBounds_toArray, List.set_cons_zero, List.set_cons_succ])
          refine wpAnyH_ready (rs := [16]) (by kernel_rfl) (by simp) ?_
          refine (AllReadyH.cons (o := ({ dst := some 9, op := Op.alloc 29, type := 0, pos := "law.go:191", after := #[], guard := none } : Oper)) rfl (fun K hK => ?_) AllReadyH.nil)
          go_simp
          have hsa := below_a hsc (.cells #[.int .i64 0, .int .i64 0, .int .i64 0] 29)
          clear hHeld
          first | (with_reducible refine hK.out _ _ ?_ (fun hHeld => ?_)) | (go_wp2_with fail; with_reducible refine hK.out _ _ ?_ (fun hHeld => ?_))
          · exact ⟨cell_below hsa q0, cell_below hsa q1⟩
          clear hK K
          (try simp only [Act.put, List.setIfInBounds_toArray, List.set_cons_zero, List.set_cons_succ])
          refine wpAnyH_ready (rs := [17]) (by kernel_rfl) (by simp) ?_
          refine (AllReadyH.cons (o := ({ dst := none, op := Op.store 29 (Operand.tmp 9) (Operand.tmp 46), type := 0, pos := "law.go:191", after := #[{ on := 16, ground := Ground.data }, { on := 15, ground := Ground.data }, { on := 15, ground := Ground.chain }, { on := 0, ground := Ground.phase }, { on := 1, ground := Ground.phase }, { on := 2, ground := Ground.phase }, { on := 3, ground := Ground.phase }, { on := 4, ground := Ground.phase }, { on := 5, ground := Ground.phase }, { on := 6, ground := Ground.phase }, { on := 7, ground := Ground.phase }, { on := 8, ground := Ground.phase }, { on := 9, ground := Ground.phase }, { on := 10, ground := Ground.phase }, { on := 11, ground := Ground.phase }, { on := 12, ground := Ground.phase }, { on := 13, ground := Ground.phase }, { on := 14, ground := Ground.phase }, { on := 15, ground := Ground.phase }, { on := 16, ground := Ground.phase }], guard := none } : Oper)) rfl (fun K hK => ?_) AllReadyH.nil)
          go_simp
          have hst : Below wr.heap.size wr (y1.alloc (.cells #[.int .i64 N, .int .i64 D, .int .i64 0] 29)) := below_a hsc _
          have HFX := hid (show (y1.alloc (.cells #[.int .i64 N, .int .i64 D, .int .i64 0] 29)).cell? ⟨y1.heap.size, 0, none⟩ = some (.int .i64 N) ∧ (y1.alloc (.cells #[.int .i64 N, .int .i64 D, .int .i64 0] 29)).cell? ⟨y1.heap.size, 1, none⟩ = some (.int .i64 D) ∧ wr.heap.size ≤ y1.heap.size ∧ y1.heap.size < (y1.alloc (.cells #[.int .i64 N, .int .i64 D, .int .i64 0] 29)).heap.size ∧ Below wr.heap.size wr (y1.alloc (.cells #[.int .i64 N, .int .i64 D, .int .i64 0] 29)) from ⟨by simp [go_sem], by simp [go_sem], hsc.size, by simp, hst⟩)
          clear hHeld
          first | (with_reducible refine hK.out _ _ ?_ (fun hHeld => ?_)) | (go_wp2_with fail; with_reducible refine hK.out _ _ ?_ (fun hHeld => ?_))
          · exact ⟨cell_below hst q0, cell_below hst q1⟩
          clear hK K
          (try simp only [Act.put, List.setIfInBounds_toArray, List.set_cons_zero, List.set_cons_succ])
          refine wpAnyH_done (by kernel_rfl) ?_ _
          clear hHeld
          go_wp2_with fail
          go_meet
          exact ⟨_, rfl, HFX⟩
        · skip
          go_simp
          have hsa := below_a hsd (.cells #[.int .i64 0, .int .i64 0, .int .i64 0] 29)
          clear hHeld
          first | (with_reducible refine hK.out _ _ ?_ (fun hHeld => ?_)) | (go_wp2_with fail; with_reducible refine hK.out _ _ ?_ (fun hHeld => ?_))
          · exact ⟨cell_below hsa q0, cell_below hsa q1⟩
          clear hK K
          (try simp only [Act.put, List.setIfInBounds_toArray, List.set_cons_zero, List.set_cons_succ])
          refine wpAnyH_ready (rs := [15]) (by kernel_rfl) (by simp) ?_
          refine (AllReadyH.cons (o := ({ dst := some 46, op := Op.call { callee := Callee.value (Operand.func 6), args := #[Operand.tmp 36, Operand.tmp 45], argTypes := #[3, 3] }, type := 29, pos := "law.go:191", after := #[{ on := 5, ground := Ground.data }, { on := 14, ground := Ground.data }], guard := none } : Oper)) rfl (fun K hK => ?_) AllReadyH.nil)
          go_simp
          go_at_call 6
          rw [HX.out, HD.out]
          with_reducible refine (CR.out _).mono ?_
          rintro e y1 ⟨rfl, hq⟩
          have hsc := below_step hsa hq
          have c0 : y1.cell? ⟨wr.heap.size, 0, none⟩ = some (.int .i64 0) := cell_below hq (by simp [go_sem])
          have f0 : y1.frozen? ⟨wr.heap.size, 0, none⟩ = false := (hq.frozen (p := ⟨wr.heap.size, 0, none⟩) (by simp)).trans (by simp [go_sem])
          have hlt9 : wr.heap.size < y1.heap.size := by have := hq.size; simp at this; omega
          have c1 : y1.cell? ⟨wr.heap.size, 1, none⟩ = some (.int .i64 0) := cell_below hq (by simp [go_sem])
          have f1 : y1.frozen? ⟨wr.heap.size, 1, none⟩ = false := (hq.frozen (p := ⟨wr.heap.size, 1, none⟩) (by simp)).trans (by simp [go_sem])
          have c2 : y1.cell? ⟨wr.heap.size, 2, none⟩ = some (.int .i64 0) := cell_below hq (by simp [go_sem])
          have f2 : y1.frozen? ⟨wr.heap.size, 2, none⟩ = false := (hq.frozen (p := ⟨wr.heap.size, 2, none⟩) (by simp)).trans (by simp [go_sem])
          clear hq hHeld
          first | (with_reducible refine hK.out _ _ ?_ (fun hHeld => ?_)) | (go_wp2_with fail; with_reducible refine hK.out _ _ ?_ (fun hHeld => ?_))
          · exact ⟨cell_below hsc q0, cell_below hsc q1⟩
          clear hK K
          (try simp only [Act.put, List.setIfInBounds_toArray, List.set_cons_zero, List.set_cons_succ])
          refine wpAnyH_ready (rs := [17]) (by kernel_rfl) (by simp) ?_
          refine (AllReadyH.cons (o := ({ dst := none, op := Op.store 29 (Operand.tmp 9) (Operand.tmp 46), type := 0, pos := "law.go:191", after := #[{ on := 16, ground := Ground.data }, { on := 15, ground := Ground.data }, { on := 15, ground := Ground.chain }, { on := 0, ground := Ground.phase }, { on := 1, ground := Ground.phase }, { on := 2, ground := Ground.phase }, { on := 3, ground := Ground.phase }, { on := 4, ground := Ground.phase }, { on := 5, ground := Ground.phase }, { on := 6, ground := Ground.phase }, { on := 7, ground := Ground.phase }, { on := 8, ground := Ground.phase }, { on := 9, ground := Ground.phase }, { on := 10, ground := Ground.phase }, { on := 11, ground := Ground.phase }, { on := 12, ground := Ground.phase }, { on := 13, ground := Ground.phase }, { on := 14, ground := Ground.phase }, { on := 15, ground := Ground.phase }, { on := 16, ground := Ground.phase }], guard := none } : Oper)) rfl (fun K hK => ?_) AllReadyH.nil)
          go_simp
          have hst : Below wr.heap.size wr (((y1.setCell ⟨wr.heap.size, 0, none⟩ (.int .i64 N)).setCell ⟨wr.heap.size, 1, none⟩ (.int .i64 D)).setCell ⟨wr.heap.size, 2, none⟩ (.int .i64 0)) := ((hsc.setCell (Nat.le_refl _) _).setCell (Nat.le_refl _) _).setCell (Nat.le_refl _) _
          have HFX := hid (show (((y1.setCell ⟨wr.heap.size, 0, none⟩ (.int .i64 N)).setCell ⟨wr.heap.size, 1, none⟩ (.int .i64 D)).setCell ⟨wr.heap.size, 2, none⟩ (.int .i64 0)).cell? ⟨wr.heap.size, 0, none⟩ = some (.int .i64 N) ∧ (((y1.setCell ⟨wr.heap.size, 0, none⟩ (.int .i64 N)).setCell ⟨wr.heap.size, 1, none⟩ (.int .i64 D)).setCell ⟨wr.heap.size, 2, none⟩ (.int .i64 0)).cell? ⟨wr.heap.size, 1, none⟩ = some (.int .i64 D) ∧ wr.heap.size ≤ wr.heap.size ∧ wr.heap.size < (((y1.setCell ⟨wr.heap.size, 0, none⟩ (.int .i64 N)).setCell ⟨wr.heap.size, 1, none⟩ (.int .i64 D)).setCell ⟨wr.heap.size, 2, none⟩ (.int .i64 0)).heap.size ∧ Below wr.heap.size wr (((y1.setCell ⟨wr.heap.size, 0, none⟩ (.int .i64 N)).setCell ⟨wr.heap.size, 1, none⟩ (.int .i64 D)).setCell ⟨wr.heap.size, 2, none⟩ (.int .i64 0)) from ⟨by simp [go_sem, f0, f1, f2, c0, c1, c2], by simp [go_sem, f0, f1, f2, c0, c1, c2], Nat.le_refl _, by simp; omega, hst⟩)
          clear hHeld
          first | (with_reducible refine hK.out _ _ ?_ (fun hHeld => ?_)) | (go_wp2_with fail; with_reducible refine hK.out _ _ ?_ (fun hHeld => ?_))
          · exact ⟨cell_below hst q0, cell_below hst q1⟩
          clear hK K
          (try simp only [Act.put, List.setIfInBounds_toArray, List.set_cons_zero, List.set_cons_succ])
          refine wpAnyH_done (by kernel_rfl) ?_ _
          clear hHeld
          go_wp2_with fail
          go_meet
          exact ⟨_, rfl, HFX⟩

      case rest =>
        obtain ⟨nf, rfl, HF⟩ := hcut
        have f0 := HF.out.1
        have f1 := HF.out.2.1
        have TC := hid (TW.out.below HF.out.2.2.2.2)
        have BC := hid (BR.out.trans (HF.out.2.2.2.2.mono BR.out.size))
        go_wp2_with (at_builtin; go_must (with_reducible refine wpList_append_own _ rfl (.tmp 47) (.tmp 50) 24 rfl w.heap.size 26 i0 (.agg #[.int .i64 0, .int .i64 0]) 2 16 Tryd.underlying24 hi0 hz0 hz1 hz2 rfl (by decide) (.slice (some ⟨ga, 0, none⟩) k ca) k (fcells (fracs (l.take k))) rfl (TC.out.a.alloc _) _ 1 1 [.int .i64 N, .int .i64 D] rfl rfl (two_cells _ _ _ _) (two_one _ _) (by unfold maxLen; omega) (by omega) (by have := BC.out.size; simp; omega) ?_))
        intro v' w' hown hg hnil
        obtain ⟨ga', ca', rfl, hb1, hl1, hc3, hc4⟩ := own_some hown hnil
        have OA := hid (show w'.ownsRow w.heap.size 26 2 (.slice (some ⟨ga', 0, none⟩) (k + 1) ca') (k + 1) (fcells (fracs (l.take (k + 1)))) by rw [SN.out, fcells_append]; exact hown)
        have OB := hid (own_grown (TC.out.b.alloc (.cells #[.int .i64 N, .int .i64 D] 26)) hg (by simp [Value.ownBlock]; exact TC.out.ne))
        have nfa : nf ≠ ga := by have := TW.out.la; have := HF.out.2.2.1; omega
        have nfl := HF.out.2.2.2.1
        have g0 : w'.cell? ⟨nf, 0, none⟩ = some (.int .i64 N) := hg.cell (cell_below (below_a (Below.refl _ _) _) f0) (by simp [Value.ownBlock]; exact nfa)
        have g1 : w'.cell? ⟨nf, 1, none⟩ = some (.int .i64 D) := hg.cell (cell_below (below_a (Below.refl _ _) _) f1) (by simp [Value.ownBlock]; exact nfa)
        have BE := hid (show Below w.heap.size w w' from (BC.out.alloc BC.out.size _).grown hg (by have := BC.out.size; simp; omega) (fun j hj => (TC.out.a.lt j hj).1))
        have hlen := TC.out.len
        have FC := hid (fracs_own (l := (fracs (l.take k)).reverse) (by simpa using hlen) (OB.out.alloc (.cells #[.int .i64 N, .int .i64 D] 26)))
        clear hown hg hnil f0 f1 nfa nfl
        have hrl : (fcells (fracs (l.take k)).reverse).length = k * 2 := by rw [fcells_len, List.length_reverse, hlen]
        go_wp2_with (at_builtin; go_must (with_reducible refine wpList_append_own _ rfl (.tmp 54) (.tmp 55) 24 rfl w'.heap.size 26 i0 (.agg #[.int .i64 0, .int .i64 0]) 2 16 Tryd.underlying24 hi0 hz0 hz1 hz2 rfl (by decide) (.slice (some ⟨w'.heap.size, 0, none⟩) 1 1) 1 (fcells [(N, D)]) rfl (frac_lit _ _ _) ⟨gb, 0, none⟩ k cb (fcells (fracs (l.take k)).reverse) rfl hrl (fracs_cells FC.out) (fcells_one _) (by unfold maxLen; omega) (by omega) (by simp) ?_))
        intro v2 w2 hown hg hnil
        obtain ⟨gb', cb', rfl, hb2, hl2, hc5, hc6⟩ := own_some hown hnil
        have OA2 := hid (own_grown (OA.out.alloc (.cells #[.int .i64 N, .int .i64 D] 26)) hg (by simp [Value.ownBlock]; omega))
        have OB2 := hid (show w2.ownsRow w.heap.size 26 2 (.slice (some ⟨gb', 0, none⟩) (k + 1) cb') (k + 1) (fcells (fracs (l.take (k + 1))).reverse) by
          have e : fcells (fracs (l.take (k + 1))).reverse = fcells [(N, D)] ++ fcells (fracs (l.take k)).reverse := by rw [SN.out, List.reverse_append, ← fcells_append]; rfl
          rw [e, Nat.add_comm k 1]
          exact own_base hown BE.out.size)
        have BF := hid (show Below w.heap.size w w2 from (BE.out.alloc BE.out.size _).grown hg (by have := BE.out.size; simp; omega) (fun j hj => by simp [Value.ownBlock] at hj; have := BE.out.size; omega))
        have h3 : w'.heap.size + 1 ≤ w2.heap.size := by have := hg.size; simpa using this
        have TF := hid (show TwoRows w.heap.size (fracs (l.take (k + 1))) (k + 1) ga' ca' gb' cb' w2 from ⟨OA2.out, OB2.out, by omega, by omega, hl2, by rw [SN.out, List.length_append, hlen]; rfl, hc3, by omega, hc4, hc6⟩)
        clear hown hg hnil g0 g1
        rw [Nat.add_comm 1 k]
        go_wp2_with fail
        go_roundw
        case rel => exact ⟨k + 1, ga', ca', gb', cb', by omega, by omega, rfl, rfl, by go_num, TF, BF⟩
        case measure => simp [intOf]; omega
    · have ST := hid (fracs_small l HS.out k)
      obtain ⟨A, hA⟩ : ∃ A, fracs (l.take k) = A := ⟨_, rfl⟩
      rw [hA] at TW ST
      have HK := hid hlt
      have hle : k = 0 → n = 0 := by intro h; omega
      clear hA hlt
      go_upto_region 7 with fail
      go_cut [28] (fun s wx => s = .bool false ∧ wx = wr)
      case first =>
        by_cases h1 : k < n
        · have h2 : decide ((k : Int) < 20) = false := by have := HK.out; simp; omega
          go_wp2_with fail
          go_meet
          exact ⟨rfl, rfl⟩
        · go_wp2_with fail
          go_meet
          exact ⟨rfl, rfl⟩
      case rest =>
        obtain ⟨rfl, rfl⟩ := hcut
        by_cases hk0 : k = 0
        · exact absurd (hle hk0) hn0
        · have hkp : decide ((0 : Int) < (k : Int)) = true := by simp; omega
          have hAl := TW.out.len
          obtain ⟨q, hq⟩ : ∃ q, kk % k = q := ⟨_, rfl⟩
          have hqk : q < k := by rw [← hq]; exact Nat.mod_lt _ (by omega)
          have hqi : (kk : Int) % (k : Int) = (q : Int) := by rw [← hq]; simp
          have HQI := hid hqi
          obtain ⟨WN, WD, N1, D1, N2, D2, e1, e2, e3, e4, e5, e6, e7, e8, r1, r2, T5⟩ := sums_five ST.out (by omega) q
          have FA := fracs_own hAl TW.out.a
          have FB := fracs_own (l := A.reverse) (by simpa using hAl) TW.out.b
          have hka := TW.out.ka
          have hkb := TW.out.kb
          have C1 := hid (fun W (hW : Below wc.heap.size wc W) => total_c A WN WD ST.out (by omega) ga 0 ca k hAl hka FA e1 e2 hW)
          have C2 := hid (fun W (hW : Below wc.heap.size wc W) => total_c (A.take q) N1 D1 (small_take ST.out q) (by rw [List.length_take]; omega) ga 0 ca q (by rw [List.length_take]; omega) (by omega) (fracs_take FA q) e5 e6 hW)
          have C3 := hid (fun W (hW : Below wc.heap.size wc W) => total_c (A.drop q) N2 D2 (small_drop ST.out q) (by rw [List.length_drop]; omega) ga (0 + q * 2) (ca - q) (k - q) (by rw [List.length_drop]; omega) (by omega) (fracs_drop FA q) e7 e8 hW)
          have C4 := hid (fun W (hW : Below wc.heap.size wc W) => total_c A.reverse WN WD (small_rev ST.out) (by rw [List.length_reverse]; omega) gb 0 cb k (by rw [List.length_reverse]; omega) hkb FB e3 e4 hW)
          have C5 := hid (fun W => addT r1 r2 T5 W)
          have FQ := FA q (by omega)
          have SM := small_at ST.out (show q < A.length by omega)
          obtain ⟨F, hF⟩ : ∃ F, A.getD q (0, 0) = F := ⟨_, rfl⟩
          rw [hF] at FQ SM
          obtain ⟨EN, ED⟩ := F
          obtain ⟨q2, hq2⟩ : ∃ q2, kk % 16 = q2 := ⟨_, rfl⟩
          have hq2b : q2 ≤ 15 := by omega
          have HQ2 := hid (show (kk : Int) % 16 = (q2 : Int) by omega)
          obtain ⟨RN, RD, g1, g2, T7⟩ := sums_rep SM q2 hq2b
          have C6 := hid (fun (W0 W : World) (g cp : Nat) (hc : q2 ≤ cp) (hf : FracsAt W0 (List.replicate q2 (EN, ED)) g 0) (hW : Below W0.heap.size W0 W) => total_c (List.replicate q2 (EN, ED)) RN RD (small_rep SM q2) (by rw [List.length_replicate]; omega) g 0 cp q2 (List.length_replicate ..) hc hf g1 g2 hW)
          have C7 := hid (fun W => mulT SM.1 (fr_nat q2 (by omega)) T7 W)
          have FQ := hid FQ
          clear hF SM g1 g2 T7 hq2
          clear hq hqi e1 e2 e3 e4 e5 e6 e7 e8 r1 r2 T5 FA FB
          go_upto_region 15 with fail
          rw [HQI.out]
          go_wp2_with fail
          refine (C1.out _ (Below.refl _ _)).mono ?_
          rintro e w1 ⟨rfl, hb⟩
          have L1 := hid hb
          clear hb
          go_wp2_with fail
          refine (C2.out _ (below_a L1.out _)).mono ?_
          rintro e w2 ⟨rfl, hb⟩
          have L2 := hid (below_step (below_a L1.out _) hb)
          have PA := hid (show w2.cell? ⟨w1.heap.size, 0, none⟩ = some (.int .i64 WN) ∧ w2.cell? ⟨w1.heap.size, 1, none⟩ = some (.int .i64 WD) ∧ w2.cell? ⟨w1.heap.size, 2, none⟩ = some (.int .i64 0) from ⟨cell_below hb (by simp [go_sem]), cell_below hb (by simp [go_sem]), cell_below hb (by simp [go_sem])⟩)
          clear hb
          have t3 : ¬ ca = q := by omega
          have t7 : q ≤ ca := by omega
          have t8 : q ≤ k := by omega
          have t9 : k ≤ ca := hka
          go_wp2_with fail
          rw [show (⟨ga, q * 2, none⟩ : Addr) = ⟨ga, 0 + q * 2, none⟩ by rw [Nat.zero_add]]
          refine (C3.out _ (below_a L2.out _)).mono ?_
          rintro e w3 ⟨rfl, hb⟩
          have L3 := hid (below_step (below_a L2.out _) hb)
          have PB := hid (show w3.cell? ⟨w2.heap.size, 0, none⟩ = some (.int .i64 N1) ∧ w3.cell? ⟨w2.heap.size, 1, none⟩ = some (.int .i64 D1) ∧ w3.cell? ⟨w2.heap.size, 2, none⟩ = some (.int .i64 0) from ⟨cell_below hb (by simp [go_sem]), cell_below hb (by simp [go_sem]), cell_below hb (by simp [go_sem])⟩)
          have PA3 := hid (show w3.cell? ⟨w1.heap.size, 0, none⟩ = some (.int .i64 WN) ∧ w3.cell? ⟨w1.heap.size, 1, none⟩ = some (.int .i64 WD) ∧ w3.cell? ⟨w1.heap.size, 2, none⟩ = some (.int .i64 0) from ⟨cell_below hb (cell_below (below_a (Below.refl _ _) _) PA.out.1), cell_below hb (cell_below (below_a (Below.refl _ _) _) PA.out.2.1), cell_below hb (cell_below (below_a (Below.refl _ _) _) PA.out.2.2)⟩)
          clear hb
          go_upto_region 18 with fail
          generalize hw : w3.alloc (.cells #[.int .i64 N2, .int .i64 D2, .int .i64 0] 29) = W3
          have hA3 : Below w3.heap.size w3 W3 := by rw [← hw]; exact below_a (Below.refl _ _) _
          have L4 := hid (below_step L3.out hA3)
          have a0 := cell_below hA3 PA3.out.1
          have a1 := cell_below hA3 PA3.out.2.1
          have a2 := cell_below hA3 PA3.out.2.2
          have b0 := cell_below hA3 PB.out.1
          have b1 := cell_below hA3 PB.out.2.1
          have b2 := cell_below hA3 PB.out.2.2
          have d0 : W3.cell? ⟨w3.heap.size, 0, none⟩ = some (.int .i64 N2) := by rw [← hw]; simp [go_sem]
          have d1 : W3.cell? ⟨w3.heap.size, 1, none⟩ = some (.int .i64 D2) := by rw [← hw]; simp [go_sem]
          have d2 : W3.cell? ⟨w3.heap.size, 2, none⟩ = some (.int .i64 0) := by rw [← hw]; simp [go_sem]
          clear hw hA3
          have tk : ((k : Int) == 0) = false := by rw [beq_eq_false_iff_ne]; omega
          have hsd := (Below.refl W3.heap.size W3).drew
          refine wp_region_held_drew (S := fun W' => (W'.cell? ⟨w1.heap.size, 0, none⟩ = some (.int .i64 WN) ∧ W'.cell? ⟨w1.heap.size, 1, none⟩ = some (.int .i64 WD) ∧ W'.cell? ⟨w1.heap.size, 2, none⟩ = some (.int .i64 0) ∧ W'.cell? ⟨w2.heap.size, 0, none⟩ = some (.int .i64 N1) ∧ W'.cell? ⟨w2.heap.size, 1, none⟩ = some (.int .i64 D1) ∧ W'.cell? ⟨w2.heap.size, 2, none⟩ = some (.int .i64 0) ∧ W'.cell? ⟨w3.heap.size, 0, none⟩ = some (.int .i64 N2) ∧ W'.cell? ⟨w3.heap.size, 1, none⟩ = some (.int .i64 D2) ∧ W'.cell? ⟨w3.heap.size, 2, none⟩ = some (.int .i64 0) ∧ Below W3.heap.size W3 W')) (by kernel_rfl) ?_ (fun hHeld => ?_)
          · exact ⟨a0, a1, a2, b0, b1, b2, d0, d1, d2, hsd⟩
          refine wpAnyH_take (i := 0) (oi := ({ dst := some 75, op := Op.fieldAddr 29 (Operand.tmp 11) 1, type := 0, pos := "law.go:202", after := #[], guard := none } : Oper)) (v := ?_) rfl (by kernel_rfl) (by kernel_rfl) (by kernel_rfl) (fun _ _ _ h => h) (Or.inl ⟨by rfl, ?_⟩) (by assumption) ?_
          rotate_left
          · intro w hSw; (try dsimp only at hSw); go_simp <;> with_reducible rfl
          (try simp only [Act.put, List.setIfInBounds_toArray, List.set_cons_zero, List.set_cons_succ])
          refine wpAnyH_take (i := 1) (oi := ({ dst := some 76, op := Op.load 27 (Operand.tmp 75), type := 27, pos := "law.go:202", after := #[{ on := 0, ground := Ground.data }], guard := none } : Oper)) (v := ?_) rfl (by kernel_rfl) (by kernel_rfl) (by kernel_rfl) (fun _ _ _ h => h) (Or.inl ⟨by rfl, ?_⟩) (by assumption) ?_
          rotate_left
          · intro w hSw; (try dsimp only at hSw); go_simp <;> with_reducible rfl
          (try simp only [Act.put, List.setIfInBounds_toArray, List.set_cons_zero, List.set_cons_succ])
          refine wpAnyH_take (i := 2) (oi := ({ dst := some 77, op := Op.binOp BinOp.neq 27 (Operand.tmp 76) (Operand.const (Value.int IntKind.i64 0)) 27, type := 4, pos := "law.go:202", after := #[{ on := 1, ground := Ground.data }], guard := none } : Oper)) (v := ?_) rfl (by kernel_rfl) (by kernel_rfl) (by kernel_rfl) (fun _ _ _ h => h) (Or.inl ⟨by rfl, ?_⟩) (by assumption) ?_
          rotate_left
          · intro w hSw; (try dsimp only at hSw); go_simp <;> with_reducible rfl
          (try simp only [Act.put, List.setIfInBounds_toArray, List.set_cons_zero, List.set_cons_succ])
          refine wpAnyH_take (i := 3) (oi := ({ dst := some 78, op := Op.move (Operand.tmp 77), type := 4, pos := "law.go:202", after := #[{ on := 2, ground := Ground.data }], guard := none } : Oper)) (v := ?_) rfl (by kernel_rfl) (by kernel_rfl) (by kernel_rfl) (fun _ _ _ h => h) (Or.inl ⟨by rfl, ?_⟩) (by assumption) ?_
          rotate_left
          · intro w hSw; (try dsimp only at hSw); go_simp <;> with_reducible rfl
          (try simp only [Act.put, List.setIfInBounds_toArray, List.set_cons_zero, List.set_cons_succ])
          refine wpAnyH_take (i := 4) (oi := ({ dst := some 79, op := Op.fieldAddr 29 (Operand.tmp 12) 1, type := 0, pos := "law.go:202", after := #[{ on := 3, ground := Ground.guard }], guard := some (3, false) } : Oper)) (v := ?_) rfl (by kernel_rfl) (by kernel_rfl) (by kernel_rfl) (fun _ _ _ h => h) (Or.inl ⟨by rfl, ?_⟩) (by assumption) ?_
          rotate_left
          · intro w hSw; (try dsimp only at hSw); go_simp <;> with_reducible rfl
          (try simp only [Act.put, List.setIfInBounds_toArray, List.set_cons_zero, List.set_cons_succ])
          refine wpAnyH_take (i := 5) (oi := ({ dst := some 80, op := Op.load 27 (Operand.tmp 79), type := 27, pos := "law.go:202", after := #[{ on := 4, ground := Ground.data }, { on := 3, ground := Ground.guard }], guard := some (3, false) } : Oper)) (v := ?_) rfl (by kernel_rfl) (by kernel_rfl) (by kernel_rfl) (fun _ _ _ h => h) (Or.inl ⟨by rfl, ?_⟩) (by assumption) ?_
          rotate_left
          · intro w hSw; (try dsimp only at hSw); go_simp <;> with_reducible rfl
          (try simp only [Act.put, List.setIfInBounds_toArray, List.set_cons_zero, List.set_cons_succ])
          refine wpAnyH_take (i := 6) (oi := ({ dst := some 81, op := Op.binOp BinOp.neq 27 (Operand.tmp 80) (Operand.const (Value.int IntKind.i64 0)) 27, type := 4, pos := "law.go:202", after := #[{ on := 5, ground := Ground.data }, { on := 3, ground := Ground.guard }], guard := some (3, false) } : Oper)) (v := ?_) rfl (by kernel_rfl) (by kernel_rfl) (by kernel_rfl) (fun _ _ _ h => h) (Or.inl ⟨by rfl, ?_⟩) (by assumption) ?_
          rotate_left
          · intro w hSw; (try dsimp only at hSw); go_simp <;> with_reducible rfl
          (try simp only [Act.put, List.setIfInBounds_toArray, List.set_cons_zero, List.set_cons_succ])
          refine wpAnyH_take (i := 7) (oi := ({ dst := some 82, op := Op.pick (Operand.tmp 78) (Operand.const (Value.bool true)) (Operand.tmp 81), type := 4, pos := "law.go:202", after := #[{ on := 3, ground := Ground.data }, { on := 6, ground := Ground.data }], guard := none } : Oper)) (v := ?_) rfl (by kernel_rfl) (by kernel_rfl) (by kernel_rfl) (fun _ _ _ h => h) (Or.inl ⟨by rfl, ?_⟩) (by assumption) ?_
          rotate_left
          · intro w hSw; (try dsimp only at hSw); go_simp <;> with_reducible rfl
          (try simp only [Act.put, List.setIfInBounds_toArray, List.set_cons_zero, List.set_cons_succ])
          refine wpAnyH_take (i := 8) (oi := ({ dst := some 83, op := Op.move (Operand.tmp 82), type := 4, pos := "law.go:202", after := #[{ on := 7, ground := Ground.data }, { on := 3, ground := Ground.chain }], guard := none } : Oper)) (v := ?_) rfl (by kernel_rfl) (by kernel_rfl) (by kernel_rfl) (fun _ _ _ h => h) (Or.inl ⟨by rfl, ?_⟩) (by assumption) ?_
          rotate_left
          · intro w hSw; (try dsimp only at hSw); go_simp <;> with_reducible rfl
          (try simp only [Act.put, List.setIfInBounds_toArray, List.set_cons_zero, List.set_cons_succ])
          refine wpAnyH_take (i := 9) (oi := ({ dst := some 84, op := Op.fieldAddr 29 (Operand.tmp 13) 1, type := 0, pos := "law.go:202", after := #[{ on := 8, ground := Ground.guard }], guard := some (8, false) } : Oper)) (v := ?_) rfl (by kernel_rfl) (by kernel_rfl) (by kernel_rfl) (fun _ _ _ h => h) (Or.inl ⟨by rfl, ?_⟩) (by assumption) ?_
          rotate_left
          · intro w hSw; (try dsimp only at hSw); go_simp <;> with_reducible rfl
          (try simp only [Act.put, List.setIfInBounds_toArray, List.set_cons_zero, List.set_cons_succ])
          refine wpAnyH_take (i := 10) (oi := ({ dst := some 85, op := Op.load 27 (Operand.tmp 84), type := 27, pos := "law.go:202", after := #[{ on := 9, ground := Ground.data }, { on := 8, ground := Ground.guard }], guard := some (8, false) } : Oper)) (v := ?_) rfl (by kernel_rfl) (by kernel_rfl) (by kernel_rfl) (fun _ _ _ h => h) (Or.inl ⟨by rfl, ?_⟩) (by assumption) ?_
          rotate_left
          · intro w hSw; (try dsimp only at hSw); go_simp <;> with_reducible rfl
          (try simp only [Act.put, List.setIfInBounds_toArray, List.set_cons_zero, List.set_cons_succ])
          refine wpAnyH_take (i := 11) (oi := ({ dst := some 86, op := Op.binOp BinOp.neq 27 (Operand.tmp 85) (Operand.const (Value.int IntKind.i64 0)) 27, type := 4, pos := "law.go:202", after := #[{ on := 10, ground := Ground.data }, { on := 8, ground := Ground.guard }], guard := some (8, false) } : Oper)) (v := ?_) rfl (by kernel_rfl) (by kernel_rfl) (by kernel_rfl) (fun _ _ _ h => h) (Or.inl ⟨by rfl, ?_⟩) (by assumption) ?_
          rotate_left
          · intro w hSw; (try dsimp only at hSw); go_simp <;> with_reducible rfl
          (try simp only [Act.put, List.setIfInBounds_toArray, List.set_cons_zero, List.set_cons_succ])
          refine wpAnyH_take (i := 12) (oi := ({ dst := some 87, op := Op.pick (Operand.tmp 83) (Operand.const (Value.bool true)) (Operand.tmp 86), type := 4, pos := "law.go:202", after := #[{ on := 8, ground := Ground.data }, { on := 11, ground := Ground.data }], guard := none } : Oper)) (v := ?_) rfl (by kernel_rfl) (by kernel_rfl) (by kernel_rfl) (fun _ _ _ h => h) (Or.inl ⟨by rfl, ?_⟩) (by assumption) ?_
          rotate_left
          · intro w hSw; (try dsimp only at hSw); go_simp <;> with_reducible rfl
          (try simp only [Act.put, List.setIfInBounds_toArray, List.set_cons_zero, List.set_cons_succ])
          refine wpAnyH_take (i := 13) (oi := ({ dst := some 88, op := Op.move (Operand.tmp 87), type := 4, pos := "law.go:202", after := #[{ on := 12, ground := Ground.data }, { on := 8, ground := Ground.chain }], guard := none } : Oper)) (v := ?_) rfl (by kernel_rfl) (by kernel_rfl) (by kernel_rfl) (fun _ _ _ h => h) (Or.inl ⟨by rfl, ?_⟩) (by assumption) ?_
          rotate_left
          · intro w hSw; (try dsimp only at hSw); go_simp <;> with_reducible rfl
          (try simp only [Act.put, List.setIfInBounds_toArray, List.set_cons_zero, List.set_cons_succ])
          refine wpAnyH_take (i := 14) (oi := ({ dst := some 89, op := Op.move (Operand.tmp 7), type := 24, pos := "law.go:202", after := #[{ on := 13, ground := Ground.guard }], guard := some (13, false) } : Oper)) (v := ?_) rfl (by kernel_rfl) (by kernel_rfl) (by kernel_rfl) (fun _ _ _ h => h) (Or.inl ⟨by rfl, ?_⟩) (by assumption) ?_
          rotate_left
          · intro w hSw; (try dsimp only at hSw); go_simp <;> with_reducible rfl
          (try simp only [Act.put, List.setIfInBounds_toArray, List.set_cons_zero, List.set_cons_succ])
          refine wpAnyH_take (i := 16) (oi := ({ dst := some 91, op := Op.load 29 (Operand.tmp 11), type := 29, pos := "law.go:202", after := #[{ on := 13, ground := Ground.guard }], guard := some (13, false) } : Oper)) (v := ?_) rfl (by kernel_rfl) (by kernel_rfl) (by kernel_rfl) (fun _ _ _ h => h) (Or.inl ⟨by rfl, ?_⟩) (by assumption) ?_
          rotate_left
          · intro w hSw; (try dsimp only at hSw); go_simp <;> with_reducible rfl
          (try simp only [Act.put, List.setIfInBounds_toArray, List.set_cons_zero, List.set_cons_succ])
          refine wpAnyH_ready (rs := [15]) (by kernel_rfl) (by simp) ?_
          refine AllReadyH.cons (o := ({ dst := some 90, op := Op.call { callee := Callee.value (Operand.func 7), args := #[Operand.tmp 89], argTypes := #[24] }, type := 29, pos := "law.go:202", after := #[{ on := 14, ground := Ground.data }, { on := 13, ground := Ground.chain }, { on := 13, ground := Ground.guard }], guard := some (13, false) } : Oper)) rfl (fun K hK => ?_) ?_
          rotate_left
          · exact AllReadyH.nil
          go_simp
          go_at_call 7
          with_reducible refine (C4.out _ (below_step L4.out hsd)).mono ?_
          rintro e y0 ⟨rfl, hq0⟩
          have hB0 := below_step hsd hq0
          clear hHeld
          first | (with_reducible refine hK.out _ _ ?_ (fun hHeld => ?_)) | (go_wp2_with fail; with_reducible refine hK.out _ _ ?_ (fun hHeld => ?_))
          · exact ⟨cell_below hB0 a0, cell_below hB0 a1, cell_below hB0 a2, cell_below hB0 b0, cell_below hB0 b1, cell_below hB0 b2, cell_below hB0 d0, cell_below hB0 d1, cell_below hB0 d2, hB0⟩
          clear hK K
          (try simp only [Act.put, List.setIfInBounds_toArray, List.set_cons_zero, List.set_cons_succ])
          refine wpAnyH_take (i := 17) (oi := ({ dst := some 92, op := Op.binOp BinOp.neq 29 (Operand.tmp 90) (Operand.tmp 91) 29, type := 4, pos := "law.go:202", after := #[{ on := 15, ground := Ground.data }, { on := 16, ground := Ground.data }, { on := 13, ground := Ground.guard }], guard := some (13, false) } : Oper)) (v := ?_) rfl (by kernel_rfl) (by kernel_rfl) (by kernel_rfl) (fun _ _ _ h => h) (Or.inl ⟨by rfl, ?_⟩) (by assumption) ?_
          rotate_left
          · intro w hSw; (try dsimp only at hSw); go_simp <;> with_reducible rfl
          (try simp only [Act.put, List.setIfInBounds_toArray, List.set_cons_zero, List.set_cons_succ])
          refine wpAnyH_take (i := 18) (oi := ({ dst := some 93, op := Op.pick (Operand.tmp 88) (Operand.const (Value.bool true)) (Operand.tmp 92), type := 4, pos := "law.go:202", after := #[{ on := 13, ground := Ground.data }, { on := 17, ground := Ground.data }], guard := none } : Oper)) (v := ?_) rfl (by kernel_rfl) (by kernel_rfl) (by kernel_rfl) (fun _ _ _ h => h) (Or.inl ⟨by rfl, ?_⟩) (by assumption) ?_
          rotate_left
          · intro w hSw; (try dsimp only at hSw); go_simp <;> with_reducible rfl
          (try simp only [Act.put, List.setIfInBounds_toArray, List.set_cons_zero, List.set_cons_succ])
          refine wpAnyH_take (i := 19) (oi := ({ dst := some 94, op := Op.move (Operand.tmp 93), type := 4, pos := "law.go:202", after := #[{ on := 18, ground := Ground.data }, { on := 15, ground := Ground.chain }], guard := none } : Oper)) (v := ?_) rfl (by kernel_rfl) (by kernel_rfl) (by kernel_rfl) (fun _ _ _ h => h) (Or.inl ⟨by rfl, ?_⟩) (by assumption) ?_
          rotate_left
          · intro w hSw; (try dsimp only at hSw); go_simp <;> with_reducible rfl
          (try simp only [Act.put, List.setIfInBounds_toArray, List.set_cons_zero, List.set_cons_succ])
          refine wpAnyH_take (i := 20) (oi := ({ dst := some 95, op := Op.fieldAddr 29 (Operand.tmp 12) 0, type := 0, pos := "law.go:202", after := #[{ on := 19, ground := Ground.guard }], guard := some (19, false) } : Oper)) (v := ?_) rfl (by kernel_rfl) (by kernel_rfl) (by kernel_rfl) (fun _ _ _ h => h) (Or.inl ⟨by rfl, ?_⟩) (by assumption) ?_
          rotate_left
          · intro w hSw; (try dsimp only at hSw); go_simp <;> with_reducible rfl
          (try simp only [Act.put, List.setIfInBounds_toArray, List.set_cons_zero, List.set_cons_succ])
          refine wpAnyH_take (i := 21) (oi := ({ dst := some 96, op := Op.load 26 (Operand.tmp 95), type := 26, pos := "law.go:202", after := #[{ on := 20, ground := Ground.data }, { on := 19, ground := Ground.guard }], guard := some (19, false) } : Oper)) (v := ?_) rfl (by kernel_rfl) (by kernel_rfl) (by kernel_rfl) (fun _ _ _ h => h) (Or.inl ⟨by rfl, ?_⟩) (by assumption) ?_
          rotate_left
          · intro w hSw; (try dsimp only at hSw); go_simp <;> with_reducible rfl
          (try simp only [Act.put, List.setIfInBounds_toArray, List.set_cons_zero, List.set_cons_succ])
          refine wpAnyH_take (i := 22) (oi := ({ dst := some 97, op := Op.fieldAddr 29 (Operand.tmp 13) 0, type := 0, pos := "law.go:202", after := #[{ on := 19, ground := Ground.guard }], guard := some (19, false) } : Oper)) (v := ?_) rfl (by kernel_rfl) (by kernel_rfl) (by kernel_rfl) (fun _ _ _ h => h) (Or.inl ⟨by rfl, ?_⟩) (by assumption) ?_
          rotate_left
          · intro w hSw; (try dsimp only at hSw); go_simp <;> with_reducible rfl
          (try simp only [Act.put, List.setIfInBounds_toArray, List.set_cons_zero, List.set_cons_succ])
          refine wpAnyH_take (i := 23) (oi := ({ dst := some 98, op := Op.load 26 (Operand.tmp 97), type := 26, pos := "law.go:202", after := #[{ on := 22, ground := Ground.data }, { on := 19, ground := Ground.guard }], guard := some (19, false) } : Oper)) (v := ?_) rfl (by kernel_rfl) (by kernel_rfl) (by kernel_rfl) (fun _ _ _ h => h) (Or.inl ⟨by rfl, ?_⟩) (by assumption) ?_
          rotate_left
          · intro w hSw; (try dsimp only at hSw); go_simp <;> with_reducible rfl
          (try simp only [Act.put, List.setIfInBounds_toArray, List.set_cons_zero, List.set_cons_succ])
          refine wpAnyH_take (i := 25) (oi := ({ dst := some 100, op := Op.load 29 (Operand.tmp 11), type := 29, pos := "law.go:202", after := #[{ on := 19, ground := Ground.guard }], guard := some (19, false) } : Oper)) (v := ?_) rfl (by kernel_rfl) (by kernel_rfl) (by kernel_rfl) (fun _ _ _ h => h) (Or.inl ⟨by rfl, ?_⟩) (by assumption) ?_
          rotate_left
          · intro w hSw; (try dsimp only at hSw); go_simp <;> with_reducible rfl
          (try simp only [Act.put, List.setIfInBounds_toArray, List.set_cons_zero, List.set_cons_succ])
          refine wpAnyH_ready (rs := [24]) (by kernel_rfl) (by simp) ?_
          refine AllReadyH.cons (o := ({ dst := some 99, op := Op.call { callee := Callee.value (Operand.func 8), args := #[Operand.tmp 96, Operand.tmp 98], argTypes := #[26, 26] }, type := 29, pos := "law.go:202", after := #[{ on := 21, ground := Ground.data }, { on := 23, ground := Ground.data }, { on := 19, ground := Ground.chain }, { on := 19, ground := Ground.guard }], guard := some (19, false) } : Oper)) rfl (fun K hK => ?_) ?_
          rotate_left
          · exact AllReadyH.nil
          go_simp
          go_at_call 8
          with_reducible refine (C5.out _).mono ?_
          rintro e y1 ⟨rfl, hq1⟩
          have hB1 := below_step hB0 hq1
          clear hHeld
          first | (with_reducible refine hK.out _ _ ?_ (fun hHeld => ?_)) | (go_wp2_with fail; with_reducible refine hK.out _ _ ?_ (fun hHeld => ?_))
          · exact ⟨cell_below hB1 a0, cell_below hB1 a1, cell_below hB1 a2, cell_below hB1 b0, cell_below hB1 b1, cell_below hB1 b2, cell_below hB1 d0, cell_below hB1 d1, cell_below hB1 d2, hB1⟩
          clear hK K
          (try simp only [Act.put, List.setIfInBounds_toArray, List.set_cons_zero, List.set_cons_succ])
          refine wpAnyH_take (i := 26) (oi := ({ dst := some 101, op := Op.binOp BinOp.neq 29 (Operand.tmp 99) (Operand.tmp 100) 29, type := 4, pos := "law.go:202", after := #[{ on := 24, ground := Ground.data }, { on := 25, ground := Ground.data }, { on := 19, ground := Ground.guard }], guard := some (19, false) } : Oper)) (v := ?_) rfl (by kernel_rfl) (by kernel_rfl) (by kernel_rfl) (fun _ _ _ h => h) (Or.inl ⟨by rfl, ?_⟩) (by assumption) ?_
          rotate_left
          · intro w hSw; (try dsimp only at hSw); go_simp <;> with_reducible rfl
          (try simp only [Act.put, List.setIfInBounds_toArray, List.set_cons_zero, List.set_cons_succ])
          refine wpAnyH_take (i := 27) (oi := ({ dst := some 102, op := Op.pick (Operand.tmp 94) (Operand.const (Value.bool true)) (Operand.tmp 101), type := 4, pos := "law.go:202", after := #[{ on := 19, ground := Ground.data }, { on := 26, ground := Ground.data }], guard := none } : Oper)) (v := ?_) rfl (by kernel_rfl) (by kernel_rfl) (by kernel_rfl) (fun _ _ _ h => h) (Or.inl ⟨by rfl, ?_⟩) (by assumption) ?_
          rotate_left
          · intro w hSw; (try dsimp only at hSw); go_simp <;> with_reducible rfl
          (try simp only [Act.put, List.setIfInBounds_toArray, List.set_cons_zero, List.set_cons_succ])
          refine wpAnyH_take (i := 28) (oi := ({ dst := some 103, op := Op.move (Operand.tmp 102), type := 4, pos := "law.go:202", after := #[{ on := 27, ground := Ground.data }, { on := 24, ground := Ground.chain }], guard := none } : Oper)) (v := ?_) rfl (by kernel_rfl) (by kernel_rfl) (by kernel_rfl) (fun _ _ _ h => h) (Or.inl ⟨by rfl, ?_⟩) (by assumption) ?_
          rotate_left
          · intro w hSw; (try dsimp only at hSw); go_simp <;> with_reducible rfl
          (try simp only [Act.put, List.setIfInBounds_toArray, List.set_cons_zero, List.set_cons_succ])
          refine wpAnyH_take (i := 29) (oi := ({ dst := some 104, op := Op.move (Operand.tmp 6), type := 24, pos := "law.go:202", after := #[{ on := 28, ground := Ground.guard }], guard := some (28, false) } : Oper)) (v := ?_) rfl (by kernel_rfl) (by kernel_rfl) (by kernel_rfl) (fun _ _ _ h => h) (Or.inl ⟨by rfl, ?_⟩) (by assumption) ?_
          rotate_left
          · intro w hSw; (try dsimp only at hSw); go_simp <;> with_reducible rfl
          (try simp only [Act.put, List.setIfInBounds_toArray, List.set_cons_zero, List.set_cons_succ])
          refine wpAnyH_take (i := 30) (oi := ({ dst := some 105, op := Op.call { callee := Callee.builtin Builtin.len, args := #[Operand.tmp 104], argTypes := #[24] }, type := 3, pos := "law.go:202", after := #[{ on := 29, ground := Ground.data }, { on := 28, ground := Ground.guard }], guard := some (28, false) } : Oper)) (v := ?_) rfl (by kernel_rfl) (by kernel_rfl) (by kernel_rfl) (fun _ _ _ h => h) (Or.inl ⟨by rfl, ?_⟩) (by assumption) ?_
          rotate_left
          · intro w hSw; (try dsimp only at hSw); go_simp <;> with_reducible rfl
          (try simp only [Act.put, List.setIfInBounds_toArray, List.set_cons_zero, List.set_cons_succ])
          refine wpAnyH_take (i := 31) (oi := ({ dst := some 106, op := Op.binOp BinOp.eql 3 (Operand.tmp 105) (Operand.const (Value.int IntKind.i64 0)) 3, type := 4, pos := "law.go:202", after := #[{ on := 30, ground := Ground.data }, { on := 28, ground := Ground.guard }], guard := some (28, false) } : Oper)) (v := ?_) rfl (by kernel_rfl) (by kernel_rfl) (by kernel_rfl) (fun _ _ _ h => h) (Or.inl ⟨by rfl, ?_⟩) (by assumption) ?_
          rotate_left
          · intro w hSw; (try dsimp only at hSw); go_simp <;> with_reducible rfl
          (try simp only [Act.put, List.setIfInBounds_toArray, List.set_cons_zero, List.set_cons_succ])
          refine wpAnyH_take (i := 32) (oi := ({ dst := some 107, op := Op.pick (Operand.tmp 103) (Operand.const (Value.bool true)) (Operand.tmp 106), type := 4, pos := "law.go:202", after := #[{ on := 28, ground := Ground.data }, { on := 31, ground := Ground.data }], guard := none } : Oper)) (v := ?_) rfl (by kernel_rfl) (by kernel_rfl) (by kernel_rfl) (fun _ _ _ h => h) (Or.inl ⟨by rfl, ?_⟩) (by assumption) ?_
          rotate_left
          · intro w hSw; (try dsimp only at hSw); go_simp <;> with_reducible rfl
          (try simp only [Act.put, List.setIfInBounds_toArray, List.set_cons_zero, List.set_cons_succ])
          refine wpAnyH_done (by kernel_rfl) ?_ _
          have L5 := hid (below_step L4.out hB1)
          clear a0 a1 a2 b0 b1 b2 d0 d1 d2 hHeld PA PB PA3
          obtain ⟨wy, hwy⟩ : ∃ wy, y1 = wy := ⟨_, rfl⟩
          rw [hwy] at L5 ⊢
          clear hwy
          have E0 := hid (cell_below L5.out FQ.out.1)
          have E1 := hid (cell_below L5.out FQ.out.2)
          go_wp2_with fail
          go_loopw [14, 15] (fun va vi wr => Rel2 wy (EN, ED) q2 va vi wr) (fun _ vi _ => 20 - (intOf vi).toNat)
          case atStart => exact ⟨0, wy.heap.size, 0, by omega, rfl, rfl, by omega, hid (frac_nil wy), hid (below_a (Below.refl _ _) _)⟩
          case round =>
            obtain ⟨j, g, cs, hj, rfl, rfl, hjc, OR, BR2⟩ := hrel
            have x0 := cell_below BR2.out E0.out
            have x1 := cell_below BR2.out E1.out
            rw [Nat.zero_add] at x0 x1
            have hqki : (q : Int) < (k : Int) := by omega
            by_cases hlt : j < q2
            · have hti : decide ((j : Int) < (kk : Int) % 16) = true := by rw [HQ2.out]; simp; omega
              go_wp2_with (at_builtin; go_must (with_reducible refine wpList_append_own _ rfl (.tmp 127) (.tmp 132) 24 rfl wy.heap.size 26 i0 (.agg #[.int .i64 0, .int .i64 0]) 2 16 Tryd.underlying24 hi0 hz0 hz1 hz2 rfl (by decide) (.slice (some ⟨g, 0, none⟩) j cs) j (fcells (List.replicate j (EN, ED))) rfl (OR.out.alloc _) _ 1 1 [.int .i64 EN, .int .i64 ED] rfl rfl (two_cells _ _ _ _) (two_one _ _) (by unfold maxLen; omega) (by omega) (by have := BR2.out.size; simp; omega) ?_))
              intro v' w' hown hg hnil
              obtain ⟨g', cs', rfl, hb1, hl1, hc3, hc4⟩ := own_some hown hnil
              have OR2 := hid (show w'.ownsRow wy.heap.size 26 2 (.slice (some ⟨g', 0, none⟩) (j + 1) cs') (j + 1) (fcells (List.replicate (j + 1) (EN, ED))) by rw [fcells_rep]; exact hown)
              have BR3 := hid (show Below wy.heap.size wy w' from (BR2.out.alloc BR2.out.size _).grown hg (by have := BR2.out.size; simp; omega) (fun i hi => (OR.out.lt i hi).1))
              clear hown hg hnil x0 x1
              go_wp2_with fail
              go_roundw
              case rel => exact ⟨j + 1, g', cs', by omega, rfl, by go_num, hc3, OR2, BR3⟩
              case measure => simp [intOf]; omega
            · have hjq : q2 = j := by omega
              have hti : decide ((j : Int) < (kk : Int) % 16) = false := by rw [HQ2.out]; simp; omega
              rw [hjq] at C6 C7
              have FR := hid (fracs_own (l := List.replicate j (EN, ED)) (List.length_replicate ..) OR.out)
              clear hjq hlt
              go_upto_region 25 with fail
              have hsd := (Below.refl wr.heap.size wr).drew
              refine wp_region_held_drew (S := fun W' => (W'.cell? ⟨ga, q * 2, none⟩ = some (.int .i64 EN) ∧ W'.cell? ⟨ga, q * 2 + 1, none⟩ = some (.int .i64 ED) ∧ Below wr.heap.size wr W')) (by kernel_rfl) ?_ (fun hHeld => ?_)
              · exact ⟨x0, x1, hsd⟩
              refine wpAnyH_take (i := 0) (oi := ({ dst := some 134, op := Op.move (Operand.tmp 5), type := 4, pos := "law.go:209", after := #[], guard := none } : Oper)) (v := ?_) rfl (by kernel_rfl) (by kernel_rfl) (by kernel_rfl) (fun _ _ _ h => h) (Or.inl ⟨by rfl, ?_⟩) (by assumption) ?_
              rotate_left
              · intro w hSw; (try dsimp only at hSw); go_simp <;> with_reducible rfl
              (try simp only [Act.put, List.setIfInBounds_toArray, List.set_cons_zero, List.set_cons_succ])
              refine wpAnyH_take (i := 1) (oi := ({ dst := some 135, op := Op.move (Operand.tmp 134), type := 4, pos := "law.go:209", after := #[{ on := 0, ground := Ground.data }], guard := none } : Oper)) (v := ?_) rfl (by kernel_rfl) (by kernel_rfl) (by kernel_rfl) (fun _ _ _ h => h) (Or.inl ⟨by rfl, ?_⟩) (by assumption) ?_
              rotate_left
              · intro w hSw; (try dsimp only at hSw); go_simp <;> with_reducible rfl
              (try simp only [Act.put, List.setIfInBounds_toArray, List.set_cons_zero, List.set_cons_succ])
              refine wpAnyH_take (i := 2) (oi := ({ dst := some 136, op := Op.move (Operand.tmp 14), type := 24, pos := "law.go:209", after := #[{ on := 1, ground := Ground.guard }], guard := some (1, true) } : Oper)) (v := ?_) rfl (by kernel_rfl) (by kernel_rfl) (by kernel_rfl) (fun _ _ _ h => h) (Or.inl ⟨by rfl, ?_⟩) (by assumption) ?_
              rotate_left
              · intro w hSw; (try dsimp only at hSw); go_simp <;> with_reducible rfl
              (try simp only [Act.put, List.setIfInBounds_toArray, List.set_cons_zero, List.set_cons_succ])
              refine wpAnyH_take (i := 4) (oi := ({ dst := some 138, op := Op.move (Operand.tmp 6), type := 24, pos := "law.go:209", after := #[{ on := 1, ground := Ground.guard }], guard := some (1, true) } : Oper)) (v := ?_) rfl (by kernel_rfl) (by kernel_rfl) (by kernel_rfl) (fun _ _ _ h => h) (Or.inl ⟨by rfl, ?_⟩) (by assumption) ?_
              rotate_left
              · intro w hSw; (try dsimp only at hSw); go_simp <;> with_reducible rfl
              (try simp only [Act.put, List.setIfInBounds_toArray, List.set_cons_zero, List.set_cons_succ])
              refine wpAnyH_take (i := 5) (oi := ({ dst := some 139, op := Op.move (Operand.tmp 10), type := 3, pos := "law.go:209", after := #[{ on := 1, ground := Ground.guard }], guard := some (1, true) } : Oper)) (v := ?_) rfl (by kernel_rfl) (by kernel_rfl) (by kernel_rfl) (fun _ _ _ h => h) (Or.inl ⟨by rfl, ?_⟩) (by assumption) ?_
              rotate_left
              · intro w hSw; (try dsimp only at hSw); go_simp <;> with_reducible rfl
              (try simp only [Act.put, List.setIfInBounds_toArray, List.set_cons_zero, List.set_cons_succ])
              refine wpAnyH_take (i := 6) (oi := ({ dst := some 140, op := Op.indexAddr 24 (Operand.tmp 138) (Operand.tmp 139), type := 0, pos := "law.go:209", after := #[{ on := 4, ground := Ground.data }, { on := 5, ground := Ground.data }, { on := 1, ground := Ground.guard }], guard := some (1, true) } : Oper)) (v := ?_) rfl (by kernel_rfl) (by kernel_rfl) (by kernel_rfl) (fun _ _ _ h => h) (Or.inl ⟨by rfl, ?_⟩) (by assumption) ?_
              rotate_left
              · intro w hSw; (try dsimp only at hSw); go_simp <;> with_reducible rfl
              (try simp only [Act.put, List.setIfInBounds_toArray, List.set_cons_zero, List.set_cons_succ])
              refine wpAnyH_take (i := 7) (oi := ({ dst := some 141, op := Op.load 26 (Operand.tmp 140), type := 26, pos := "law.go:209", after := #[{ on := 6, ground := Ground.data }, { on := 1, ground := Ground.guard }], guard := some (1, true) } : Oper)) (v := ?_) rfl (by kernel_rfl) (by kernel_rfl) (by kernel_rfl) (fun _ _ _ h => h) (Or.inl ⟨by rfl, ?_⟩) (by assumption) ?_
              rotate_left
              · intro w hSw; (try dsimp only at hSw); go_simp <;> with_reducible rfl
              (try simp only [Act.put, List.setIfInBounds_toArray, List.set_cons_zero, List.set_cons_succ])
              refine wpAnyH_take (i := 8) (oi := ({ dst := some 142, op := Op.move (Operand.tmp 14), type := 24, pos := "law.go:209", after := #[{ on := 1, ground := Ground.guard }], guard := some (1, true) } : Oper)) (v := ?_) rfl (by kernel_rfl) (by kernel_rfl) (by kernel_rfl) (fun _ _ _ h => h) (Or.inl ⟨by rfl, ?_⟩) (by assumption) ?_
              rotate_left
              · intro w hSw; (try dsimp only at hSw); go_simp <;> with_reducible rfl
              (try simp only [Act.put, List.setIfInBounds_toArray, List.set_cons_zero, List.set_cons_succ])
              refine wpAnyH_take (i := 9) (oi := ({ dst := some 143, op := Op.call { callee := Callee.builtin Builtin.len, args := #[Operand.tmp 142], argTypes := #[24] }, type := 3, pos := "law.go:209", after := #[{ on := 8, ground := Ground.data }, { on := 1, ground := Ground.guard }], guard := some (1, true) } : Oper)) (v := ?_) rfl (by kernel_rfl) (by kernel_rfl) (by kernel_rfl) (fun _ _ _ h => h) (Or.inl ⟨by rfl, ?_⟩) (by assumption) ?_
              rotate_left
              · intro w hSw; (try dsimp only at hSw); go_simp <;> with_reducible rfl
              (try simp only [Act.put, List.setIfInBounds_toArray, List.set_cons_zero, List.set_cons_succ])
              refine wpAnyH_take (i := 10) (oi := ({ dst := some 144, op := Op.build 26 #[(0, Operand.tmp 143), (1, Operand.const (Value.int IntKind.i64 1))], type := 26, pos := "law.go:209", after := #[{ on := 9, ground := Ground.data }, { on := 1, ground := Ground.guard }], guard := some (1, true) } : Oper)) (v := ?_) rfl (by kernel_rfl) (by kernel_rfl) (by kernel_rfl) (fun _ _ _ h => h) (Or.inl ⟨by rfl, ?_⟩) (by assumption) ?_
              rotate_left
              · intro w hSw; (try dsimp only at hSw); go_simp <;> with_reducible rfl
              (try simp only [Act.put, List.setIfInBounds_toArray, List.set_cons_zero, List.set_cons_succ])
              refine wpAnyH_ready (rs := [3]) (by kernel_rfl) (by simp) ?_
              refine AllReadyH.cons (o := ({ dst := some 137, op := Op.call { callee := Callee.value (Operand.func 7), args := #[Operand.tmp 136], argTypes := #[24] }, type := 29, pos := "law.go:209", after := #[{ on := 2, ground := Ground.data }, { on := 1, ground := Ground.chain }, { on := 1, ground := Ground.guard }], guard := some (1, true) } : Oper)) rfl (fun K hK => ?_) ?_
              rotate_left
              · exact AllReadyH.nil
              go_simp
              go_at_call 7
              with_reducible refine (C6.out wr _ g cs hjc FR.out hsd).mono ?_
              rintro e y0 ⟨rfl, hq0⟩
              have hB0 := below_step hsd hq0
              clear hHeld
              first | (with_reducible refine hK.out _ _ ?_ (fun hHeld => ?_)) | (go_wp2_with fail; with_reducible refine hK.out _ _ ?_ (fun hHeld => ?_))
              · exact ⟨cell_below hB0 x0, cell_below hB0 x1, hB0⟩
              clear hK K
              (try simp only [Act.put, List.setIfInBounds_toArray, List.set_cons_zero, List.set_cons_succ])
              refine wpAnyH_ready (rs := [11]) (by kernel_rfl) (by simp) ?_
              refine AllReadyH.cons (o := ({ dst := some 145, op := Op.call { callee := Callee.value (Operand.func 10), args := #[Operand.tmp 141, Operand.tmp 144], argTypes := #[26, 26] }, type := 29, pos := "law.go:209", after := #[{ on := 7, ground := Ground.data }, { on := 10, ground := Ground.data }, { on := 3, ground := Ground.chain }, { on := 1, ground := Ground.guard }], guard := some (1, true) } : Oper)) rfl (fun K hK => ?_) ?_
              rotate_left
              · exact AllReadyH.nil
              go_simp
              go_at_call 10
              with_reducible refine (C7.out _).mono ?_
              rintro e y1 ⟨rfl, hq1⟩
              have hB1 := below_step hB0 hq1
              clear hHeld
              first | (with_reducible refine hK.out _ _ ?_ (fun hHeld => ?_)) | (go_wp2_with fail; with_reducible refine hK.out _ _ ?_ (fun hHeld => ?_))
              · exact ⟨cell_below hB1 x0, cell_below hB1 x1, hB1⟩
              clear hK K
              (try simp only [Act.put, List.setIfInBounds_toArray, List.set_cons_zero, List.set_cons_succ])
              refine wpAnyH_take (i := 12) (oi := ({ dst := some 146, op := Op.binOp BinOp.eql 29 (Operand.tmp 137) (Operand.tmp 145) 29, type := 4, pos := "law.go:209", after := #[{ on := 3, ground := Ground.data }, { on := 11, ground := Ground.data }, { on := 1, ground := Ground.guard }], guard := some (1, true) } : Oper)) (v := ?_) rfl (by kernel_rfl) (by kernel_rfl) (by kernel_rfl) (fun _ _ _ h => h) (Or.inl ⟨by rfl, ?_⟩) (by assumption) ?_
              rotate_left
              · intro w hSw; (try dsimp only at hSw); go_simp <;> with_reducible rfl
              (try simp only [Act.put, List.setIfInBounds_toArray, List.set_cons_zero, List.set_cons_succ])
              refine wpAnyH_take (i := 13) (oi := ({ dst := some 147, op := Op.pick (Operand.tmp 135) (Operand.tmp 146) (Operand.const (Value.bool false)), type := 4, pos := "law.go:209", after := #[{ on := 1, ground := Ground.data }, { on := 12, ground := Ground.data }], guard := none } : Oper)) (v := ?_) rfl (by kernel_rfl) (by kernel_rfl) (by kernel_rfl) (fun _ _ _ h => h) (Or.inl ⟨by rfl, ?_⟩) (by assumption) ?_
              rotate_left
              · intro w hSw; (try dsimp only at hSw); go_simp <;> with_reducible rfl
              (try simp only [Act.put, List.setIfInBounds_toArray, List.set_cons_zero, List.set_cons_succ])
              refine wpAnyH_take (i := 14) (oi := ({ dst := some 4, op := Op.assign (Operand.tmp 147), type := 4, pos := "law.go:209", after := #[{ on := 13, ground := Ground.data }, { on := 11, ground := Ground.chain }, { on := 0, ground := Ground.phase }, { on := 1, ground := Ground.phase }, { on := 2, ground := Ground.phase }, { on := 3, ground := Ground.phase }, { on := 4, ground := Ground.phase }, { on := 5, ground := Ground.phase }, { on := 6, ground := Ground.phase }, { on := 7, ground := Ground.phase }, { on := 8, ground := Ground.phase }, { on := 9, ground := Ground.phase }, { on := 10, ground := Ground.phase }, { on := 11, ground := Ground.phase }, { on := 12, ground := Ground.phase }, { on := 13, ground := Ground.phase }], guard := none } : Oper)) (v := ?_) rfl (by kernel_rfl) (by kernel_rfl) (by kernel_rfl) (fun _ _ _ h => h) (Or.inl ⟨by rfl, ?_⟩) (by assumption) ?_
              rotate_left
              · intro w hSw; (try dsimp only at hSw); go_simp <;> with_reducible rfl
              (try simp only [Act.put, List.setIfInBounds_toArray, List.set_cons_zero, List.set_cons_succ])
              refine wpAnyH_done (by kernel_rfl) ?_ _
              have HE := hid (below_step (below_step (below_step BR.out L5.out) BR2.out) hB1)
              go_wp2_with fail
              go_ret
              exact ⟨rfl, HE.out⟩

set_option maxRecDepth 100000 in
set_option maxHeartbeats 8000000 in
theorem sums_nil (p : Option Addr) (c : Nat) (kk : Nat) (hk : kk ≤ 255) (w : World) (gl : Glob w) :
    Calls Tryd.prog 3 #[.slice p 0 c, .int .u8 (kk : Int)] w fun e w' => e = .returned (.bool true) ∧ Below w.heap.size w w' := by
  have EX := hid (examples_any w gl)
  have CT := hid (fun (b off cap : Nat) (W : World) => total_c (w := W) (W := W) [] 0 1 (fun p hp => by cases hp) (by decide) b off cap 0 rfl (Nat.zero_le _) (fun i hi => absurd hi (by simp)) rfl rfl (Below.refl _ _))
  have CA := hid (fun W => addT fr_zero fr_zero (N := 0) (D := 1) (E := 0) (trip_fr fr_zero (by simp [Rat.add_zero])) W)
  clear gl
  go_enter Tryd.func3, Tryd.ntmps3
  go_wp2_with fail
  refine EX.out.mono ?_
  rintro e w0 ⟨rfl, hb⟩
  have B0 := hid hb; clear hb
  go_wp2_with fail
  obtain ⟨wc, hwc⟩ : ∃ wc, (w0.alloc (.cells #[] 26)).alloc (.cells #[] 26) = wc := ⟨_, rfl⟩
  have LC := hid (show Below w.heap.size w wc by rw [← hwc]; exact below_a (below_a B0.out _) _)
  rw [hwc]
  clear hwc
  go_loopw [6, 7, 8] (fun va vb vi wr => va = .slice (some ⟨w0.heap.size, 0, none⟩) 0 0 ∧ vb = .slice (some ⟨w0.heap.size + 1, 0, none⟩) 0 0 ∧ vi = .int .i64 0 ∧ wr = wc) (fun _ _ vi _ => 0)
  case atStart => exact ⟨rfl, rfl, rfl, rfl⟩
  case round =>
    obtain ⟨rfl, rfl, rfl, rfl⟩ := hrel
    go_wp2_with fail
    refine (CT.out _ _ _ _).mono ?_
    rintro e w1 ⟨rfl, hb⟩
    have L1 := hid (below_step LC.out hb)
    clear hb
    go_wp2_with fail
    refine (CT.out _ _ _ _).mono ?_
    rintro e w2 ⟨rfl, hb⟩
    have L2 := hid (below_step (below_a L1.out _) hb)
    have PA := hid (show w2.cell? ⟨w1.heap.size, 0, none⟩ = some (.int .i64 0) ∧ w2.cell? ⟨w1.heap.size, 1, none⟩ = some (.int .i64 1) ∧ w2.cell? ⟨w1.heap.size, 2, none⟩ = some (.int .i64 0) from ⟨cell_below hb (by simp [go_sem]), cell_below hb (by simp [go_sem]), cell_below hb (by simp [go_sem])⟩)
    clear hb
    go_wp2_with fail
    refine (CT.out _ _ _ _).mono ?_
    rintro e w3 ⟨rfl, hb⟩
    have L3 := hid (below_step (below_a L2.out _) hb)
    have PB := hid (show w3.cell? ⟨w2.heap.size, 0, none⟩ = some (.int .i64 0) ∧ w3.cell? ⟨w2.heap.size, 1, none⟩ = some (.int .i64 1) ∧ w3.cell? ⟨w2.heap.size, 2, none⟩ = some (.int .i64 0) from ⟨cell_below hb (by simp [go_sem]), cell_below hb (by simp [go_sem]), cell_below hb (by simp [go_sem])⟩)
    have PA3 := hid (show w3.cell? ⟨w1.heap.size, 0, none⟩ = some (.int .i64 0) ∧ w3.cell? ⟨w1.heap.size, 1, none⟩ = some (.int .i64 1) ∧ w3.cell? ⟨w1.heap.size, 2, none⟩ = some (.int .i64 0) from ⟨cell_below hb (cell_below (below_a (Below.refl _ _) _) PA.out.1), cell_below hb (cell_below (below_a (Below.refl _ _) _) PA.out.2.1), cell_below hb (cell_below (below_a (Below.refl _ _) _) PA.out.2.2)⟩)
    clear hb
    go_upto_region 18 with fail
    generalize hw : w3.alloc (.cells #[.int .i64 0, .int .i64 1, .int .i64 0] 29) = W3
    have hA3 : Below w3.heap.size w3 W3 := by rw [← hw]; exact below_a (Below.refl _ _) _
    have L4 := hid (below_step L3.out hA3)
    have a0 := cell_below hA3 PA3.out.1
    have a1 := cell_below hA3 PA3.out.2.1
    have a2 := cell_below hA3 PA3.out.2.2
    have b0 := cell_below hA3 PB.out.1
    have b1 := cell_below hA3 PB.out.2.1
    have b2 := cell_below hA3 PB.out.2.2
    have d0 : W3.cell? ⟨w3.heap.size, 0, none⟩ = some (.int .i64 0) := by rw [← hw]; simp [go_sem]
    have d1 : W3.cell? ⟨w3.heap.size, 1, none⟩ = some (.int .i64 1) := by rw [← hw]; simp [go_sem]
    have d2 : W3.cell? ⟨w3.heap.size, 2, none⟩ = some (.int .i64 0) := by rw [← hw]; simp [go_sem]
    clear hw hA3
    have hsd := (Below.refl W3.heap.size W3).drew
    refine wp_region_held_drew (S := fun W' => (W'.cell? ⟨w1.heap.size, 0, none⟩ = some (.int .i64 0) ∧ W'.cell? ⟨w1.heap.size, 1, none⟩ = some (.int .i64 1) ∧ W'.cell? ⟨w1.heap.size, 2, none⟩ = some (.int .i64 0) ∧ W'.cell? ⟨w2.heap.size, 0, none⟩ = some (.int .i64 0) ∧ W'.cell? ⟨w2.heap.size, 1, none⟩ = some (.int .i64 1) ∧ W'.cell? ⟨w2.heap.size, 2, none⟩ = some (.int .i64 0) ∧ W'.cell? ⟨w3.heap.size, 0, none⟩ = some (.int .i64 0) ∧ W'.cell? ⟨w3.heap.size, 1, none⟩ = some (.int .i64 1) ∧ W'.cell? ⟨w3.heap.size, 2, none⟩ = some (.int .i64 0) ∧ Below W3.heap.size W3 W')) (by kernel_rfl) ?_ (fun hHeld => ?_)
    · exact ⟨a0, a1, a2, b0, b1, b2, d0, d1, d2, hsd⟩
    refine wpAnyH_take (i := 0) (oi := ({ dst := some 75, op := Op.fieldAddr 29 (Operand.tmp 11) 1, type := 0, pos := "law.go:202", after := #[], guard := none } : Oper)) (v := ?_) rfl (by kernel_rfl) (by kernel_rfl) (by kernel_rfl) (fun _ _ _ h => h) (Or.inl ⟨by rfl, ?_⟩) (by assumption) ?_
    rotate_left
    · intro w hSw; (try dsimp only at hSw); go_simp <;> with_reducible rfl
    (try simp only [Act.put, List.setIfInBounds_toArray, List.set_cons_zero, List.set_cons_succ])
    refine wpAnyH_take (i := 1) (oi := ({ dst := some 76, op := Op.load 27 (Operand.tmp 75), type := 27, pos := "law.go:202", after := #[{ on := 0, ground := Ground.data }], guard := none } : Oper)) (v := ?_) rfl (by kernel_rfl) (by kernel_rfl) (by kernel_rfl) (fun _ _ _ h => h) (Or.inl ⟨by rfl, ?_⟩) (by assumption) ?_
    rotate_left
    · intro w hSw; (try dsimp only at hSw); go_simp <;> with_reducible rfl
    (try simp only [Act.put, List.setIfInBounds_toArray, List.set_cons_zero, List.set_cons_succ])
    refine wpAnyH_take (i := 2) (oi := ({ dst := some 77, op := Op.binOp BinOp.neq 27 (Operand.tmp 76) (Operand.const (Value.int IntKind.i64 0)) 27, type := 4, pos := "law.go:202", after := #[{ on := 1, ground := Ground.data }], guard := none } : Oper)) (v := ?_) rfl (by kernel_rfl) (by kernel_rfl) (by kernel_rfl) (fun _ _ _ h => h) (Or.inl ⟨by rfl, ?_⟩) (by assumption) ?_
    rotate_left
    · intro w hSw; (try dsimp only at hSw); go_simp <;> with_reducible rfl
    (try simp only [Act.put, List.setIfInBounds_toArray, List.set_cons_zero, List.set_cons_succ])
    refine wpAnyH_take (i := 3) (oi := ({ dst := some 78, op := Op.move (Operand.tmp 77), type := 4, pos := "law.go:202", after := #[{ on := 2, ground := Ground.data }], guard := none } : Oper)) (v := ?_) rfl (by kernel_rfl) (by kernel_rfl) (by kernel_rfl) (fun _ _ _ h => h) (Or.inl ⟨by rfl, ?_⟩) (by assumption) ?_
    rotate_left
    · intro w hSw; (try dsimp only at hSw); go_simp <;> with_reducible rfl
    (try simp only [Act.put, List.setIfInBounds_toArray, List.set_cons_zero, List.set_cons_succ])
    refine wpAnyH_take (i := 4) (oi := ({ dst := some 79, op := Op.fieldAddr 29 (Operand.tmp 12) 1, type := 0, pos := "law.go:202", after := #[{ on := 3, ground := Ground.guard }], guard := some (3, false) } : Oper)) (v := ?_) rfl (by kernel_rfl) (by kernel_rfl) (by kernel_rfl) (fun _ _ _ h => h) (Or.inl ⟨by rfl, ?_⟩) (by assumption) ?_
    rotate_left
    · intro w hSw; (try dsimp only at hSw); go_simp <;> with_reducible rfl
    (try simp only [Act.put, List.setIfInBounds_toArray, List.set_cons_zero, List.set_cons_succ])
    refine wpAnyH_take (i := 5) (oi := ({ dst := some 80, op := Op.load 27 (Operand.tmp 79), type := 27, pos := "law.go:202", after := #[{ on := 4, ground := Ground.data }, { on := 3, ground := Ground.guard }], guard := some (3, false) } : Oper)) (v := ?_) rfl (by kernel_rfl) (by kernel_rfl) (by kernel_rfl) (fun _ _ _ h => h) (Or.inl ⟨by rfl, ?_⟩) (by assumption) ?_
    rotate_left
    · intro w hSw; (try dsimp only at hSw); go_simp <;> with_reducible rfl
    (try simp only [Act.put, List.setIfInBounds_toArray, List.set_cons_zero, List.set_cons_succ])
    refine wpAnyH_take (i := 6) (oi := ({ dst := some 81, op := Op.binOp BinOp.neq 27 (Operand.tmp 80) (Operand.const (Value.int IntKind.i64 0)) 27, type := 4, pos := "law.go:202", after := #[{ on := 5, ground := Ground.data }, { on := 3, ground := Ground.guard }], guard := some (3, false) } : Oper)) (v := ?_) rfl (by kernel_rfl) (by kernel_rfl) (by kernel_rfl) (fun _ _ _ h => h) (Or.inl ⟨by rfl, ?_⟩) (by assumption) ?_
    rotate_left
    · intro w hSw; (try dsimp only at hSw); go_simp <;> with_reducible rfl
    (try simp only [Act.put, List.setIfInBounds_toArray, List.set_cons_zero, List.set_cons_succ])
    refine wpAnyH_take (i := 7) (oi := ({ dst := some 82, op := Op.pick (Operand.tmp 78) (Operand.const (Value.bool true)) (Operand.tmp 81), type := 4, pos := "law.go:202", after := #[{ on := 3, ground := Ground.data }, { on := 6, ground := Ground.data }], guard := none } : Oper)) (v := ?_) rfl (by kernel_rfl) (by kernel_rfl) (by kernel_rfl) (fun _ _ _ h => h) (Or.inl ⟨by rfl, ?_⟩) (by assumption) ?_
    rotate_left
    · intro w hSw; (try dsimp only at hSw); go_simp <;> with_reducible rfl
    (try simp only [Act.put, List.setIfInBounds_toArray, List.set_cons_zero, List.set_cons_succ])
    refine wpAnyH_take (i := 8) (oi := ({ dst := some 83, op := Op.move (Operand.tmp 82), type := 4, pos := "law.go:202", after := #[{ on := 7, ground := Ground.data }, { on := 3, ground := Ground.chain }], guard := none } : Oper)) (v := ?_) rfl (by kernel_rfl) (by kernel_rfl) (by kernel_rfl) (fun _ _ _ h => h) (Or.inl ⟨by rfl, ?_⟩) (by assumption) ?_
    rotate_left
    · intro w hSw; (try dsimp only at hSw); go_simp <;> with_reducible rfl
    (try simp only [Act.put, List.setIfInBounds_toArray, List.set_cons_zero, List.set_cons_succ])
    refine wpAnyH_take (i := 9) (oi := ({ dst := some 84, op := Op.fieldAddr 29 (Operand.tmp 13) 1, type := 0, pos := "law.go:202", after := #[{ on := 8, ground := Ground.guard }], guard := some (8, false) } : Oper)) (v := ?_) rfl (by kernel_rfl) (by kernel_rfl) (by kernel_rfl) (fun _ _ _ h => h) (Or.inl ⟨by rfl, ?_⟩) (by assumption) ?_
    rotate_left
    · intro w hSw; (try dsimp only at hSw); go_simp <;> with_reducible rfl
    (try simp only [Act.put, List.setIfInBounds_toArray, List.set_cons_zero, List.set_cons_succ])
    refine wpAnyH_take (i := 10) (oi := ({ dst := some 85, op := Op.load 27 (Operand.tmp 84), type := 27, pos := "law.go:202", after := #[{ on := 9, ground := Ground.data }, { on := 8, ground := Ground.guard }], guard := some (8, false) } : Oper)) (v := ?_) rfl (by kernel_rfl) (by kernel_rfl) (by kernel_rfl) (fun _ _ _ h => h) (Or.inl ⟨by rfl, ?_⟩) (by assumption) ?_
    rotate_left
    · intro w hSw; (try dsimp only at hSw); go_simp <;> with_reducible rfl
    (try simp only [Act.put, List.setIfInBounds_toArray, List.set_cons_zero, List.set_cons_succ])
    refine wpAnyH_take (i := 11) (oi := ({ dst := some 86, op := Op.binOp BinOp.neq 27 (Operand.tmp 85) (Operand.const (Value.int IntKind.i64 0)) 27, type := 4, pos := "law.go:202", after := #[{ on := 10, ground := Ground.data }, { on := 8, ground := Ground.guard }], guard := some (8, false) } : Oper)) (v := ?_) rfl (by kernel_rfl) (by kernel_rfl) (by kernel_rfl) (fun _ _ _ h => h) (Or.inl ⟨by rfl, ?_⟩) (by assumption) ?_
    rotate_left
    · intro w hSw; (try dsimp only at hSw); go_simp <;> with_reducible rfl
    (try simp only [Act.put, List.setIfInBounds_toArray, List.set_cons_zero, List.set_cons_succ])
    refine wpAnyH_take (i := 12) (oi := ({ dst := some 87, op := Op.pick (Operand.tmp 83) (Operand.const (Value.bool true)) (Operand.tmp 86), type := 4, pos := "law.go:202", after := #[{ on := 8, ground := Ground.data }, { on := 11, ground := Ground.data }], guard := none } : Oper)) (v := ?_) rfl (by kernel_rfl) (by kernel_rfl) (by kernel_rfl) (fun _ _ _ h => h) (Or.inl ⟨by rfl, ?_⟩) (by assumption) ?_
    rotate_left
    · intro w hSw; (try dsimp only at hSw); go_simp <;> with_reducible rfl
    (try simp only [Act.put, List.setIfInBounds_toArray, List.set_cons_zero, List.set_cons_succ])
    refine wpAnyH_take (i := 13) (oi := ({ dst := some 88, op := Op.move (Operand.tmp 87), type := 4, pos := "law.go:202", after := #[{ on := 12, ground := Ground.data }, { on := 8, ground := Ground.chain }], guard := none } : Oper)) (v := ?_) rfl (by kernel_rfl) (by kernel_rfl) (by kernel_rfl) (fun _ _ _ h => h) (Or.inl ⟨by rfl, ?_⟩) (by assumption) ?_
    rotate_left
    · intro w hSw; (try dsimp only at hSw); go_simp <;> with_reducible rfl
    (try simp only [Act.put, List.setIfInBounds_toArray, List.set_cons_zero, List.set_cons_succ])
    refine wpAnyH_take (i := 14) (oi := ({ dst := some 89, op := Op.move (Operand.tmp 7), type := 24, pos := "law.go:202", after := #[{ on := 13, ground := Ground.guard }], guard := some (13, false) } : Oper)) (v := ?_) rfl (by kernel_rfl) (by kernel_rfl) (by kernel_rfl) (fun _ _ _ h => h) (Or.inl ⟨by rfl, ?_⟩) (by assumption) ?_
    rotate_left
    · intro w hSw; (try dsimp only at hSw); go_simp <;> with_reducible rfl
    (try simp only [Act.put, List.setIfInBounds_toArray, List.set_cons_zero, List.set_cons_succ])
    refine wpAnyH_take (i := 16) (oi := ({ dst := some 91, op := Op.load 29 (Operand.tmp 11), type := 29, pos := "law.go:202", after := #[{ on := 13, ground := Ground.guard }], guard := some (13, false) } : Oper)) (v := ?_) rfl (by kernel_rfl) (by kernel_rfl) (by kernel_rfl) (fun _ _ _ h => h) (Or.inl ⟨by rfl, ?_⟩) (by assumption) ?_
    rotate_left
    · intro w hSw; (try dsimp only at hSw); go_simp <;> with_reducible rfl
    (try simp only [Act.put, List.setIfInBounds_toArray, List.set_cons_zero, List.set_cons_succ])
    refine wpAnyH_ready (rs := [15]) (by kernel_rfl) (by simp) ?_
    refine AllReadyH.cons (o := ({ dst := some 90, op := Op.call { callee := Callee.value (Operand.func 7), args := #[Operand.tmp 89], argTypes := #[24] }, type := 29, pos := "law.go:202", after := #[{ on := 14, ground := Ground.data }, { on := 13, ground := Ground.chain }, { on := 13, ground := Ground.guard }], guard := some (13, false) } : Oper)) rfl (fun K hK => ?_) ?_
    rotate_left
    · exact AllReadyH.nil
    go_simp
    go_at_call 7
    with_reducible refine (CT.out _ _ _ _).mono ?_
    rintro e y0 ⟨rfl, hq0⟩
    have hB0 := below_step hsd hq0
    clear hHeld
    first | (with_reducible refine hK.out _ _ ?_ (fun hHeld => ?_)) | (go_wp2_with fail; with_reducible refine hK.out _ _ ?_ (fun hHeld => ?_))
    · exact ⟨cell_below hB0 a0, cell_below hB0 a1, cell_below hB0 a2, cell_below hB0 b0, cell_below hB0 b1, cell_below hB0 b2, cell_below hB0 d0, cell_below hB0 d1, cell_below hB0 d2, hB0⟩
    clear hK K
    (try simp only [Act.put, List.setIfInBounds_toArray, List.set_cons_zero, List.set_cons_succ])
    refine wpAnyH_take (i := 17) (oi := ({ dst := some 92, op := Op.binOp BinOp.neq 29 (Operand.tmp 90) (Operand.tmp 91) 29, type := 4, pos := "law.go:202", after := #[{ on := 15, ground := Ground.data }, { on := 16, ground := Ground.data }, { on := 13, ground := Ground.guard }], guard := some (13, false) } : Oper)) (v := ?_) rfl (by kernel_rfl) (by kernel_rfl) (by kernel_rfl) (fun _ _ _ h => h) (Or.inl ⟨by rfl, ?_⟩) (by assumption) ?_
    rotate_left
    · intro w hSw; (try dsimp only at hSw); go_simp <;> with_reducible rfl
    (try simp only [Act.put, List.setIfInBounds_toArray, List.set_cons_zero, List.set_cons_succ])
    refine wpAnyH_take (i := 18) (oi := ({ dst := some 93, op := Op.pick (Operand.tmp 88) (Operand.const (Value.bool true)) (Operand.tmp 92), type := 4, pos := "law.go:202", after := #[{ on := 13, ground := Ground.data }, { on := 17, ground := Ground.data }], guard := none } : Oper)) (v := ?_) rfl (by kernel_rfl) (by kernel_rfl) (by kernel_rfl) (fun _ _ _ h => h) (Or.inl ⟨by rfl, ?_⟩) (by assumption) ?_
    rotate_left
    · intro w hSw; (try dsimp only at hSw); go_simp <;> with_reducible rfl
    (try simp only [Act.put, List.setIfInBounds_toArray, List.set_cons_zero, List.set_cons_succ])
    refine wpAnyH_take (i := 19) (oi := ({ dst := some 94, op := Op.move (Operand.tmp 93), type := 4, pos := "law.go:202", after := #[{ on := 18, ground := Ground.data }, { on := 15, ground := Ground.chain }], guard := none } : Oper)) (v := ?_) rfl (by kernel_rfl) (by kernel_rfl) (by kernel_rfl) (fun _ _ _ h => h) (Or.inl ⟨by rfl, ?_⟩) (by assumption) ?_
    rotate_left
    · intro w hSw; (try dsimp only at hSw); go_simp <;> with_reducible rfl
    (try simp only [Act.put, List.setIfInBounds_toArray, List.set_cons_zero, List.set_cons_succ])
    refine wpAnyH_take (i := 20) (oi := ({ dst := some 95, op := Op.fieldAddr 29 (Operand.tmp 12) 0, type := 0, pos := "law.go:202", after := #[{ on := 19, ground := Ground.guard }], guard := some (19, false) } : Oper)) (v := ?_) rfl (by kernel_rfl) (by kernel_rfl) (by kernel_rfl) (fun _ _ _ h => h) (Or.inl ⟨by rfl, ?_⟩) (by assumption) ?_
    rotate_left
    · intro w hSw; (try dsimp only at hSw); go_simp <;> with_reducible rfl
    (try simp only [Act.put, List.setIfInBounds_toArray, List.set_cons_zero, List.set_cons_succ])
    refine wpAnyH_take (i := 21) (oi := ({ dst := some 96, op := Op.load 26 (Operand.tmp 95), type := 26, pos := "law.go:202", after := #[{ on := 20, ground := Ground.data }, { on := 19, ground := Ground.guard }], guard := some (19, false) } : Oper)) (v := ?_) rfl (by kernel_rfl) (by kernel_rfl) (by kernel_rfl) (fun _ _ _ h => h) (Or.inl ⟨by rfl, ?_⟩) (by assumption) ?_
    rotate_left
    · intro w hSw; (try dsimp only at hSw); go_simp <;> with_reducible rfl
    (try simp only [Act.put, List.setIfInBounds_toArray, List.set_cons_zero, List.set_cons_succ])
    refine wpAnyH_take (i := 22) (oi := ({ dst := some 97, op := Op.fieldAddr 29 (Operand.tmp 13) 0, type := 0, pos := "law.go:202", after := #[{ on := 19, ground := Ground.guard }], guard := some (19, false) } : Oper)) (v := ?_) rfl (by kernel_rfl) (by kernel_rfl) (by kernel_rfl) (fun _ _ _ h => h) (Or.inl ⟨by rfl, ?_⟩) (by assumption) ?_
    rotate_left
    · intro w hSw; (try dsimp only at hSw); go_simp <;> with_reducible rfl
    (try simp only [Act.put, List.setIfInBounds_toArray, List.set_cons_zero, List.set_cons_succ])
    refine wpAnyH_take (i := 23) (oi := ({ dst := some 98, op := Op.load 26 (Operand.tmp 97), type := 26, pos := "law.go:202", after := #[{ on := 22, ground := Ground.data }, { on := 19, ground := Ground.guard }], guard := some (19, false) } : Oper)) (v := ?_) rfl (by kernel_rfl) (by kernel_rfl) (by kernel_rfl) (fun _ _ _ h => h) (Or.inl ⟨by rfl, ?_⟩) (by assumption) ?_
    rotate_left
    · intro w hSw; (try dsimp only at hSw); go_simp <;> with_reducible rfl
    (try simp only [Act.put, List.setIfInBounds_toArray, List.set_cons_zero, List.set_cons_succ])
    refine wpAnyH_take (i := 25) (oi := ({ dst := some 100, op := Op.load 29 (Operand.tmp 11), type := 29, pos := "law.go:202", after := #[{ on := 19, ground := Ground.guard }], guard := some (19, false) } : Oper)) (v := ?_) rfl (by kernel_rfl) (by kernel_rfl) (by kernel_rfl) (fun _ _ _ h => h) (Or.inl ⟨by rfl, ?_⟩) (by assumption) ?_
    rotate_left
    · intro w hSw; (try dsimp only at hSw); go_simp <;> with_reducible rfl
    (try simp only [Act.put, List.setIfInBounds_toArray, List.set_cons_zero, List.set_cons_succ])
    refine wpAnyH_ready (rs := [24]) (by kernel_rfl) (by simp) ?_
    refine AllReadyH.cons (o := ({ dst := some 99, op := Op.call { callee := Callee.value (Operand.func 8), args := #[Operand.tmp 96, Operand.tmp 98], argTypes := #[26, 26] }, type := 29, pos := "law.go:202", after := #[{ on := 21, ground := Ground.data }, { on := 23, ground := Ground.data }, { on := 19, ground := Ground.chain }, { on := 19, ground := Ground.guard }], guard := some (19, false) } : Oper)) rfl (fun K hK => ?_) ?_
    rotate_left
    · exact AllReadyH.nil
    go_simp
    go_at_call 8
    with_reducible refine (CA.out _).mono ?_
    rintro e y1 ⟨rfl, hq1⟩
    have hB1 := below_step hB0 hq1
    clear hHeld
    first | (with_reducible refine hK.out _ _ ?_ (fun hHeld => ?_)) | (go_wp2_with fail; with_reducible refine hK.out _ _ ?_ (fun hHeld => ?_))
    · exact ⟨cell_below hB1 a0, cell_below hB1 a1, cell_below hB1 a2, cell_below hB1 b0, cell_below hB1 b1, cell_below hB1 b2, cell_below hB1 d0, cell_below hB1 d1, cell_below hB1 d2, hB1⟩
    clear hK K
    (try simp only [Act.put, List.setIfInBounds_toArray, List.set_cons_zero, List.set_cons_succ])
    refine wpAnyH_take (i := 26) (oi := ({ dst := some 101, op := Op.binOp BinOp.neq 29 (Operand.tmp 99) (Operand.tmp 100) 29, type := 4, pos := "law.go:202", after := #[{ on := 24, ground := Ground.data }, { on := 25, ground := Ground.data }, { on := 19, ground := Ground.guard }], guard := some (19, false) } : Oper)) (v := ?_) rfl (by kernel_rfl) (by kernel_rfl) (by kernel_rfl) (fun _ _ _ h => h) (Or.inl ⟨by rfl, ?_⟩) (by assumption) ?_
    rotate_left
    · intro w hSw; (try dsimp only at hSw); go_simp <;> with_reducible rfl
    (try simp only [Act.put, List.setIfInBounds_toArray, List.set_cons_zero, List.set_cons_succ])
    refine wpAnyH_take (i := 27) (oi := ({ dst := some 102, op := Op.pick (Operand.tmp 94) (Operand.const (Value.bool true)) (Operand.tmp 101), type := 4, pos := "law.go:202", after := #[{ on := 19, ground := Ground.data }, { on := 26, ground := Ground.data }], guard := none } : Oper)) (v := ?_) rfl (by kernel_rfl) (by kernel_rfl) (by kernel_rfl) (fun _ _ _ h => h) (Or.inl ⟨by rfl, ?_⟩) (by assumption) ?_
    rotate_left
    · intro w hSw; (try dsimp only at hSw); go_simp <;> with_reducible rfl
    (try simp only [Act.put, List.setIfInBounds_toArray, List.set_cons_zero, List.set_cons_succ])
    refine wpAnyH_take (i := 28) (oi := ({ dst := some 103, op := Op.move (Operand.tmp 102), type := 4, pos := "law.go:202", after := #[{ on := 27, ground := Ground.data }, { on := 24, ground := Ground.chain }], guard := none } : Oper)) (v := ?_) rfl (by kernel_rfl) (by kernel_rfl) (by kernel_rfl) (fun _ _ _ h => h) (Or.inl ⟨by rfl, ?_⟩) (by assumption) ?_
    rotate_left
    · intro w hSw; (try dsimp only at hSw); go_simp <;> with_reducible rfl
    (try simp only [Act.put, List.setIfInBounds_toArray, List.set_cons_zero, List.set_cons_succ])
    refine wpAnyH_take (i := 29) (oi := ({ dst := some 104, op := Op.move (Operand.tmp 6), type := 24, pos := "law.go:202", after := #[{ on := 28, ground := Ground.guard }], guard := some (28, false) } : Oper)) (v := ?_) rfl (by kernel_rfl) (by kernel_rfl) (by kernel_rfl) (fun _ _ _ h => h) (Or.inl ⟨by rfl, ?_⟩) (by assumption) ?_
    rotate_left
    · intro w hSw; (try dsimp only at hSw); go_simp <;> with_reducible rfl
    (try simp only [Act.put, List.setIfInBounds_toArray, List.set_cons_zero, List.set_cons_succ])
    refine wpAnyH_take (i := 30) (oi := ({ dst := some 105, op := Op.call { callee := Callee.builtin Builtin.len, args := #[Operand.tmp 104], argTypes := #[24] }, type := 3, pos := "law.go:202", after := #[{ on := 29, ground := Ground.data }, { on := 28, ground := Ground.guard }], guard := some (28, false) } : Oper)) (v := ?_) rfl (by kernel_rfl) (by kernel_rfl) (by kernel_rfl) (fun _ _ _ h => h) (Or.inl ⟨by rfl, ?_⟩) (by assumption) ?_
    rotate_left
    · intro w hSw; (try dsimp only at hSw); go_simp <;> with_reducible rfl
    (try simp only [Act.put, List.setIfInBounds_toArray, List.set_cons_zero, List.set_cons_succ])
    refine wpAnyH_take (i := 31) (oi := ({ dst := some 106, op := Op.binOp BinOp.eql 3 (Operand.tmp 105) (Operand.const (Value.int IntKind.i64 0)) 3, type := 4, pos := "law.go:202", after := #[{ on := 30, ground := Ground.data }, { on := 28, ground := Ground.guard }], guard := some (28, false) } : Oper)) (v := ?_) rfl (by kernel_rfl) (by kernel_rfl) (by kernel_rfl) (fun _ _ _ h => h) (Or.inl ⟨by rfl, ?_⟩) (by assumption) ?_
    rotate_left
    · intro w hSw; (try dsimp only at hSw); go_simp <;> with_reducible rfl
    (try simp only [Act.put, List.setIfInBounds_toArray, List.set_cons_zero, List.set_cons_succ])
    refine wpAnyH_take (i := 32) (oi := ({ dst := some 107, op := Op.pick (Operand.tmp 103) (Operand.const (Value.bool true)) (Operand.tmp 106), type := 4, pos := "law.go:202", after := #[{ on := 28, ground := Ground.data }, { on := 31, ground := Ground.data }], guard := none } : Oper)) (v := ?_) rfl (by kernel_rfl) (by kernel_rfl) (by kernel_rfl) (fun _ _ _ h => h) (Or.inl ⟨by rfl, ?_⟩) (by assumption) ?_
    rotate_left
    · intro w hSw; (try dsimp only at hSw); go_simp <;> with_reducible rfl
    (try simp only [Act.put, List.setIfInBounds_toArray, List.set_cons_zero, List.set_cons_succ])
    refine wpAnyH_done (by kernel_rfl) ?_ _
    have k0 := cell_below hB1 a0
    have k1 := cell_below hB1 a1
    have k2 := cell_below hB1 a2
    have L5 := hid (below_step L4.out hB1)
    clear a0 a1 a2 b0 b1 b2 d0 d1 d2 hHeld PA PB PA3
    go_upto_region 19 with fail
    have hse := (Below.refl y1.heap.size y1).drew
    refine wp_region_held_drew (S := fun W' => (W'.cell? ⟨w1.heap.size, 0, none⟩ = some (.int .i64 0) ∧ W'.cell? ⟨w1.heap.size, 1, none⟩ = some (.int .i64 1) ∧ W'.cell? ⟨w1.heap.size, 2, none⟩ = some (.int .i64 0) ∧ Below y1.heap.size y1 W')) (by kernel_rfl) ?_ (fun hHeld => ?_)
    · exact ⟨k0, k1, k2, hse⟩
    refine wpAnyH_take (i := 0) (oi := ({ dst := some 108, op := Op.move (Operand.tmp 5), type := 4, pos := "law.go:203", after := #[], guard := none } : Oper)) (v := ?_) rfl (by kernel_rfl) (by kernel_rfl) (by kernel_rfl) (fun _ _ _ h => h) (Or.inl ⟨by rfl, ?_⟩) (by assumption) ?_
    rotate_left
    · intro w hSw; (try dsimp only at hSw); go_simp <;> with_reducible rfl
    (try simp only [Act.put, List.setIfInBounds_toArray, List.set_cons_zero, List.set_cons_succ])
    refine wpAnyH_take (i := 1) (oi := ({ dst := some 109, op := Op.move (Operand.tmp 108), type := 4, pos := "law.go:203", after := #[{ on := 0, ground := Ground.data }], guard := none } : Oper)) (v := ?_) rfl (by kernel_rfl) (by kernel_rfl) (by kernel_rfl) (fun _ _ _ h => h) (Or.inl ⟨by rfl, ?_⟩) (by assumption) ?_
    rotate_left
    · intro w hSw; (try dsimp only at hSw); go_simp <;> with_reducible rfl
    (try simp only [Act.put, List.setIfInBounds_toArray, List.set_cons_zero, List.set_cons_succ])
    refine wpAnyH_take (i := 2) (oi := ({ dst := some 110, op := Op.move (Operand.tmp 6), type := 24, pos := "law.go:203", after := #[{ on := 1, ground := Ground.guard }], guard := some (1, true) } : Oper)) (v := ?_) rfl (by kernel_rfl) (by kernel_rfl) (by kernel_rfl) (fun _ _ _ h => h) (Or.inl ⟨by rfl, ?_⟩) (by assumption) ?_
    rotate_left
    · intro w hSw; (try dsimp only at hSw); go_simp <;> with_reducible rfl
    (try simp only [Act.put, List.setIfInBounds_toArray, List.set_cons_zero, List.set_cons_succ])
    refine wpAnyH_take (i := 3) (oi := ({ dst := some 111, op := Op.call { callee := Callee.builtin Builtin.len, args := #[Operand.tmp 110], argTypes := #[24] }, type := 3, pos := "law.go:203", after := #[{ on := 2, ground := Ground.data }, { on := 1, ground := Ground.guard }], guard := some (1, true) } : Oper)) (v := ?_) rfl (by kernel_rfl) (by kernel_rfl) (by kernel_rfl) (fun _ _ _ h => h) (Or.inl ⟨by rfl, ?_⟩) (by assumption) ?_
    rotate_left
    · intro w hSw; (try dsimp only at hSw); go_simp <;> with_reducible rfl
    (try simp only [Act.put, List.setIfInBounds_toArray, List.set_cons_zero, List.set_cons_succ])
    refine wpAnyH_take (i := 4) (oi := ({ dst := some 112, op := Op.binOp BinOp.eql 3 (Operand.tmp 111) (Operand.const (Value.int IntKind.i64 0)) 3, type := 4, pos := "law.go:203", after := #[{ on := 3, ground := Ground.data }, { on := 1, ground := Ground.guard }], guard := some (1, true) } : Oper)) (v := ?_) rfl (by kernel_rfl) (by kernel_rfl) (by kernel_rfl) (fun _ _ _ h => h) (Or.inl ⟨by rfl, ?_⟩) (by assumption) ?_
    rotate_left
    · intro w hSw; (try dsimp only at hSw); go_simp <;> with_reducible rfl
    (try simp only [Act.put, List.setIfInBounds_toArray, List.set_cons_zero, List.set_cons_succ])
    refine wpAnyH_take (i := 5) (oi := ({ dst := some 113, op := Op.pick (Operand.tmp 109) (Operand.tmp 112) (Operand.const (Value.bool false)), type := 4, pos := "law.go:203", after := #[{ on := 1, ground := Ground.data }, { on := 4, ground := Ground.data }], guard := none } : Oper)) (v := ?_) rfl (by kernel_rfl) (by kernel_rfl) (by kernel_rfl) (fun _ _ _ h => h) (Or.inl ⟨by rfl, ?_⟩) (by assumption) ?_
    rotate_left
    · intro w hSw; (try dsimp only at hSw); go_simp <;> with_reducible rfl
    (try simp only [Act.put, List.setIfInBounds_toArray, List.set_cons_zero, List.set_cons_succ])
    refine wpAnyH_take (i := 6) (oi := ({ dst := some 114, op := Op.move (Operand.tmp 113), type := 4, pos := "law.go:203", after := #[{ on := 5, ground := Ground.data }, { on := 1, ground := Ground.chain }], guard := none } : Oper)) (v := ?_) rfl (by kernel_rfl) (by kernel_rfl) (by kernel_rfl) (fun _ _ _ h => h) (Or.inl ⟨by rfl, ?_⟩) (by assumption) ?_
    rotate_left
    · intro w hSw; (try dsimp only at hSw); go_simp <;> with_reducible rfl
    (try simp only [Act.put, List.setIfInBounds_toArray, List.set_cons_zero, List.set_cons_succ])
    refine wpAnyH_take (i := 7) (oi := ({ dst := some 115, op := Op.load 29 (Operand.tmp 11), type := 29, pos := "law.go:203", after := #[{ on := 6, ground := Ground.guard }], guard := some (6, true) } : Oper)) (v := ?_) rfl (by kernel_rfl) (by kernel_rfl) (by kernel_rfl) (fun _ _ _ h => h) (Or.inl ⟨by rfl, ?_⟩) (by assumption) ?_
    rotate_left
    · intro w hSw; (try dsimp only at hSw); go_simp <;> with_reducible rfl
    (try simp only [Act.put, List.setIfInBounds_toArray, List.set_cons_zero, List.set_cons_succ])
    refine wpAnyH_ready (rs := [8]) (by kernel_rfl) (by simp) ?_
    refine AllReadyH.cons (o := ({ dst := some 116, op := Op.call { callee := Callee.value (Operand.func 9), args := #[Operand.const (Value.int IntKind.i64 0), Operand.const (Value.int IntKind.i64 1)], argTypes := #[3, 3] }, type := 29, pos := "law.go:203", after := #[{ on := 6, ground := Ground.chain }, { on := 6, ground := Ground.guard }], guard := some (6, true) } : Oper)) rfl (fun K hK => ?_) ?_
    rotate_left
    · exact AllReadyH.nil
    go_simp
    go_at_call 9
    with_reducible refine (is_any 0 1 _).mono ?_
    rintro e z0 ⟨rfl, hq0⟩
    have hB0 := below_step hse hq0
    clear hHeld
    first | (with_reducible refine hK.out _ _ ?_ (fun hHeld => ?_)) | (go_wp2_with fail; with_reducible refine hK.out _ _ ?_ (fun hHeld => ?_))
    · exact ⟨cell_below hB0 k0, cell_below hB0 k1, cell_below hB0 k2, hB0⟩
    clear hK K
    (try simp only [Act.put, List.setIfInBounds_toArray, List.set_cons_zero, List.set_cons_succ])
    refine wpAnyH_take (i := 9) (oi := ({ dst := some 117, op := Op.binOp BinOp.eql 29 (Operand.tmp 115) (Operand.tmp 116) 29, type := 4, pos := "law.go:203", after := #[{ on := 7, ground := Ground.data }, { on := 8, ground := Ground.data }, { on := 6, ground := Ground.guard }], guard := some (6, true) } : Oper)) (v := ?_) rfl (by kernel_rfl) (by kernel_rfl) (by kernel_rfl) (fun _ _ _ h => h) (Or.inl ⟨by rfl, ?_⟩) (by assumption) ?_
    rotate_left
    · intro w hSw; (try dsimp only at hSw); go_simp <;> with_reducible rfl
    (try simp only [Act.put, List.setIfInBounds_toArray, List.set_cons_zero, List.set_cons_succ])
    refine wpAnyH_take (i := 10) (oi := ({ dst := some 118, op := Op.pick (Operand.tmp 114) (Operand.tmp 117) (Operand.const (Value.bool false)), type := 4, pos := "law.go:203", after := #[{ on := 6, ground := Ground.data }, { on := 9, ground := Ground.data }], guard := none } : Oper)) (v := ?_) rfl (by kernel_rfl) (by kernel_rfl) (by kernel_rfl) (fun _ _ _ h => h) (Or.inl ⟨by rfl, ?_⟩) (by assumption) ?_
    rotate_left
    · intro w hSw; (try dsimp only at hSw); go_simp <;> with_reducible rfl
    (try simp only [Act.put, List.setIfInBounds_toArray, List.set_cons_zero, List.set_cons_succ])
    refine wpAnyH_take (i := 11) (oi := ({ dst := some 4, op := Op.assign (Operand.tmp 118), type := 4, pos := "law.go:203", after := #[{ on := 10, ground := Ground.data }, { on := 8, ground := Ground.chain }, { on := 0, ground := Ground.phase }, { on := 1, ground := Ground.phase }, { on := 2, ground := Ground.phase }, { on := 3, ground := Ground.phase }, { on := 4, ground := Ground.phase }, { on := 5, ground := Ground.phase }, { on := 6, ground := Ground.phase }, { on := 7, ground := Ground.phase }, { on := 8, ground := Ground.phase }, { on := 9, ground := Ground.phase }, { on := 10, ground := Ground.phase }], guard := none } : Oper)) (v := ?_) rfl (by kernel_rfl) (by kernel_rfl) (by kernel_rfl) (fun _ _ _ h => h) (Or.inl ⟨by rfl, ?_⟩) (by assumption) ?_
    rotate_left
    · intro w hSw; (try dsimp only at hSw); go_simp <;> with_reducible rfl
    (try simp only [Act.put, List.setIfInBounds_toArray, List.set_cons_zero, List.set_cons_succ])
    refine wpAnyH_done (by kernel_rfl) ?_ _
    have HE := hid (below_step L5.out hB0)
    go_wp2_with fail
    go_ret
    exact ⟨rfl, HE.out⟩

end Go.Proofs.YtofigldjaoemfaaDoor

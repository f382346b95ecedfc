/-
  The law DigestTexts of package digest holds: Parse inverts Text; different numbers have different texts; a text with another byte is that of another number, or is refused.
  No condition: every input that the row speaks of.
-/
import Derived.Test.YtfoiadabppnibaaGa
import Derived.Test.YtfoiadabppnibaaGpost
import Derived.Deep.RegionHeld3
import Derived.Laws.Concat
namespace Go.Proofs.Ytfoiadabppnibaa
open Go.ChangeShapes Go.WideShapes Go.ChangeAt Go.RowKit
set_option linter.unusedVariables false

set_option maxRecDepth 100000 in
set_option maxHeartbeats 8000000 in
theorem texts_walk (x y : BitVec 64) (c d : UInt8) (W : World) :
    Calls Try.prog 9 #[.int .u64 (x.toNat : Int), .int .u64 (y.toNat : Int), .agg #[.int .u8 (c.toNat : Int), .int .u8 (d.toNat : Int)]] W fun e w' => e = .returned (.bool true) ∧ Below W.heap.size W w' := by
  have hx := x.isLt
  have hy := y.isLt
  have T1 := hid (fun W => text_any x.toNat hx W)
  have T2 := hid (fun W => text_any y.toNat hy W)
  obtain ⟨S, hS⟩ : ∃ S : ByteArray, (⟨(textN x.toNat 16).toArray⟩ : ByteArray) = S := ⟨_, rfl⟩
  obtain ⟨T, hT⟩ : ∃ S : ByteArray, (⟨(textN y.toNat 16).toArray⟩ : ByteArray) = S := ⟨_, rfl⟩
  rw [hS] at T1
  rw [hT] at T2
  have hSl : S.data.toList = textN x.toNat 16 := by rw [← hS]
  have hTl : T.data.toList = textN y.toNat 16 := by rw [← hT]
  have hz : S.size = 16 := by have := congrArg List.length hSl; rw [textN_length] at this; simpa using this
  have P1 := hid (fun W => parsed_any S W)
  have hv := valF_text 16 x.toNat hx
  have e1 : parN S.data.toList = x.toNat := by unfold parN; rw [hSl, textN_length, if_pos rfl, hv]; rfl
  have e2 : parE S.data.toList = 0 := by unfold parE; rw [hSl, textN_length, if_pos rfl, hv]; rfl
  rw [e1, e2] at P1
  have q1 : (T.toList == S.toList) = ((x.toNat : Int) == (y.toNat : Int)) := by
    rw [ByteArray.toList_eq, ByteArray.toList_eq, hSl, hTl]
    by_cases e : x = y
    · subst e; simp
    · have f1 : ((x.toNat : Int) == (y.toNat : Int)) = false := by rw [beq_eq_false_iff_ne]; exact fun k => e (BitVec.eq_of_toNat_eq (by omega))
      have f2 : (textN y.toNat 16 == textN x.toNat 16) = false := by rw [beq_eq_false_iff_ne]; exact fun k => e (BitVec.eq_of_toNat_eq (textN_inj hy hx k).symm)
      rw [f1, f2]
  obtain ⟨k, hk⟩ : ∃ k : Nat, (c.toNat : Int) % 16 = (k : Int) := ⟨c.toNat % 16, by omega⟩
  have hk16 : k < 16 := by omega
  have hk17 : (0 : Int) ≤ (k : Int) := by omega
  have hk18 : (k : Int) < 16 := by omega
  have hw1 : IntKind.i64.wrap ((k : Int) + 1) = (k : Int) + 1 := by rw [IntKind.wrap_i64]; omega
  obtain ⟨A, hA⟩ : ∃ A : ByteArray, S.extract 0 k = A := ⟨_, rfl⟩
  obtain ⟨E, hE⟩ : ∃ E : ByteArray, S.extract (k + 1) S.size = E := ⟨_, rfl⟩
  have hs1 : ∀ W' : World, (Instr.slice 9 (.string S) none (some (.int .i64 (k : Int))) none).run Try.prog W' = .ok (.string A) W' := by
    intro W'
    have h := run_slice_string_h (P := Try.prog) (w := W') (t := 9) (s := S) Try.underlying9 .i64 (k : Int) (by omega) (by omega)
    rw [h, ← hA]; rfl
  have hs2 : ∀ W' : World, (Instr.slice 9 (.string S) (some (.int .i64 ((k : Int) + 1))) none none).run Try.prog W' = .ok (.string E) W' := by
    intro W'
    have h := run_slice_string_l (P := Try.prog) (w := W') (t := 9) (s := S) Try.underlying9 .i64 ((k : Int) + 1) (by omega) (by omega)
    rw [h, ← hE]; rfl
  have hAs : A.size ≤ 16 := by rw [← hA]; simp; omega
  have hEs : E.size ≤ 16 := by rw [← hE]; simp; omega
  have hAl : A.data.toList = S.data.toList.take k := by rw [← hA]; simp
  have hEl : E.data.toList = S.data.toList.drop (k + 1) := by
    rw [← hE]; simp
    rw [List.take_of_length_le (by simp)]
  have n1 : ¬ 9223372036854775807 ≤ A.size := by omega
  have n2 : ¬ 9223372036854775807 < A.size + 1 + E.size := by omega
  have n3 : ¬ 9223372036854775807 < A.size + 1 := by omega
  have n4 : A.size + 1 ≤ 9223372036854775807 := by omega
  have n5 : A.size < 9223372036854775807 := by omega
  have n6 : A.size + 1 + E.size ≤ 9223372036854775807 := by omega
  obtain ⟨Z, hZ⟩ : ∃ Z : ByteArray, A ++ ⟨#[d]⟩ ++ E = Z := ⟨_, rfl⟩
  obtain ⟨L, hL⟩ : ∃ L : ByteArray, S ++ ⟨#[48]⟩ = L := ⟨_, rfl⟩
  have hZs : Z.data.toList.length = 16 := by
    rw [← hZ]
    simp only [ByteArray.data_append, Array.toList_append, hAl, hEl, hSl, List.length_append, List.length_take, List.length_drop, textN_length]
    simp; omega
  have hLs : L.data.toList.length = 17 := by
    rw [← hL]
    simp only [ByteArray.data_append, Array.toList_append, hSl, List.length_append, textN_length]
    rfl
  have PZ0 := fun W => parsed_any Z W
  have PA0 := hid (fun W => parsed_any A W)
  have PL0 := hid (fun W => parsed_any L W)
  have z1 : ∀ l : List UInt8, l.length ≠ 16 → parN l = 0 ∧ parE l = 3 := fun l h => by unfold parN parE; rw [if_neg h, if_neg h]; exact ⟨rfl, rfl⟩
  have zA := z1 A.data.toList (by rw [hAl, hSl, List.length_take, textN_length]; omega)
  have zL := z1 L.data.toList (by omega)
  rw [zA.1, zA.2] at PA0
  rw [zL.1, zL.2] at PL0
  have hS48 : S.size + 1 ≤ 9223372036854775807 := by omega
  have hS49 : ¬ 9223372036854775807 < S.size + 1 := by omega
  have hS50 : ¬ 9223372036854775807 ≤ S.size := by omega
  have HZ := hid hZ
  have HL := hid hL
  have key : (∃ v : Nat, parN Z.data.toList = v ∧ parE Z.data.toList = 0 ∧ (⟨(textN v 16).toArray⟩ : ByteArray) = Z ∧ v < 18446744073709551616) ∨ (parN Z.data.toList = 0 ∧ parE Z.data.toList = 3) := by
    unfold parN parE
    rw [if_pos hZs, if_pos hZs]
    cases hv : valF 0 Z.data.toList with
    | none => exact Or.inr ⟨rfl, rfl⟩
    | some v =>
      obtain ⟨g1, g2⟩ := text_valF _ v hv
      rw [hZs] at g1 g2
      exact Or.inl ⟨v, rfl, rfl, bytes_inj g1, g2⟩
  have KEY := hid key
  have PZ1 := hid PZ0
  clear hA hE hAl hEl hZ hL hZs hLs z1 zA zL key PZ0
  have l1 : ((S.size : Int) != 16) = false := by rw [hz]; rfl
  have l2 : S.size ≤ 16 := by omega
  have l3 : 16 ≤ S.size := by omega
  have HS := hid hSl
  obtain ⟨nx, hnx⟩ : ∃ n : Int, (x.toNat : Int) = n := ⟨_, rfl⟩
  obtain ⟨ny, hny⟩ : ∃ n : Int, (y.toNat : Int) = n := ⟨_, rfl⟩
  rw [hnx] at T1 P1 q1 ⊢
  rw [hny] at T2 q1 ⊢
  clear hS hT hTl e1 e2 hv hnx hny hx hy hSl hz
  go_enter Try.func9, Try.ntmps9
  go_wp2_with fail
  refine (examples_any _).mono ?_
  rintro e w0 ⟨rfl, hb⟩
  have B0 := hid (show Below W.heap.size W w0 from (below_a0 W _).trans (hb.mono (by simp)))
  have c0 : w0.cell? ⟨W.heap.size, 0, none⟩ = some (.int .u8 (c.toNat : Int)) := cell_below hb (by simp [go_sem])
  have c1 : w0.cell? ⟨W.heap.size, 1, none⟩ = some (.int .u8 (d.toNat : Int)) := cell_below hb (by simp [go_sem])
  clear hb
  have C0 := hid c0
  have C1 := hid c1
  clear c0 c1
  go_wp2_with fail
  refine (T1.out _).mono ?_
  rintro e w1 ⟨rfl, hb⟩
  have B1 := hid (below_step B0.out hb)
  have C10 := hid (cell_below hb C0.out)
  have C11 := hid (cell_below hb C1.out)
  clear hb
  go_wp2_with fail
  refine (P1.out _).mono ?_
  rintro e w2 ⟨rfl, hb⟩
  have B2 := hid (below_step B1.out hb)
  have C20 := hid (cell_below hb C10.out)
  have C21 := hid (cell_below hb C11.out)
  clear hb
  go_wp2_with fail
  refine (T2.out _).mono ?_
  rintro e w3 ⟨rfl, hb⟩
  have B3 := hid (below_step B2.out hb)
  have c0 := cell_below hb C20.out
  have c1 := cell_below hb C21.out
  clear hb
  have hc := c.toNat_lt
  have hd := d.toNat_lt
  go_wp2_with fail
  have hsA := Below.refl w3.heap.size w3
  have hsd := hsA.drew
  have hcv0 : ∀ W2 : World, W2.cell? ⟨w3.heap.size, 0, none⟩ = some (.int .u8 (d.toNat : Int)) → (Go.convert 23 9 (.slice (some ⟨w3.heap.size, 0, none⟩) 1 1)).run Try.prog W2 = .ok (.string ⟨#[d]⟩) W2 := by
    intro W2 h
    refine run_convert_bytes_back (P := Try.prog) W2 23 9 5 ⟨w3.heap.size, 0, none⟩ 1 [d] Try.underlying23 Try.underlying5 Try.underlying9 (fun j hj => ?_)
    have : j = 0 := by simpa using hj
    subst this
    simpa [Addr.add] using h
  have hcv := hcv0 (w3.drew.alloc (.cells #[.int .u8 (d.toNat : Int)] 5)) (blk_cell (heap_new _ _) rfl)
  have hcv2 : (Go.convert 23 9 (.slice (some ⟨w3.heap.size, 0, none⟩) 1 1)).run Try.prog (w3.alloc (.cells #[.int .u8 (d.toNat : Int)] 5)).drew = .ok (.string ⟨#[d]⟩) (w3.alloc (.cells #[.int .u8 (d.toNat : Int)] 5)).drew := hcv
  clear hcv0
  refine wp_region_held_drew (S := fun W' => W'.cell? ⟨W.heap.size, 1, none⟩ = some (.int .u8 (d.toNat : Int)) ∧ Below w3.heap.size w3 W') (by kernel_rfl) ?_ (fun hHeld => ?_)
  · exact ⟨cell_below hsd c1, hsd⟩
  refine wpAnyH_take (i := 0) (oi := ({ dst := some 41, op := Op.move (Operand.tmp 8), type := 9, pos := "law.go:121", after := #[], guard := none } : Oper)) (v := ?_) rfl (by kernel_rfl) (by kernel_rfl) (by kernel_rfl) (fun _ _ _ h => h) (Or.inl ⟨by rfl, ?_⟩) (by assumption) ?_
  rotate_left
  · intro w hSw; (try dsimp only at hSw); go_simp <;> with_reducible rfl
  (try simp only [Act.put, List.setIfInBounds_toArray, List.set_cons_zero, List.set_cons_succ])
  refine wpAnyH_take (i := 1) (oi := ({ dst := some 42, op := Op.move (Operand.tmp 9), type := 3, pos := "law.go:121", after := #[], guard := none } : Oper)) (v := ?_) rfl (by kernel_rfl) (by kernel_rfl) (by kernel_rfl) (fun _ _ _ h => h) (Or.inl ⟨by rfl, ?_⟩) (by assumption) ?_
  rotate_left
  · intro w hSw; (try dsimp only at hSw); go_simp <;> with_reducible rfl
  (try simp only [Act.put, List.setIfInBounds_toArray, List.set_cons_zero, List.set_cons_succ])
  refine wpAnyH_take (i := 2) (oi := ({ dst := some 43, op := Op.slice 9 (Operand.tmp 41) none (some (Operand.tmp 42)) none, type := 9, pos := "law.go:121", after := #[{ on := 0, ground := Ground.data }, { on := 1, ground := Ground.data }], guard := none } : Oper)) (v := ?_) rfl (by kernel_rfl) (by kernel_rfl) (by kernel_rfl) (fun _ _ _ h => h) (Or.inl ⟨by rfl, ?_⟩) (by assumption) ?_
  rotate_left
  · intro w hSw; (try dsimp only at hSw); go_simp <;> with_reducible rfl
  (try simp only [Act.put, List.setIfInBounds_toArray, List.set_cons_zero, List.set_cons_succ])
  refine wpAnyH_take (i := 3) (oi := ({ dst := some 44, op := Op.indexAddr 39 (Operand.tmp 5) (Operand.const (Value.int IntKind.i64 1)), type := 0, pos := "law.go:121", after := #[], guard := none } : Oper)) (v := ?_) rfl (by kernel_rfl) (by kernel_rfl) (by kernel_rfl) (fun _ _ _ h => h) (Or.inl ⟨by rfl, ?_⟩) (by assumption) ?_
  rotate_left
  · intro w hSw; (try dsimp only at hSw); go_simp <;> with_reducible rfl
  (try simp only [Act.put, List.setIfInBounds_toArray, List.set_cons_zero, List.set_cons_succ])
  refine wpAnyH_take (i := 4) (oi := ({ dst := some 45, op := Op.load 5 (Operand.tmp 44), type := 5, pos := "law.go:121", after := #[{ on := 3, ground := Ground.data }], guard := none } : Oper)) (v := ?_) rfl (by kernel_rfl) (by kernel_rfl) (by kernel_rfl) (fun _ _ _ h => h) (Or.inl ⟨by rfl, ?_⟩) (by assumption) ?_
  rotate_left
  · intro w hSw; (try dsimp only at hSw); go_simp <;> with_reducible rfl
  (try simp only [Act.put, List.setIfInBounds_toArray, List.set_cons_zero, List.set_cons_succ])
  refine wpAnyH_take (i := 8) (oi := ({ dst := some 49, op := Op.move (Operand.tmp 8), type := 9, pos := "law.go:121", after := #[], guard := none } : Oper)) (v := ?_) rfl (by kernel_rfl) (by kernel_rfl) (by kernel_rfl) (fun _ _ _ h => h) (Or.inl ⟨by rfl, ?_⟩) (by assumption) ?_
  rotate_left
  · intro w hSw; (try dsimp only at hSw); go_simp <;> with_reducible rfl
  (try simp only [Act.put, List.setIfInBounds_toArray, List.set_cons_zero, List.set_cons_succ])
  refine wpAnyH_take (i := 9) (oi := ({ dst := some 50, op := Op.move (Operand.tmp 9), type := 3, pos := "law.go:121", after := #[], guard := none } : Oper)) (v := ?_) rfl (by kernel_rfl) (by kernel_rfl) (by kernel_rfl) (fun _ _ _ h => h) (Or.inl ⟨by rfl, ?_⟩) (by assumption) ?_
  rotate_left
  · intro w hSw; (try dsimp only at hSw); go_simp <;> with_reducible rfl
  (try simp only [Act.put, List.setIfInBounds_toArray, List.set_cons_zero, List.set_cons_succ])
  refine wpAnyH_take (i := 10) (oi := ({ dst := some 51, op := Op.binOp BinOp.add 3 (Operand.tmp 50) (Operand.const (Value.int IntKind.i64 1)) 3, type := 3, pos := "law.go:121", after := #[{ on := 9, ground := Ground.data }], guard := none } : Oper)) (v := ?_) rfl (by kernel_rfl) (by kernel_rfl) (by kernel_rfl) (fun _ _ _ h => h) (Or.inl ⟨by rfl, ?_⟩) (by assumption) ?_
  rotate_left
  · intro w hSw; (try dsimp only at hSw); go_simp <;> with_reducible rfl
  (try simp only [Act.put, List.setIfInBounds_toArray, List.set_cons_zero, List.set_cons_succ])
  refine wpAnyH_take (i := 11) (oi := ({ dst := some 52, op := Op.slice 9 (Operand.tmp 49) (some (Operand.tmp 51)) none none, type := 9, pos := "law.go:121", after := #[{ on := 8, ground := Ground.data }, { on := 10, ground := Ground.data }], guard := none } : Oper)) (v := ?_) rfl (by kernel_rfl) (by kernel_rfl) (by kernel_rfl) (fun _ _ _ h => h) (Or.inl ⟨by rfl, ?_⟩) (by assumption) ?_
  rotate_left
  · intro w hSw; (try dsimp only at hSw); go_simp <;> with_reducible rfl
  (try simp only [Act.put, List.setIfInBounds_toArray, List.set_cons_zero, List.set_cons_succ])
  refine wpAnyH_ready (rs := [5]) (by kernel_rfl) (by simp) ?_
  refine AllReadyH.cons (o := ({ dst := some 46, op := Op.buildSlice 23 1 #[(0, Operand.tmp 45)], type := 23, pos := "law.go:121", after := #[{ on := 4, ground := Ground.data }], guard := none } : Oper)) rfl (fun K hK => ?_) ?_
  rotate_left
  · exact AllReadyH.nil
  go_simp
  clear hHeld
  refine hK.out _ _ ?_ (fun hHeld => ?_)
  · exact ⟨cell_below (below_a hsd _) c1, below_a hsd _⟩
  clear hK K
  (try simp only [Act.put, List.setIfInBounds_toArray, List.set_cons_zero, List.set_cons_succ])
  refine wpAnyH_ready (rs := [6]) (by kernel_rfl) (by simp) ?_
  refine AllReadyH.cons (o := ({ dst := some 47, op := Op.convert 23 9 (Operand.tmp 46), type := 9, pos := "law.go:121", after := #[{ on := 5, ground := Ground.data }], guard := none } : Oper)) rfl (fun K hK => ?_) ?_
  rotate_left
  · exact AllReadyH.nil
  go_simp
  clear hHeld
  refine hK.out _ _ ?_ (fun hHeld => ?_)
  · exact ⟨cell_below (below_a hsd _) c1, below_a hsd _⟩
  clear hK K
  (try simp only [Act.put, List.setIfInBounds_toArray, List.set_cons_zero, List.set_cons_succ])
  refine wpAnyH_take (i := 7) (oi := ({ dst := some 48, op := Op.binOp BinOp.add 9 (Operand.tmp 43) (Operand.tmp 47) 9, type := 9, pos := "law.go:121", after := #[{ on := 2, ground := Ground.data }, { on := 6, ground := Ground.data }], guard := none } : Oper)) (v := ?_) rfl (by kernel_rfl) (by kernel_rfl) (by kernel_rfl) (fun _ _ _ h => h) (Or.inl ⟨by rfl, ?_⟩) (by assumption) ?_
  rotate_left
  · intro w hSw; (try dsimp only at hSw); go_simp <;> with_reducible rfl
  (try simp only [Act.put, List.setIfInBounds_toArray, List.set_cons_zero, List.set_cons_succ])
  refine wpAnyH_take (i := 12) (oi := ({ dst := some 53, op := Op.binOp BinOp.add 9 (Operand.tmp 48) (Operand.tmp 52) 9, type := 9, pos := "law.go:121", after := #[{ on := 7, ground := Ground.data }, { on := 11, ground := Ground.data }], guard := none } : Oper)) (v := ?_) rfl (by kernel_rfl) (by kernel_rfl) (by kernel_rfl) (fun _ _ _ h => h) (Or.inl ⟨by rfl, ?_⟩) (by assumption) ?_
  rotate_left
  · intro w hSw; (try dsimp only at hSw); go_simp <;> with_reducible rfl
  (try simp only [Act.put, List.setIfInBounds_toArray, List.set_cons_zero, List.set_cons_succ])
  refine wpAnyH_take (i := 13) (oi := ({ dst := some 10, op := Op.assign (Operand.tmp 53), type := 9, pos := "law.go:121", after := #[{ on := 12, ground := Ground.data }, { on := 0, ground := Ground.phase }, { on := 1, ground := Ground.phase }, { on := 2, ground := Ground.phase }, { on := 3, ground := Ground.phase }, { on := 4, ground := Ground.phase }, { on := 5, ground := Ground.phase }, { on := 6, ground := Ground.phase }, { on := 7, ground := Ground.phase }, { on := 8, ground := Ground.phase }, { on := 9, ground := Ground.phase }, { on := 10, ground := Ground.phase }, { on := 11, ground := Ground.phase }, { on := 12, ground := Ground.phase }], guard := none } : Oper)) (v := ?_) rfl (by kernel_rfl) (by kernel_rfl) (by kernel_rfl) (fun _ _ _ h => h) (Or.inl ⟨by rfl, ?_⟩) (by assumption) ?_
  rotate_left
  · intro w hSw; (try dsimp only at hSw); go_simp <;> with_reducible rfl
  (try simp only [Act.put, List.setIfInBounds_toArray, List.set_cons_zero, List.set_cons_succ])
  refine wpAnyH_done (by kernel_rfl) ?_ _
  rw [HZ.out]
  have B4 := hid (show Below W.heap.size W (w3.alloc (.cells #[.int .u8 (d.toNat : Int)] 5)).drew from below_step B3.out ((below_a (Below.refl _ _) _).drew))
  obtain ⟨w4, hw4⟩ : ∃ w4, (w3.alloc (.cells #[.int .u8 (d.toNat : Int)] 5)).drew = w4 := ⟨_, rfl⟩
  rw [hw4] at B4 ⊢
  clear hw4 hcv hcv2 hs2 hHeld c0 c1 hsA hsd
  have fe := field_e
  have fx := field_x
  rcases KEY.out with ⟨v, k1, k2, k3, k4⟩ | ⟨k1, k2⟩
  · have PZ := hid PZ1.out
    rw [k1, k2] at PZ
    have TZ := hid (fun W => text_any v k4 W)
    rw [k3] at TZ
    clear k1 k2 k3 PZ1 KEY
    go_wp2_with fail
    refine (PZ.out _).mono ?_
    rintro e w5 ⟨rfl, hb⟩
    have B5 := hid (below_step B4.out hb)
    clear hb
    go_wp2_with fail
    refine (TZ.out _).mono ?_
    rintro e w6 ⟨rfl, hb⟩
    have B6 := hid (below_step (below_a B5.out _) hb)
    clear hb
    go_wp2_with fail
    rw [HL.out]
    refine (PL0.out _).mono ?_
    rintro e w7 ⟨rfl, hb⟩
    have B7 := hid (below_step B6.out hb)
    clear hb
    go_wp2_with fail
    go_ret
    exact ⟨rfl, B7.out⟩
  · have PZ := hid PZ1.out
    rw [k1, k2] at PZ
    clear k1 k2 PZ1 KEY
    go_wp2_with fail
    refine (PZ.out _).mono ?_
    rintro e w5 ⟨rfl, hb⟩
    have B5 := hid (below_step B4.out hb)
    clear hb
    go_wp2_with fail
    refine (PA0.out _).mono ?_
    rintro e w7 ⟨rfl, hb⟩
    have B7 := hid (below_step (below_a B5.out _) hb)
    clear hb
    go_wp2_with fail
    go_ret
    exact ⟨rfl, B7.out⟩

section
variable {H : Type} {enc : TypeId × Value → H} {W : World}
set_option maxRecDepth 100000 in
theorem open_pair {v : Value} {d : DataW H} {p : List MemPlace} (h : DataW.Trod enc Try.prog W 0 (fun _ => true) true 39 v d p) :
    ∃ a b : Int, v = .agg #[.int .u8 a, .int .u8 b] ∧ (Lit.int .u8 a).wf = true ∧ (Lit.int .u8 b).wf = true := by
  obtain ⟨fuel, hf⟩ := h
  obtain ⟨xs, m, -, -, hl, hn, hel⟩ := DataW.trod_array Try.underlying39 hf
  have c3 : Try.prog.cellsOf 5 = 1 := by kernel_rfl
  have c22 : Try.prog.cellsOf 39 = 2 := by kernel_rfl
  have hl2 : v.cells.toList.length = 2 := hl.trans c22
  have e0 : DataW.trod enc Try.prog W 0 (fun _ => true) true m 5 ((v.cells.toList.drop (0 * 1)).take 1) = xs[0]? := by have h := hel 0 (by decide); rw [c3] at h; exact h
  have e1 : DataW.trod enc Try.prog W 0 (fun _ => true) true m 5 ((v.cells.toList.drop (1 * 1)).take 1) = xs[1]? := by have h := hel 1 (by decide); rw [c3] at h; exact h
  clear hl hel hf
  have key : ∀ cs : List Value, cs.length = 2 → (DataW.trod enc Try.prog W 0 (fun _ => true) true m 5 ((cs.drop (0 * 1)).take 1) = xs[0]?) → (DataW.trod enc Try.prog W 0 (fun _ => true) true m 5 ((cs.drop (1 * 1)).take 1) = xs[1]?) →
      ∃ a b : Int, cs = [.int .u8 a, .int .u8 b] ∧ (Lit.int .u8 a).wf = true ∧ (Lit.int .u8 b).wf = true := by
    intro cs hcs k0 k1
    match cs, hcs with
    | [x0, x1], _ =>
      rw [List.getElem?_eq_getElem (show 0 < xs.length by omega)] at k0
      rw [List.getElem?_eq_getElem (show 1 < xs.length by omega)] at k1
      obtain ⟨a, h1, -, w1⟩ := DataW.trod_int Try.underlying5 (show DataW.trod enc Try.prog W 0 (fun _ => true) true m 5 [x0] = some _ from k0)
      obtain ⟨b, h2, -, w2⟩ := DataW.trod_int Try.underlying5 (show DataW.trod enc Try.prog W 0 (fun _ => true) true m 5 [x1] = some _ from k1)
      cases h1; cases h2
      exact ⟨a, b, rfl, w1, w2⟩
  cases v with
  | agg cs =>
    obtain ⟨a, b, hcs, ha, hb⟩ := key cs.toList hl2 e0 e1
    exact ⟨a, b, by rw [show cs = #[Value.int .u8 a, .int .u8 b] from Array.ext' hcs], ha, hb⟩
  | _ => exact absurd hl2 (by simp [Value.cells])
end

theorem digestTexts_contract (H : Type) (enc : TypeId × Value → H) (W : World) (base : Nat) (args : Array Value) (ds gs : List (DataW H)) (before : List MemPlace)
    (hval : ∀ (j : Nat) t v, Try.f9.params[j]? = some t → args[j]? = some v → Value.okWide Try.prog W .any base t v)
    (hW : DataW.Whole enc Try.prog Try.f9.params.toList Rows.digestTextsSpec.vars false W args.toList ds gs before) :
    Calls Try.prog 9 args W fun e W' => ∃ v, e = .returned v ∧ Rows.digestTextsSpec.post enc Try.prog Try.f9 false true false false W args v W' := by
  have hW' := hW
  obtain ⟨p, q, hA0, hV, rfl, hfz, hnd⟩ := hW
  have hA : DataW.TrodAll enc Try.prog W 0 (fun _ => true) true Try.f9.params.toList args.toList ds p := hA0
  rw [Try.params9] at hA hval
  obtain ⟨v0, vs0, d0, ds0, p0, q0, hargs, rfl, rfl, h0, r0⟩ := trodAll_cons hA
  obtain ⟨v1, vs1, d1, ds1, p1, q1, rfl, rfl, rfl, h1, r1⟩ := trodAll_cons r0
  obtain ⟨v2, vs2, d2, ds2, p2, q2, rfl, rfl, rfl, h2, r2⟩ := trodAll_cons r1
  obtain ⟨rfl, rfl, rfl⟩ := trodAll_nil r2
  obtain rfl : args = #[v0, v1, v2] := by cases args; simp_all
  obtain ⟨rfl, rfl⟩ := trodVars_none hV
  obtain ⟨t0, rfl, rfl, rfl, wf0⟩ := open_int Try.underlying25 (hval 0 25 v0 rfl rfl) h0
  obtain ⟨t1, rfl, rfl, rfl, wf1⟩ := open_int Try.underlying25 (hval 1 25 v1 rfl rfl) h1
  obtain ⟨n2, m2, rfl, wn2, wm2⟩ := open_pair h2
  obtain ⟨x0, rfl⟩ := bdU wf0
  obtain ⟨x1, rfl⟩ := bdU wf1
  obtain ⟨y2, rfl⟩ := bdB wn2
  obtain ⟨z2, rfl⟩ := bdB wm2
  refine (texts_walk x0 x1 y2 z2 W).mono fun e W' ⟨he, hg⟩ => ?_
  subst he
  exact ⟨_, rfl, post_true (T := 4) (by kernel_rfl) (by kernel_rfl) rfl rfl (by kernel_rfl) hW' hg rfl⟩

set_option maxRecDepth 100000 in
theorem digestTexts_lifted (os : Os) (started : os.Started) (H : Type) (enc : TypeId × Value → H) :
    ReturnsInHanded {} Try.checked os 9 .any (Rows.digestTextsSpec.pre6 enc Try.prog Try.f9 Rows.digestTextsRow.domain false) (Rows.digestTextsSpec.post enc Try.prog Try.f9 false true false false) := by
  refine returnsInHanded_of_change (C := Try.checked) own started (by kernel_rfl) Try.func9
    (ChangeSpec.witness6 (enc := enc) (C := Try.checked) false ⟨#[], #[.int .u64 0, .int .u64 0, .agg #[.int .u8 0, .int .u8 0]], []⟩ 8 (by kernel_rfl) (by kernel_rfl) (by kernel_rfl) (by kernel_rfl)) ?_
  intro W base args ds gs before hval hW _ _
  exact digestTexts_contract H enc W base args ds gs before hval hW

theorem digestTexts_holds : Rows.DigestTextsSaid :=
  OpenClaim.holds_of_wide 9 Try.f9 rfl rfl rfl rfl rfl rfl rfl ⟨rfl, rfl, rfl, rfl, rfl⟩ rfl rfl rfl rfl rfl (by kernel_rfl) Try.func9 (by kernel_rfl)
    (of_decide_eq_true (by kernel_rfl)) (by unfold Func.isWrapper; rw [if_neg (of_decide_eq_false (by kernel_rfl))]; exact ⟨rfl, rfl⟩)
    (fun os started H enc _ => digestTexts_lifted os started H enc)
end Go.Proofs.Ytfoiadabppnibaa

import Derived.Test.YtffcnkkgbhhfnaaDoorRte
import Derived.Test.YtffcnkkgbhhfnaaDoorRz
import Derived.Test.YtffcnkkgbhhfnaaDoorRpost
import Derived.Deep.RegionHeld3
import Derived.Deep.RegionWith
import Derived.Deep.AppendLies
namespace Go.Proofs.YtffcnkkgbhhfnaaDoor
open Go.RowKit Go.Instr
set_option linter.unusedVariables false

/-! The law RatTexts. -/
theorem psR_text (n d : Int) (h : Fr n d) (t : ByteArray) (ht : (⟨(textL n d).toArray⟩ : ByteArray) = t) : psR t.data.toList = .agg #[.int .i64 n, .int .i64 d, .int .i64 0] := by
  have : t.data.toList = textL n d := by rw [← ht]
  unfold psR
  rw [this, psOf_text n d h]
/-- The strings lie in a block. -/
def StrsIn (w : World) (g : Nat) (L : List ByteArray) : Prop := ∀ k (h : k < L.length), w.cell? ⟨g, k, none⟩ = some (.string L[k])
theorem StrsIn.below {w w' : World} {g : Nat} {L : List ByteArray} (h : StrsIn w g L) (hb : Below w.heap.size w w') : StrsIn w' g L := fun k hk => cell_below hb (h k hk)
theorem strs_three {w : World} {g : Nat} {a b c : ByteArray} (h0 : w.cell? ⟨g, 0, none⟩ = some (.string a)) (h1 : w.cell? ⟨g, 1, none⟩ = some (.string b)) (h2 : w.cell? ⟨g, 2, none⟩ = some (.string c)) : StrsIn w g [a, b, c] := by
  intro k hk
  match k, hk with
  | 0, _ => exact h0
  | 1, _ => exact h1
  | 2, _ => exact h2
theorem strs_two {w : World} {g : Nat} {a b : ByteArray} (h0 : w.cell? ⟨g, 0, none⟩ = some (.string a)) (h1 : w.cell? ⟨g, 1, none⟩ = some (.string b)) : StrsIn w g [a, b] := by
  intro k hk
  match k, hk with
  | 0, _ => exact h0
  | 1, _ => exact h1
theorem psR_cases (t : ByteArray) : (∃ n d, Fr n d ∧ (⟨(textL n d).toArray⟩ : ByteArray) = t ∧ psR t.data.toList = .agg #[.int .i64 n, .int .i64 d, .int .i64 0]) ∨ psR t.data.toList = .agg #[.int .i64 0, .int .i64 0, .int .i64 3] := by
  rcases psOf_cases t.data.toList with ⟨n, d, h1, h2, h3⟩ | ⟨h1, h2⟩
  · exact Or.inl ⟨n, d, h1, by apply ByteArray.ext; rw [h2], by unfold psR; rw [h3]⟩
  · exact Or.inr (by unfold psR; rw [h2])
set_option maxRecDepth 100000 in
set_option maxHeartbeats 16000000 in
theorem texts_walk (x0 x1 : Int) (bx0 : I64 x0) (bx1 : I64 x1) (z0 z1 z2 : Nat) (h0 : z0 ≤ 255) (h1 : z1 ≤ 255) (h2 : z2 ≤ 255) (s : ByteArray) (w : World) (g : Glob2 w) :
    Calls Tryd.prog 3 #[.agg #[.int .i64 x0, .int .i64 x1], .agg #[.int .u8 (z0 : Int), .int .u8 (z1 : Int), .int .u8 (z2 : Int)], .string s] w fun e w' => e = .returned (.bool true) ∧ Below w.heap.size w w' := by
  obtain ⟨w0, hw0⟩ : ∃ w0, (w.alloc (.cells #[.int .i64 x0, .int .i64 x1] 22)).alloc (.cells #[.int .u8 (z0 : Int), .int .u8 (z1 : Int), .int .u8 (z2 : Int)] 23) = w0 := ⟨_, rfl⟩
  have hb0 : Below w.heap.size w w0 := by rw [← hw0]; exact below_a (below_a (Below.refl _ _) _) _
  have PK := hid (fun (W : World) (hW : Below w0.heap.size w0 W) => show W.cell? ⟨w.heap.size, 0, none⟩ = some (.int .i64 x0) ∧ W.cell? ⟨w.heap.size, 1, none⟩ = some (.int .i64 x1) ∧ W.cell? ⟨w.heap.size + 1, 0, none⟩ = some (.int .u8 (z0 : Int)) ∧ W.cell? ⟨w.heap.size + 1, 1, none⟩ = some (.int .u8 (z1 : Int)) ∧ W.cell? ⟨w.heap.size + 1, 2, none⟩ = some (.int .u8 (z2 : Int)) from by
    refine ⟨cell_below hW ?_, cell_below hW ?_, cell_below hW ?_, cell_below hW ?_, cell_below hW ?_⟩ <;> (rw [← hw0]; simp [go_sem]))
  have B0 := hid hb0
  have G0 := hid (glob2_below hb0 g)
  have HX := hid (And.intro bx0 bx1)
  have HZ := hid (And.intro h0 (And.intro h1 h2))
  have Hw := hid hw0
  clear hb0 g bx0 bx1 h0 h1 h2 hw0
  go_enter Tryd.func3, Tryd.ntmps3
  go_wp2_with fail
  rw [Hw.out]
  clear Hw
  refine (examples_any _ G0.out.1).mono ?_
  rintro e w1 ⟨rfl, hb⟩
  have B1 := hid hb; clear hb
  obtain ⟨c0, c1, -, -, -⟩ := PK.out _ B1.out
  go_wp2_with fail
  clear c0 c1
  refine (made_any x0 x1 HX.out.1 HX.out.2 _).mono ?_
  rintro e w2 ⟨N, D, hF, rfl, hb⟩
  have B2 := hid (below_step B1.out hb); clear hb
  have HF := hid hF
  have hI : I64 N ∧ I64 D := ⟨⟨by have := hF.lo; omega, by have := hF.hi; omega⟩, ⟨by have := hF.pos; omega, by have := hF.le; omega⟩⟩
  have HI := hid hI
  clear hF hI
  go_wp2_with fail
  obtain ⟨W2, hW2⟩ : ∃ W2, w2.alloc (.cells #[.int .i64 N, .int .i64 D] 26) = W2 := ⟨_, rfl⟩
  have n0 : W2.cell? ⟨w2.heap.size, 0, none⟩ = some (.int .i64 N) := by rw [← hW2]; simp [go_sem]
  have n1 : W2.cell? ⟨w2.heap.size, 1, none⟩ = some (.int .i64 D) := by rw [← hW2]; simp [go_sem]
  have B2' := hid (show Below w0.heap.size w0 W2 by rw [← hW2]; exact below_a B2.out _)
  rw [hW2]
  clear hW2
  refine (text_any N D HI.out.1 HI.out.2 _ (glob2_below B2'.out G0.out).1).mono ?_
  rintro e w3 ⟨rfl, hb⟩
  obtain ⟨t, ht⟩ : ∃ t : ByteArray, (⟨(textL N D).toArray⟩ : ByteArray) = t := ⟨_, rfl⟩
  have PT := hid (psR_text N D HF.out t ht)
  have htl := hid (show t.size ≤ 40 by rw [← ht]; have := text_len N D HF.out; simpa [ByteArray.size] using this)
  rw [ht]
  have m0 := cell_below hb n0
  have m1 := cell_below hb n1
  have B3 := hid (below_step B2'.out hb)
  clear hb n0 n1 ht
  go_upto_region 6 with fail
  have hsd := (Below.refl w3.heap.size w3).drew
  have CP := hid (fun (W : World) (h : Below w3.heap.size w3 W) => PT.out ▸ parsed_any t W (glob2_below h (glob2_below B3.out G0.out)))
  refine wp_region_held_drew (S := fun W' => (W'.cell? ⟨w2.heap.size, 0, none⟩ = some (.int .i64 N) ∧ W'.cell? ⟨w2.heap.size, 1, none⟩ = some (.int .i64 D) ∧ Below w3.heap.size w3 W')) (by kernel_rfl) ?_ (fun hHeld => ?_)
  · exact ⟨m0, m1, hsd⟩
  refine wpAnyH_take (i := 0) (oi := ({ dst := some 24, op := Op.move (Operand.tmp 9), type := 9, pos := "law.go:233", after := #[], guard := none } : Oper)) (v := ?_) rfl (by kernel_rfl) (by kernel_rfl) (by kernel_rfl) (fun _ _ _ h => h) (Or.inl ⟨by rfl, ?_⟩) (by assumption) ?_
  rotate_left
  · intro w hSw; (try dsimp only at hSw); go_simp <;> with_reducible rfl
  (try simp only [Act.put, List.setIfInBounds_toArray, List.set_cons_zero, List.set_cons_succ])
  refine wpAnyH_take (i := 2) (oi := ({ dst := some 26, op := Op.fieldAddr 26 (Operand.tmp 8) 0, type := 0, pos := "law.go:233", after := #[], guard := none } : Oper)) (v := ?_) rfl (by kernel_rfl) (by kernel_rfl) (by kernel_rfl) (fun _ _ _ h => h) (Or.inl ⟨by rfl, ?_⟩) (by assumption) ?_
  rotate_left
  · intro w hSw; (try dsimp only at hSw); go_simp <;> with_reducible rfl
  (try simp only [Act.put, List.setIfInBounds_toArray, List.set_cons_zero, List.set_cons_succ])
  refine wpAnyH_take (i := 3) (oi := ({ dst := some 27, op := Op.load 3 (Operand.tmp 26), type := 3, pos := "law.go:233", after := #[{ on := 2, ground := Ground.data }], guard := none } : Oper)) (v := ?_) rfl (by kernel_rfl) (by kernel_rfl) (by kernel_rfl) (fun _ _ _ h => h) (Or.inl ⟨by rfl, ?_⟩) (by assumption) ?_
  rotate_left
  · intro w hSw; (try dsimp only at hSw); go_simp <;> with_reducible rfl
  (try simp only [Act.put, List.setIfInBounds_toArray, List.set_cons_zero, List.set_cons_succ])
  refine wpAnyH_take (i := 4) (oi := ({ dst := some 28, op := Op.fieldAddr 26 (Operand.tmp 8) 1, type := 0, pos := "law.go:233", after := #[], guard := none } : Oper)) (v := ?_) rfl (by kernel_rfl) (by kernel_rfl) (by kernel_rfl) (fun _ _ _ h => h) (Or.inl ⟨by rfl, ?_⟩) (by assumption) ?_
  rotate_left
  · intro w hSw; (try dsimp only at hSw); go_simp <;> with_reducible rfl
  (try simp only [Act.put, List.setIfInBounds_toArray, List.set_cons_zero, List.set_cons_succ])
  refine wpAnyH_take (i := 5) (oi := ({ dst := some 29, op := Op.load 3 (Operand.tmp 28), type := 3, pos := "law.go:233", after := #[{ on := 4, ground := Ground.data }], guard := none } : Oper)) (v := ?_) rfl (by kernel_rfl) (by kernel_rfl) (by kernel_rfl) (fun _ _ _ h => h) (Or.inl ⟨by rfl, ?_⟩) (by assumption) ?_
  rotate_left
  · intro w hSw; (try dsimp only at hSw); go_simp <;> with_reducible rfl
  (try simp only [Act.put, List.setIfInBounds_toArray, List.set_cons_zero, List.set_cons_succ])
  refine wpAnyH_ready (rs := [1]) (by kernel_rfl) (by simp) ?_
  refine AllReadyH.cons (o := ({ dst := some 25, op := Op.call { callee := Callee.value (Operand.func 7), args := #[Operand.tmp 24], argTypes := #[9] }, type := 31, pos := "law.go:233", after := #[{ on := 0, ground := Ground.data }], guard := none } : Oper)) rfl (fun K hK => ?_) ?_
  rotate_left
  · exact AllReadyH.nil
  go_simp
  go_at_call 7
  with_reducible refine (CP.out _ hsd).mono ?_
  rintro e y0 ⟨rfl, hq0⟩
  have hB0 := below_step hsd hq0
  clear hHeld
  first | (with_reducible refine hK.out _ _ ?_ (fun hHeld => ?_)) | (go_wp2_with fail; with_reducible refine hK.out _ _ ?_ (fun hHeld => ?_))
  · exact ⟨cell_below hB0 m0, cell_below hB0 m1, hB0⟩
  clear hK K
  (try simp only [Act.put, List.setIfInBounds_toArray, List.set_cons_zero, List.set_cons_succ])
  refine wpAnyH_ready (rs := [6]) (by kernel_rfl) (by simp) ?_
  refine AllReadyH.cons (o := ({ dst := some 30, op := Op.call { callee := Callee.value (Operand.func 8), args := #[Operand.tmp 27, Operand.tmp 29], argTypes := #[3, 3] }, type := 31, pos := "law.go:233", after := #[{ on := 3, ground := Ground.data }, { on := 5, ground := Ground.data }, { on := 1, ground := Ground.chain }], guard := none } : Oper)) rfl (fun K hK => ?_) ?_
  rotate_left
  · exact AllReadyH.nil
  go_simp
  go_at_call 8
  with_reducible refine (is_any N D _).mono ?_
  rintro e y1 ⟨rfl, hq1⟩
  have hB1 := below_step hB0 hq1
  clear hHeld
  first | (with_reducible refine hK.out _ _ ?_ (fun hHeld => ?_)) | (go_wp2_with fail; with_reducible refine hK.out _ _ ?_ (fun hHeld => ?_))
  · exact ⟨cell_below hB1 m0, cell_below hB1 m1, hB1⟩
  clear hK K
  (try simp only [Act.put, List.setIfInBounds_toArray, List.set_cons_zero, List.set_cons_succ])
  refine wpAnyH_take (i := 7) (oi := ({ dst := some 31, op := Op.binOp BinOp.neq 31 (Operand.tmp 25) (Operand.tmp 30) 31, type := 4, pos := "law.go:233", after := #[{ on := 1, ground := Ground.data }, { on := 6, ground := Ground.data }], guard := none } : Oper)) (v := ?_) rfl (by kernel_rfl) (by kernel_rfl) (by kernel_rfl) (fun _ _ _ h => h) (Or.inl ⟨by rfl, ?_⟩) (by assumption) ?_
  rotate_left
  · intro w hSw; (try dsimp only at hSw); go_simp <;> with_reducible rfl
  (try simp only [Act.put, List.setIfInBounds_toArray, List.set_cons_zero, List.set_cons_succ])
  refine wpAnyH_done (by kernel_rfl) ?_ _
  have B4 := hid (below_step B3.out hB1)
  clear m0 m1 hHeld
  obtain ⟨-, -, p0, p1, p2⟩ := PK.out _ B4.out
  go_wp2_with fail
  refine (edited_any t (by have := htl.out; omega) z0 z1 z2 HZ.out.1 HZ.out.2.1 HZ.out.2.2 _).mono ?_
  rintro e w5 ⟨⟨o1, rfl, ho1⟩, hb⟩
  have B5 := hid (below_step B4.out hb)
  have HO1 := hid (show o1.size ≤ 41 by have := htl.out; omega)
  clear hb p0 p1 p2 ho1
  obtain ⟨-, -, p0, p1, p2⟩ := PK.out _ B5.out
  go_wp2_with fail
  refine (edited_any o1 (by have := HO1.out; omega) z1 z2 z0 HZ.out.2.1 HZ.out.2.2 HZ.out.1 _).mono ?_
  rintro e w6 ⟨⟨o2, rfl, ho2⟩, hb⟩
  have B6 := hid (below_step B5.out hb)
  have HO2 := hid (show o2.size ≤ 42 by have := HO1.out; omega)
  clear hb p0 p1 p2 ho2
  by_cases hs : s.size ≤ 100
  · have hs1 : decide ((s.size : Int) ≤ 100) = true := by simp; omega
    have hszs : ∀ k (h : k < ([o1, o2, s] : List ByteArray).length), (([o1, o2, s] : List ByteArray)[k]).size ≤ 1000 := by
      intro k h
      have := HO1.out
      have := HO2.out
      match k, h with
      | 0, _ => simp only [List.getElem_cons_zero]; omega
      | 1, _ => simp only [List.getElem_cons_succ, List.getElem_cons_zero]; omega
      | 2, _ => simp only [List.getElem_cons_succ, List.getElem_cons_zero]; omega
    clear hs
    go_wp2_with fail
    go_loopw [12] (fun vi wr => ∃ k : Nat, k ≤ 3 ∧ vi = .int .i64 (k : Int) ∧ Hid (StrsIn wr (w6.heap.size + 1 + 1) [o1, o2, s]) ∧ Hid (Below w0.heap.size w0 wr)) (fun vi _ => 3 - (intOf vi).toNat)
    case atStart => exact ⟨0, by omega, rfl, hid (strs_three (by simp [go_sem]; rw [Array.getElem?_append_left (by simp)]; rfl) (by simp [go_sem]; rw [Array.getElem?_append_left (by simp)]; rfl) (by simp [go_sem]; rw [Array.getElem?_append_left (by simp)]; rfl)), hid (below_a (below_a (below_a B6.out _) _) _).drew⟩
    case round =>
      obtain ⟨k, hk, rfl, HS, HB⟩ := hrel
      by_cases hkn : k = 3
      · subst hkn
        go_wp2_with fail
        go_ret
        exact ⟨rfl, below_step B0.out HB.out⟩
      have k1 : (k : Int) < 3 := by omega
      have k2 : (0 : Int) ≤ (k : Int) := by omega
      have hkl : k < 3 := by omega
      have hs0 := HS.out k hkl
      have hszT : (([o1, o2, s] : List ByteArray)[k]'hkl).size ≤ 1000 := hszs k hkl
      obtain ⟨T, hT⟩ : ∃ T, ([o1, o2, s] : List ByteArray)[k]'hkl = T := ⟨_, rfl⟩
      rw [hT] at hs0 hszT
      clear hT hkn
      go_wp2_with fail
      refine (parsed_any T _ (glob2_below HB.out G0.out)).mono ?_
      rintro e w7 ⟨rfl, hb⟩
      have hs7 := cell_below hb hs0
      have HS7 := hid (StrsIn.below HS.out hb)
      have B7 := hid (below_step HB.out hb)
      have CR := hid (fun (W : World) => rparse_any T hszT W)
      clear hb hs0
      rcases psR_cases T with ⟨n, d, hF, hTT, hE⟩ | hE
      · rw [hE]
        have CT := hid (fun (W : World) (h : Below w0.heap.size w0 W) => (text_any n d ⟨by have := hF.lo; omega, by have := hF.hi; omega⟩ ⟨by have := hF.pos; omega, by have := hF.le; omega⟩ W (glob2_below h G0.out).1))
        rw [hTT] at CT
        rw [hE] at CR
        clear hF hTT hE
        go_upto_region 16 with fail
        obtain ⟨W8, hW8⟩ : ∃ W8, w7.alloc (.cells #[.int .i64 n, .int .i64 d, .int .i64 0] 31) = W8 := ⟨_, rfl⟩
        have r0 : W8.cell? ⟨w7.heap.size, 0, none⟩ = some (.int .i64 n) := by rw [← hW8]; simp [go_sem]
        have r1 : W8.cell? ⟨w7.heap.size, 1, none⟩ = some (.int .i64 d) := by rw [← hW8]; simp [go_sem]
        have r2 : W8.cell? ⟨w7.heap.size, 2, none⟩ = some (.int .i64 0) := by rw [← hW8]; simp [go_sem]
        have hb8 : Below w7.heap.size w7 W8 := by rw [← hW8]; exact below_a (Below.refl _ _) _
        have r3 := cell_below hb8 hs7
        have HS8 := hid (StrsIn.below HS7.out hb8)
        have B8 := hid (below_step B7.out hb8)
        rw [hW8]
        clear hW8 hb8 hs7
        have hsd := (Below.refl W8.heap.size W8).drew
        refine wp_region_held_drew (S := fun W' => (W'.cell? ⟨w7.heap.size, 0, none⟩ = some (.int .i64 n) ∧ W'.cell? ⟨w7.heap.size, 1, none⟩ = some (.int .i64 d) ∧ W'.cell? ⟨w7.heap.size, 2, none⟩ = some (.int .i64 0) ∧ W'.cell? ⟨w6.heap.size + 1 + 1, k, none⟩ = some (.string T) ∧ Below W8.heap.size W8 W')) (by kernel_rfl) ?_ (fun hHeld => ?_)
        · exact ⟨r0, r1, r2, r3, hsd⟩
        refine wpAnyH_take (i := 0) (oi := ({ dst := some 64, op := Op.load 31 (Operand.tmp 13), type := 31, pos := "law.go:243", after := #[], guard := none } : Oper)) (v := ?_) rfl (by kernel_rfl) (by kernel_rfl) (by kernel_rfl) (fun _ _ _ h => h) (Or.inl ⟨by rfl, ?_⟩) (by assumption) ?_
        rotate_left
        · intro w hSw; (try dsimp only at hSw); go_simp <;> with_reducible rfl
        (try simp only [Act.put, List.setIfInBounds_toArray, List.set_cons_zero, List.set_cons_succ])
        refine wpAnyH_take (i := 1) (oi := ({ dst := some 65, op := Op.move (Operand.tmp 11), type := 35, pos := "law.go:243", after := #[], guard := none } : Oper)) (v := ?_) rfl (by kernel_rfl) (by kernel_rfl) (by kernel_rfl) (fun _ _ _ h => h) (Or.inl ⟨by rfl, ?_⟩) (by assumption) ?_
        rotate_left
        · intro w hSw; (try dsimp only at hSw); go_simp <;> with_reducible rfl
        (try simp only [Act.put, List.setIfInBounds_toArray, List.set_cons_zero, List.set_cons_succ])
        refine wpAnyH_take (i := 2) (oi := ({ dst := some 66, op := Op.move (Operand.tmp 12), type := 3, pos := "law.go:243", after := #[], guard := none } : Oper)) (v := ?_) rfl (by kernel_rfl) (by kernel_rfl) (by kernel_rfl) (fun _ _ _ h => h) (Or.inl ⟨by rfl, ?_⟩) (by assumption) ?_
        rotate_left
        · intro w hSw; (try dsimp only at hSw); go_simp <;> with_reducible rfl
        (try simp only [Act.put, List.setIfInBounds_toArray, List.set_cons_zero, List.set_cons_succ])
        refine wpAnyH_take (i := 3) (oi := ({ dst := some 67, op := Op.indexAddr 35 (Operand.tmp 65) (Operand.tmp 66), type := 0, pos := "law.go:243", after := #[{ on := 1, ground := Ground.data }, { on := 2, ground := Ground.data }], guard := none } : Oper)) (v := ?_) rfl (by kernel_rfl) (by kernel_rfl) (by kernel_rfl) (fun _ _ _ h => h) (Or.inl ⟨by rfl, ?_⟩) (by assumption) ?_
        rotate_left
        · intro w hSw; (try dsimp only at hSw); go_simp <;> with_reducible rfl
        (try simp only [Act.put, List.setIfInBounds_toArray, List.set_cons_zero, List.set_cons_succ])
        refine wpAnyH_take (i := 4) (oi := ({ dst := some 68, op := Op.load 9 (Operand.tmp 67), type := 9, pos := "law.go:243", after := #[{ on := 3, ground := Ground.data }], guard := none } : Oper)) (v := ?_) rfl (by kernel_rfl) (by kernel_rfl) (by kernel_rfl) (fun _ _ _ h => h) (Or.inl ⟨by rfl, ?_⟩) (by assumption) ?_
        rotate_left
        · intro w hSw; (try dsimp only at hSw); go_simp <;> with_reducible rfl
        (try simp only [Act.put, List.setIfInBounds_toArray, List.set_cons_zero, List.set_cons_succ])
        refine wpAnyH_ready (rs := [5]) (by kernel_rfl) (by simp) ?_
        refine AllReadyH.cons (o := ({ dst := some 69, op := Op.call { callee := Callee.value (Operand.func 10), args := #[Operand.tmp 68], argTypes := #[9] }, type := 31, pos := "law.go:243", after := #[{ on := 4, ground := Ground.data }], guard := none } : Oper)) rfl (fun K hK => ?_) ?_
        rotate_left
        · exact AllReadyH.nil
        go_simp
        go_at_call 10
        with_reducible refine (CR.out _).mono ?_
        rintro e y0 ⟨rfl, hq0⟩
        have hB0 := below_step hsd hq0
        clear hHeld
        first | (with_reducible refine hK.out _ _ ?_ (fun hHeld => ?_)) | (go_wp2_with fail; with_reducible refine hK.out _ _ ?_ (fun hHeld => ?_))
        · exact ⟨cell_below hB0 r0, cell_below hB0 r1, cell_below hB0 r2, cell_below hB0 r3, hB0⟩
        clear hK K
        (try simp only [Act.put, List.setIfInBounds_toArray, List.set_cons_zero, List.set_cons_succ])
        refine wpAnyH_take (i := 6) (oi := ({ dst := some 70, op := Op.binOp BinOp.neq 31 (Operand.tmp 64) (Operand.tmp 69) 31, type := 4, pos := "law.go:243", after := #[{ on := 0, ground := Ground.data }, { on := 5, ground := Ground.data }], guard := none } : Oper)) (v := ?_) rfl (by kernel_rfl) (by kernel_rfl) (by kernel_rfl) (fun _ _ _ h => h) (Or.inl ⟨by rfl, ?_⟩) (by assumption) ?_
        rotate_left
        · intro w hSw; (try dsimp only at hSw); go_simp <;> with_reducible rfl
        (try simp only [Act.put, List.setIfInBounds_toArray, List.set_cons_zero, List.set_cons_succ])
        refine wpAnyH_take (i := 7) (oi := ({ dst := some 71, op := Op.move (Operand.tmp 70), type := 4, pos := "law.go:243", after := #[{ on := 6, ground := Ground.data }, { on := 5, ground := Ground.chain }], guard := none } : Oper)) (v := ?_) rfl (by kernel_rfl) (by kernel_rfl) (by kernel_rfl) (fun _ _ _ h => h) (Or.inl ⟨by rfl, ?_⟩) (by assumption) ?_
        rotate_left
        · intro w hSw; (try dsimp only at hSw); go_simp <;> with_reducible rfl
        (try simp only [Act.put, List.setIfInBounds_toArray, List.set_cons_zero, List.set_cons_succ])
        refine wpAnyH_take (i := 8) (oi := ({ dst := some 72, op := Op.fieldAddr 31 (Operand.tmp 13) 1, type := 0, pos := "law.go:243", after := #[{ on := 7, ground := Ground.guard }], guard := some (7, false) } : Oper)) (v := ?_) rfl (by kernel_rfl) (by kernel_rfl) (by kernel_rfl) (fun _ _ _ h => h) (Or.inl ⟨by rfl, ?_⟩) (by assumption) ?_
        rotate_left
        · intro w hSw; (try dsimp only at hSw); go_simp <;> with_reducible rfl
        (try simp only [Act.put, List.setIfInBounds_toArray, List.set_cons_zero, List.set_cons_succ])
        refine wpAnyH_take (i := 9) (oi := ({ dst := some 73, op := Op.load 29 (Operand.tmp 72), type := 29, pos := "law.go:243", after := #[{ on := 8, ground := Ground.data }, { on := 7, ground := Ground.guard }], guard := some (7, false) } : Oper)) (v := ?_) rfl (by kernel_rfl) (by kernel_rfl) (by kernel_rfl) (fun _ _ _ h => h) (Or.inl ⟨by rfl, ?_⟩) (by assumption) ?_
        rotate_left
        · intro w hSw; (try dsimp only at hSw); go_simp <;> with_reducible rfl
        (try simp only [Act.put, List.setIfInBounds_toArray, List.set_cons_zero, List.set_cons_succ])
        refine wpAnyH_take (i := 10) (oi := ({ dst := some 74, op := Op.binOp BinOp.eql 29 (Operand.tmp 73) (Operand.const (Value.int IntKind.i64 0)) 29, type := 4, pos := "law.go:243", after := #[{ on := 9, ground := Ground.data }, { on := 7, ground := Ground.guard }], guard := some (7, false) } : Oper)) (v := ?_) rfl (by kernel_rfl) (by kernel_rfl) (by kernel_rfl) (fun _ _ _ h => h) (Or.inl ⟨by rfl, ?_⟩) (by assumption) ?_
        rotate_left
        · intro w hSw; (try dsimp only at hSw); go_simp <;> with_reducible rfl
        (try simp only [Act.put, List.setIfInBounds_toArray, List.set_cons_zero, List.set_cons_succ])
        refine wpAnyH_take (i := 11) (oi := ({ dst := some 75, op := Op.move (Operand.tmp 74), type := 4, pos := "law.go:243", after := #[{ on := 10, ground := Ground.data }, { on := 7, ground := Ground.chain }, { on := 7, ground := Ground.guard }], guard := some (7, false) } : Oper)) (v := ?_) rfl (by kernel_rfl) (by kernel_rfl) (by kernel_rfl) (fun _ _ _ h => h) (Or.inl ⟨by rfl, ?_⟩) (by assumption) ?_
        rotate_left
        · intro w hSw; (try dsimp only at hSw); go_simp <;> with_reducible rfl
        (try simp only [Act.put, List.setIfInBounds_toArray, List.set_cons_zero, List.set_cons_succ])
        refine wpAnyH_take (i := 12) (oi := ({ dst := some 76, op := Op.fieldAddr 31 (Operand.tmp 13) 0, type := 0, pos := "law.go:243", after := #[{ on := 11, ground := Ground.guard }], guard := some (11, true) } : Oper)) (v := ?_) rfl (by kernel_rfl) (by kernel_rfl) (by kernel_rfl) (fun _ _ _ h => h) (Or.inl ⟨by rfl, ?_⟩) (by assumption) ?_
        rotate_left
        · intro w hSw; (try dsimp only at hSw); go_simp <;> with_reducible rfl
        (try simp only [Act.put, List.setIfInBounds_toArray, List.set_cons_zero, List.set_cons_succ])
        refine wpAnyH_take (i := 13) (oi := ({ dst := some 77, op := Op.load 26 (Operand.tmp 76), type := 26, pos := "law.go:243", after := #[{ on := 12, ground := Ground.data }, { on := 11, ground := Ground.guard }], guard := some (11, true) } : Oper)) (v := ?_) rfl (by kernel_rfl) (by kernel_rfl) (by kernel_rfl) (fun _ _ _ h => h) (Or.inl ⟨by rfl, ?_⟩) (by assumption) ?_
        rotate_left
        · intro w hSw; (try dsimp only at hSw); go_simp <;> with_reducible rfl
        (try simp only [Act.put, List.setIfInBounds_toArray, List.set_cons_zero, List.set_cons_succ])
        refine wpAnyH_take (i := 15) (oi := ({ dst := some 79, op := Op.move (Operand.tmp 11), type := 35, pos := "law.go:243", after := #[{ on := 11, ground := Ground.guard }], guard := some (11, true) } : Oper)) (v := ?_) rfl (by kernel_rfl) (by kernel_rfl) (by kernel_rfl) (fun _ _ _ h => h) (Or.inl ⟨by rfl, ?_⟩) (by assumption) ?_
        rotate_left
        · intro w hSw; (try dsimp only at hSw); go_simp <;> with_reducible rfl
        (try simp only [Act.put, List.setIfInBounds_toArray, List.set_cons_zero, List.set_cons_succ])
        refine wpAnyH_take (i := 16) (oi := ({ dst := some 80, op := Op.move (Operand.tmp 12), type := 3, pos := "law.go:243", after := #[{ on := 11, ground := Ground.guard }], guard := some (11, true) } : Oper)) (v := ?_) rfl (by kernel_rfl) (by kernel_rfl) (by kernel_rfl) (fun _ _ _ h => h) (Or.inl ⟨by rfl, ?_⟩) (by assumption) ?_
        rotate_left
        · intro w hSw; (try dsimp only at hSw); go_simp <;> with_reducible rfl
        (try simp only [Act.put, List.setIfInBounds_toArray, List.set_cons_zero, List.set_cons_succ])
        refine wpAnyH_take (i := 17) (oi := ({ dst := some 81, op := Op.indexAddr 35 (Operand.tmp 79) (Operand.tmp 80), type := 0, pos := "law.go:243", after := #[{ on := 15, ground := Ground.data }, { on := 16, ground := Ground.data }, { on := 11, ground := Ground.guard }], guard := some (11, true) } : Oper)) (v := ?_) rfl (by kernel_rfl) (by kernel_rfl) (by kernel_rfl) (fun _ _ _ h => h) (Or.inl ⟨by rfl, ?_⟩) (by assumption) ?_
        rotate_left
        · intro w hSw; (try dsimp only at hSw); go_simp <;> with_reducible rfl
        (try simp only [Act.put, List.setIfInBounds_toArray, List.set_cons_zero, List.set_cons_succ])
        refine wpAnyH_take (i := 18) (oi := ({ dst := some 82, op := Op.load 9 (Operand.tmp 81), type := 9, pos := "law.go:243", after := #[{ on := 17, ground := Ground.data }, { on := 11, ground := Ground.guard }], guard := some (11, true) } : Oper)) (v := ?_) rfl (by kernel_rfl) (by kernel_rfl) (by kernel_rfl) (fun _ _ _ h => h) (Or.inl ⟨by rfl, ?_⟩) (by assumption) ?_
        rotate_left
        · intro w hSw; (try dsimp only at hSw); go_simp <;> with_reducible rfl
        (try simp only [Act.put, List.setIfInBounds_toArray, List.set_cons_zero, List.set_cons_succ])
        refine wpAnyH_ready (rs := [14]) (by kernel_rfl) (by simp) ?_
        refine AllReadyH.cons (o := ({ dst := some 78, op := Op.call { callee := Callee.value (Operand.func 6), args := #[Operand.tmp 77], argTypes := #[26] }, type := 9, pos := "law.go:243", after := #[{ on := 13, ground := Ground.data }, { on := 11, ground := Ground.chain }, { on := 11, ground := Ground.guard }], guard := some (11, true) } : Oper)) rfl (fun K hK => ?_) ?_
        rotate_left
        · exact AllReadyH.nil
        go_simp
        go_at_call 6
        with_reducible refine (CT.out _ (below_step B8.out hB0)).mono ?_
        rintro e y1 ⟨rfl, hq1⟩
        have hB1 := below_step hB0 hq1
        clear hHeld
        first | (with_reducible refine hK.out _ _ ?_ (fun hHeld => ?_)) | (go_wp2_with fail; with_reducible refine hK.out _ _ ?_ (fun hHeld => ?_))
        · exact ⟨cell_below hB1 r0, cell_below hB1 r1, cell_below hB1 r2, cell_below hB1 r3, hB1⟩
        clear hK K
        (try simp only [Act.put, List.setIfInBounds_toArray, List.set_cons_zero, List.set_cons_succ])
        refine wpAnyH_take (i := 19) (oi := ({ dst := some 83, op := Op.binOp BinOp.neq 9 (Operand.tmp 78) (Operand.tmp 82) 9, type := 4, pos := "law.go:243", after := #[{ on := 14, ground := Ground.data }, { on := 18, ground := Ground.data }, { on := 11, ground := Ground.guard }], guard := some (11, true) } : Oper)) (v := ?_) rfl (by kernel_rfl) (by kernel_rfl) (by kernel_rfl) (fun _ _ _ h => h) (Or.inl ⟨by rfl, ?_⟩) (by assumption) ?_
        rotate_left
        · intro w hSw; (try dsimp only at hSw); go_simp <;> with_reducible rfl
        (try simp only [Act.put, List.setIfInBounds_toArray, List.set_cons_zero, List.set_cons_succ])
        refine wpAnyH_take (i := 20) (oi := ({ dst := some 84, op := Op.pick (Operand.tmp 75) (Operand.tmp 83) (Operand.const (Value.bool false)), type := 4, pos := "law.go:243", after := #[{ on := 11, ground := Ground.data }, { on := 19, ground := Ground.data }, { on := 7, ground := Ground.guard }], guard := some (7, false) } : Oper)) (v := ?_) rfl (by kernel_rfl) (by kernel_rfl) (by kernel_rfl) (fun _ _ _ h => h) (Or.inl ⟨by rfl, ?_⟩) (by assumption) ?_
        rotate_left
        · intro w hSw; (try dsimp only at hSw); go_simp <;> with_reducible rfl
        (try simp only [Act.put, List.setIfInBounds_toArray, List.set_cons_zero, List.set_cons_succ])
        refine wpAnyH_take (i := 21) (oi := ({ dst := some 85, op := Op.pick (Operand.tmp 71) (Operand.const (Value.bool true)) (Operand.tmp 84), type := 4, pos := "law.go:243", after := #[{ on := 7, ground := Ground.data }, { on := 20, ground := Ground.data }], guard := none } : Oper)) (v := ?_) rfl (by kernel_rfl) (by kernel_rfl) (by kernel_rfl) (fun _ _ _ h => h) (Or.inl ⟨by rfl, ?_⟩) (by assumption) ?_
        rotate_left
        · intro w hSw; (try dsimp only at hSw); go_simp <;> with_reducible rfl
        (try simp only [Act.put, List.setIfInBounds_toArray, List.set_cons_zero, List.set_cons_succ])
        refine wpAnyH_done (by kernel_rfl) ?_ _
        have HE := hid (below_step B8.out hB1)
        have HSE := hid (StrsIn.below HS8.out hB1)
        clear r0 r1 r2 r3 hHeld
        go_wp2_with fail
        go_roundw
        case rel => exact ⟨k + 1, by omega, by go_num, HSE, HE⟩
        case measure => simp [intOf]; omega
      · rw [hE]
        rw [hE] at CR
        clear hE
        go_upto_region 16 with fail
        obtain ⟨W8, hW8⟩ : ∃ W8, w7.alloc (.cells #[.int .i64 0, .int .i64 0, .int .i64 3] 31) = W8 := ⟨_, rfl⟩
        have r0 : W8.cell? ⟨w7.heap.size, 0, none⟩ = some (.int .i64 0) := by rw [← hW8]; simp [go_sem]
        have r1 : W8.cell? ⟨w7.heap.size, 1, none⟩ = some (.int .i64 0) := by rw [← hW8]; simp [go_sem]
        have r2 : W8.cell? ⟨w7.heap.size, 2, none⟩ = some (.int .i64 3) := by rw [← hW8]; simp [go_sem]
        have hb8 : Below w7.heap.size w7 W8 := by rw [← hW8]; exact below_a (Below.refl _ _) _
        have r3 := cell_below hb8 hs7
        have HS8 := hid (StrsIn.below HS7.out hb8)
        have B8 := hid (below_step B7.out hb8)
        rw [hW8]
        clear hW8 hb8 hs7
        have hsd := (Below.refl W8.heap.size W8).drew
        refine wp_region_held_drew (S := fun W' => (W'.cell? ⟨w7.heap.size, 0, none⟩ = some (.int .i64 0) ∧ W'.cell? ⟨w7.heap.size, 1, none⟩ = some (.int .i64 0) ∧ W'.cell? ⟨w7.heap.size, 2, none⟩ = some (.int .i64 3) ∧ W'.cell? ⟨w6.heap.size + 1 + 1, k, none⟩ = some (.string T) ∧ Below W8.heap.size W8 W')) (by kernel_rfl) ?_ (fun hHeld => ?_)
        · exact ⟨r0, r1, r2, r3, hsd⟩
        refine wpAnyH_take (i := 0) (oi := ({ dst := some 64, op := Op.load 31 (Operand.tmp 13), type := 31, pos := "law.go:243", after := #[], guard := none } : Oper)) (v := ?_) rfl (by kernel_rfl) (by kernel_rfl) (by kernel_rfl) (fun _ _ _ h => h) (Or.inl ⟨by rfl, ?_⟩) (by assumption) ?_
        rotate_left
        · intro w hSw; (try dsimp only at hSw); go_simp <;> with_reducible rfl
        (try simp only [Act.put, List.setIfInBounds_toArray, List.set_cons_zero, List.set_cons_succ])
        refine wpAnyH_take (i := 1) (oi := ({ dst := some 65, op := Op.move (Operand.tmp 11), type := 35, pos := "law.go:243", after := #[], guard := none } : Oper)) (v := ?_) rfl (by kernel_rfl) (by kernel_rfl) (by kernel_rfl) (fun _ _ _ h => h) (Or.inl ⟨by rfl, ?_⟩) (by assumption) ?_
        rotate_left
        · intro w hSw; (try dsimp only at hSw); go_simp <;> with_reducible rfl
        (try simp only [Act.put, List.setIfInBounds_toArray, List.set_cons_zero, List.set_cons_succ])
        refine wpAnyH_take (i := 2) (oi := ({ dst := some 66, op := Op.move (Operand.tmp 12), type := 3, pos := "law.go:243", after := #[], guard := none } : Oper)) (v := ?_) rfl (by kernel_rfl) (by kernel_rfl) (by kernel_rfl) (fun _ _ _ h => h) (Or.inl ⟨by rfl, ?_⟩) (by assumption) ?_
        rotate_left
        · intro w hSw; (try dsimp only at hSw); go_simp <;> with_reducible rfl
        (try simp only [Act.put, List.setIfInBounds_toArray, List.set_cons_zero, List.set_cons_succ])
        refine wpAnyH_take (i := 3) (oi := ({ dst := some 67, op := Op.indexAddr 35 (Operand.tmp 65) (Operand.tmp 66), type := 0, pos := "law.go:243", after := #[{ on := 1, ground := Ground.data }, { on := 2, ground := Ground.data }], guard := none } : Oper)) (v := ?_) rfl (by kernel_rfl) (by kernel_rfl) (by kernel_rfl) (fun _ _ _ h => h) (Or.inl ⟨by rfl, ?_⟩) (by assumption) ?_
        rotate_left
        · intro w hSw; (try dsimp only at hSw); go_simp <;> with_reducible rfl
        (try simp only [Act.put, List.setIfInBounds_toArray, List.set_cons_zero, List.set_cons_succ])
        refine wpAnyH_take (i := 4) (oi := ({ dst := some 68, op := Op.load 9 (Operand.tmp 67), type := 9, pos := "law.go:243", after := #[{ on := 3, ground := Ground.data }], guard := none } : Oper)) (v := ?_) rfl (by kernel_rfl) (by kernel_rfl) (by kernel_rfl) (fun _ _ _ h => h) (Or.inl ⟨by rfl, ?_⟩) (by assumption) ?_
        rotate_left
        · intro w hSw; (try dsimp only at hSw); go_simp <;> with_reducible rfl
        (try simp only [Act.put, List.setIfInBounds_toArray, List.set_cons_zero, List.set_cons_succ])
        refine wpAnyH_ready (rs := [5]) (by kernel_rfl) (by simp) ?_
        refine AllReadyH.cons (o := ({ dst := some 69, op := Op.call { callee := Callee.value (Operand.func 10), args := #[Operand.tmp 68], argTypes := #[9] }, type := 31, pos := "law.go:243", after := #[{ on := 4, ground := Ground.data }], guard := none } : Oper)) rfl (fun K hK => ?_) ?_
        rotate_left
        · exact AllReadyH.nil
        go_simp
        go_at_call 10
        with_reducible refine (CR.out _).mono ?_
        rintro e y0 ⟨rfl, hq0⟩
        have hB0 := below_step hsd hq0
        clear hHeld
        first | (with_reducible refine hK.out _ _ ?_ (fun hHeld => ?_)) | (go_wp2_with fail; with_reducible refine hK.out _ _ ?_ (fun hHeld => ?_))
        · exact ⟨cell_below hB0 r0, cell_below hB0 r1, cell_below hB0 r2, cell_below hB0 r3, hB0⟩
        clear hK K
        (try simp only [Act.put, List.setIfInBounds_toArray, List.set_cons_zero, List.set_cons_succ])
        refine wpAnyH_take (i := 6) (oi := ({ dst := some 70, op := Op.binOp BinOp.neq 31 (Operand.tmp 64) (Operand.tmp 69) 31, type := 4, pos := "law.go:243", after := #[{ on := 0, ground := Ground.data }, { on := 5, ground := Ground.data }], guard := none } : Oper)) (v := ?_) rfl (by kernel_rfl) (by kernel_rfl) (by kernel_rfl) (fun _ _ _ h => h) (Or.inl ⟨by rfl, ?_⟩) (by assumption) ?_
        rotate_left
        · intro w hSw; (try dsimp only at hSw); go_simp <;> with_reducible rfl
        (try simp only [Act.put, List.setIfInBounds_toArray, List.set_cons_zero, List.set_cons_succ])
        refine wpAnyH_take (i := 7) (oi := ({ dst := some 71, op := Op.move (Operand.tmp 70), type := 4, pos := "law.go:243", after := #[{ on := 6, ground := Ground.data }, { on := 5, ground := Ground.chain }], guard := none } : Oper)) (v := ?_) rfl (by kernel_rfl) (by kernel_rfl) (by kernel_rfl) (fun _ _ _ h => h) (Or.inl ⟨by rfl, ?_⟩) (by assumption) ?_
        rotate_left
        · intro w hSw; (try dsimp only at hSw); go_simp <;> with_reducible rfl
        (try simp only [Act.put, List.setIfInBounds_toArray, List.set_cons_zero, List.set_cons_succ])
        refine wpAnyH_take (i := 8) (oi := ({ dst := some 72, op := Op.fieldAddr 31 (Operand.tmp 13) 1, type := 0, pos := "law.go:243", after := #[{ on := 7, ground := Ground.guard }], guard := some (7, false) } : Oper)) (v := ?_) rfl (by kernel_rfl) (by kernel_rfl) (by kernel_rfl) (fun _ _ _ h => h) (Or.inl ⟨by rfl, ?_⟩) (by assumption) ?_
        rotate_left
        · intro w hSw; (try dsimp only at hSw); go_simp <;> with_reducible rfl
        (try simp only [Act.put, List.setIfInBounds_toArray, List.set_cons_zero, List.set_cons_succ])
        refine wpAnyH_take (i := 9) (oi := ({ dst := some 73, op := Op.load 29 (Operand.tmp 72), type := 29, pos := "law.go:243", after := #[{ on := 8, ground := Ground.data }, { on := 7, ground := Ground.guard }], guard := some (7, false) } : Oper)) (v := ?_) rfl (by kernel_rfl) (by kernel_rfl) (by kernel_rfl) (fun _ _ _ h => h) (Or.inl ⟨by rfl, ?_⟩) (by assumption) ?_
        rotate_left
        · intro w hSw; (try dsimp only at hSw); go_simp <;> with_reducible rfl
        (try simp only [Act.put, List.setIfInBounds_toArray, List.set_cons_zero, List.set_cons_succ])
        refine wpAnyH_take (i := 10) (oi := ({ dst := some 74, op := Op.binOp BinOp.eql 29 (Operand.tmp 73) (Operand.const (Value.int IntKind.i64 0)) 29, type := 4, pos := "law.go:243", after := #[{ on := 9, ground := Ground.data }, { on := 7, ground := Ground.guard }], guard := some (7, false) } : Oper)) (v := ?_) rfl (by kernel_rfl) (by kernel_rfl) (by kernel_rfl) (fun _ _ _ h => h) (Or.inl ⟨by rfl, ?_⟩) (by assumption) ?_
        rotate_left
        · intro w hSw; (try dsimp only at hSw); go_simp <;> with_reducible rfl
        (try simp only [Act.put, List.setIfInBounds_toArray, List.set_cons_zero, List.set_cons_succ])
        refine wpAnyH_take (i := 11) (oi := ({ dst := some 75, op := Op.move (Operand.tmp 74), type := 4, pos := "law.go:243", after := #[{ on := 10, ground := Ground.data }, { on := 7, ground := Ground.chain }, { on := 7, ground := Ground.guard }], guard := some (7, false) } : Oper)) (v := ?_) rfl (by kernel_rfl) (by kernel_rfl) (by kernel_rfl) (fun _ _ _ h => h) (Or.inl ⟨by rfl, ?_⟩) (by assumption) ?_
        rotate_left
        · intro w hSw; (try dsimp only at hSw); go_simp <;> with_reducible rfl
        (try simp only [Act.put, List.setIfInBounds_toArray, List.set_cons_zero, List.set_cons_succ])
        refine wpAnyH_take (i := 12) (oi := ({ dst := some 76, op := Op.fieldAddr 31 (Operand.tmp 13) 0, type := 0, pos := "law.go:243", after := #[{ on := 11, ground := Ground.guard }], guard := some (11, true) } : Oper)) (v := undef) rfl (by kernel_rfl) (by kernel_rfl) (by kernel_rfl) (fun _ _ _ h => h) (Or.inr ⟨by rfl, rfl⟩) (by assumption) ?_
        (try simp only [Act.put, List.setIfInBounds_toArray, List.set_cons_zero, List.set_cons_succ])
        refine wpAnyH_take (i := 13) (oi := ({ dst := some 77, op := Op.load 26 (Operand.tmp 76), type := 26, pos := "law.go:243", after := #[{ on := 12, ground := Ground.data }, { on := 11, ground := Ground.guard }], guard := some (11, true) } : Oper)) (v := undef) rfl (by kernel_rfl) (by kernel_rfl) (by kernel_rfl) (fun _ _ _ h => h) (Or.inr ⟨by rfl, rfl⟩) (by assumption) ?_
        (try simp only [Act.put, List.setIfInBounds_toArray, List.set_cons_zero, List.set_cons_succ])
        refine wpAnyH_take (i := 14) (oi := ({ dst := some 78, op := Op.call { callee := Callee.value (Operand.func 6), args := #[Operand.tmp 77], argTypes := #[26] }, type := 9, pos := "law.go:243", after := #[{ on := 13, ground := Ground.data }, { on := 11, ground := Ground.chain }, { on := 11, ground := Ground.guard }], guard := some (11, true) } : Oper)) (v := undef) rfl (by kernel_rfl) (by kernel_rfl) (by kernel_rfl) (fun _ _ _ h => h) (Or.inr ⟨by rfl, rfl⟩) (by assumption) ?_
        (try simp only [Act.put, List.setIfInBounds_toArray, List.set_cons_zero, List.set_cons_succ])
        refine wpAnyH_take (i := 15) (oi := ({ dst := some 79, op := Op.move (Operand.tmp 11), type := 35, pos := "law.go:243", after := #[{ on := 11, ground := Ground.guard }], guard := some (11, true) } : Oper)) (v := undef) rfl (by kernel_rfl) (by kernel_rfl) (by kernel_rfl) (fun _ _ _ h => h) (Or.inr ⟨by rfl, rfl⟩) (by assumption) ?_
        (try simp only [Act.put, List.setIfInBounds_toArray, List.set_cons_zero, List.set_cons_succ])
        refine wpAnyH_take (i := 16) (oi := ({ dst := some 80, op := Op.move (Operand.tmp 12), type := 3, pos := "law.go:243", after := #[{ on := 11, ground := Ground.guard }], guard := some (11, true) } : Oper)) (v := undef) rfl (by kernel_rfl) (by kernel_rfl) (by kernel_rfl) (fun _ _ _ h => h) (Or.inr ⟨by rfl, rfl⟩) (by assumption) ?_
        (try simp only [Act.put, List.setIfInBounds_toArray, List.set_cons_zero, List.set_cons_succ])
        refine wpAnyH_take (i := 17) (oi := ({ dst := some 81, op := Op.indexAddr 35 (Operand.tmp 79) (Operand.tmp 80), type := 0, pos := "law.go:243", after := #[{ on := 15, ground := Ground.data }, { on := 16, ground := Ground.data }, { on := 11, ground := Ground.guard }], guard := some (11, true) } : Oper)) (v := undef) rfl (by kernel_rfl) (by kernel_rfl) (by kernel_rfl) (fun _ _ _ h => h) (Or.inr ⟨by rfl, rfl⟩) (by assumption) ?_
        (try simp only [Act.put, List.setIfInBounds_toArray, List.set_cons_zero, List.set_cons_succ])
        refine wpAnyH_take (i := 18) (oi := ({ dst := some 82, op := Op.load 9 (Operand.tmp 81), type := 9, pos := "law.go:243", after := #[{ on := 17, ground := Ground.data }, { on := 11, ground := Ground.guard }], guard := some (11, true) } : Oper)) (v := undef) rfl (by kernel_rfl) (by kernel_rfl) (by kernel_rfl) (fun _ _ _ h => h) (Or.inr ⟨by rfl, rfl⟩) (by assumption) ?_
        (try simp only [Act.put, List.setIfInBounds_toArray, List.set_cons_zero, List.set_cons_succ])
        refine wpAnyH_take (i := 19) (oi := ({ dst := some 83, op := Op.binOp BinOp.neq 9 (Operand.tmp 78) (Operand.tmp 82) 9, type := 4, pos := "law.go:243", after := #[{ on := 14, ground := Ground.data }, { on := 18, ground := Ground.data }, { on := 11, ground := Ground.guard }], guard := some (11, true) } : Oper)) (v := undef) rfl (by kernel_rfl) (by kernel_rfl) (by kernel_rfl) (fun _ _ _ h => h) (Or.inr ⟨by rfl, rfl⟩) (by assumption) ?_
        (try simp only [Act.put, List.setIfInBounds_toArray, List.set_cons_zero, List.set_cons_succ])
        refine wpAnyH_take (i := 20) (oi := ({ dst := some 84, op := Op.pick (Operand.tmp 75) (Operand.tmp 83) (Operand.const (Value.bool false)), type := 4, pos := "law.go:243", after := #[{ on := 11, ground := Ground.data }, { on := 19, ground := Ground.data }, { on := 7, ground := Ground.guard }], guard := some (7, false) } : Oper)) (v := ?_) rfl (by kernel_rfl) (by kernel_rfl) (by kernel_rfl) (fun _ _ _ h => h) (Or.inl ⟨by rfl, ?_⟩) (by assumption) ?_
        rotate_left
        · intro w hSw; (try dsimp only at hSw); go_simp <;> with_reducible rfl
        (try simp only [Act.put, List.setIfInBounds_toArray, List.set_cons_zero, List.set_cons_succ])
        refine wpAnyH_take (i := 21) (oi := ({ dst := some 85, op := Op.pick (Operand.tmp 71) (Operand.const (Value.bool true)) (Operand.tmp 84), type := 4, pos := "law.go:243", after := #[{ on := 7, ground := Ground.data }, { on := 20, ground := Ground.data }], guard := none } : Oper)) (v := ?_) rfl (by kernel_rfl) (by kernel_rfl) (by kernel_rfl) (fun _ _ _ h => h) (Or.inl ⟨by rfl, ?_⟩) (by assumption) ?_
        rotate_left
        · intro w hSw; (try dsimp only at hSw); go_simp <;> with_reducible rfl
        (try simp only [Act.put, List.setIfInBounds_toArray, List.set_cons_zero, List.set_cons_succ])
        refine wpAnyH_done (by kernel_rfl) ?_ _
        have HE := hid (below_step B8.out hB0)
        have HSE := hid (StrsIn.below HS8.out hB0)
        clear r0 r1 r2 r3 hHeld
        go_wp2_with fail
        go_roundw
        case rel => exact ⟨k + 1, by omega, by go_num, HSE, HE⟩
        case measure => simp [intOf]; omega
  · have hs1 : decide ((s.size : Int) ≤ 100) = false := by simp; omega
    have hszs : ∀ k (h : k < ([o1, o2] : List ByteArray).length), (([o1, o2] : List ByteArray)[k]).size ≤ 1000 := by
      intro k h
      have := HO1.out
      have := HO2.out
      match k, h with
      | 0, _ => simp only [List.getElem_cons_zero]; omega
      | 1, _ => simp only [List.getElem_cons_succ, List.getElem_cons_zero]; omega
    clear hs
    go_wp2_with fail
    go_loopw [12] (fun vi wr => ∃ k : Nat, k ≤ 2 ∧ vi = .int .i64 (k : Int) ∧ Hid (StrsIn wr (w6.heap.size) [o1, o2]) ∧ Hid (Below w0.heap.size w0 wr)) (fun vi _ => 2 - (intOf vi).toNat)
    case atStart => exact ⟨0, by omega, rfl, hid (strs_two (by simp [go_sem]) (by simp [go_sem])), hid (below_a B6.out _)⟩
    case round =>
      obtain ⟨k, hk, rfl, HS, HB⟩ := hrel
      by_cases hkn : k = 2
      · subst hkn
        go_wp2_with fail
        go_ret
        exact ⟨rfl, below_step B0.out HB.out⟩
      have k1 : (k : Int) < 2 := by omega
      have k2 : (0 : Int) ≤ (k : Int) := by omega
      have hkl : k < 2 := by omega
      have hs0 := HS.out k hkl
      have hszT : (([o1, o2] : List ByteArray)[k]'hkl).size ≤ 1000 := hszs k hkl
      obtain ⟨T, hT⟩ : ∃ T, ([o1, o2] : List ByteArray)[k]'hkl = T := ⟨_, rfl⟩
      rw [hT] at hs0 hszT
      clear hT hkn
      go_wp2_with fail
      refine (parsed_any T _ (glob2_below HB.out G0.out)).mono ?_
      rintro e w7 ⟨rfl, hb⟩
      have hs7 := cell_below hb hs0
      have HS7 := hid (StrsIn.below HS.out hb)
      have B7 := hid (below_step HB.out hb)
      have CR := hid (fun (W : World) => rparse_any T hszT W)
      clear hb hs0
      rcases psR_cases T with ⟨n, d, hF, hTT, hE⟩ | hE
      · rw [hE]
        have CT := hid (fun (W : World) (h : Below w0.heap.size w0 W) => (text_any n d ⟨by have := hF.lo; omega, by have := hF.hi; omega⟩ ⟨by have := hF.pos; omega, by have := hF.le; omega⟩ W (glob2_below h G0.out).1))
        rw [hTT] at CT
        rw [hE] at CR
        clear hF hTT hE
        go_upto_region 16 with fail
        obtain ⟨W8, hW8⟩ : ∃ W8, w7.alloc (.cells #[.int .i64 n, .int .i64 d, .int .i64 0] 31) = W8 := ⟨_, rfl⟩
        have r0 : W8.cell? ⟨w7.heap.size, 0, none⟩ = some (.int .i64 n) := by rw [← hW8]; simp [go_sem]
        have r1 : W8.cell? ⟨w7.heap.size, 1, none⟩ = some (.int .i64 d) := by rw [← hW8]; simp [go_sem]
        have r2 : W8.cell? ⟨w7.heap.size, 2, none⟩ = some (.int .i64 0) := by rw [← hW8]; simp [go_sem]
        have hb8 : Below w7.heap.size w7 W8 := by rw [← hW8]; exact below_a (Below.refl _ _) _
        have r3 := cell_below hb8 hs7
        have HS8 := hid (StrsIn.below HS7.out hb8)
        have B8 := hid (below_step B7.out hb8)
        rw [hW8]
        clear hW8 hb8 hs7
        have hsd := (Below.refl W8.heap.size W8).drew
        refine wp_region_held_drew (S := fun W' => (W'.cell? ⟨w7.heap.size, 0, none⟩ = some (.int .i64 n) ∧ W'.cell? ⟨w7.heap.size, 1, none⟩ = some (.int .i64 d) ∧ W'.cell? ⟨w7.heap.size, 2, none⟩ = some (.int .i64 0) ∧ W'.cell? ⟨w6.heap.size, k, none⟩ = some (.string T) ∧ Below W8.heap.size W8 W')) (by kernel_rfl) ?_ (fun hHeld => ?_)
        · exact ⟨r0, r1, r2, r3, hsd⟩
        refine wpAnyH_take (i := 0) (oi := ({ dst := some 64, op := Op.load 31 (Operand.tmp 13), type := 31, pos := "law.go:243", after := #[], guard := none } : Oper)) (v := ?_) rfl (by kernel_rfl) (by kernel_rfl) (by kernel_rfl) (fun _ _ _ h => h) (Or.inl ⟨by rfl, ?_⟩) (by assumption) ?_
        rotate_left
        · intro w hSw; (try dsimp only at hSw); go_simp <;> with_reducible rfl
        (try simp only [Act.put, List.setIfInBounds_toArray, List.set_cons_zero, List.set_cons_succ])
        refine wpAnyH_take (i := 1) (oi := ({ dst := some 65, op := Op.move (Operand.tmp 11), type := 35, pos := "law.go:243", after := #[], guard := none } : Oper)) (v := ?_) rfl (by kernel_rfl) (by kernel_rfl) (by kernel_rfl) (fun _ _ _ h => h) (Or.inl ⟨by rfl, ?_⟩) (by assumption) ?_
        rotate_left
        · intro w hSw; (try dsimp only at hSw); go_simp <;> with_reducible rfl
        (try simp only [Act.put, List.setIfInBounds_toArray, List.set_cons_zero, List.set_cons_succ])
        refine wpAnyH_take (i := 2) (oi := ({ dst := some 66, op := Op.move (Operand.tmp 12), type := 3, pos := "law.go:243", after := #[], guard := none } : Oper)) (v := ?_) rfl (by kernel_rfl) (by kernel_rfl) (by kernel_rfl) (fun _ _ _ h => h) (Or.inl ⟨by rfl, ?_⟩) (by assumption) ?_
        rotate_left
        · intro w hSw; (try dsimp only at hSw); go_simp <;> with_reducible rfl
        (try simp only [Act.put, List.setIfInBounds_toArray, List.set_cons_zero, List.set_cons_succ])
        refine wpAnyH_take (i := 3) (oi := ({ dst := some 67, op := Op.indexAddr 35 (Operand.tmp 65) (Operand.tmp 66), type := 0, pos := "law.go:243", after := #[{ on := 1, ground := Ground.data }, { on := 2, ground := Ground.data }], guard := none } : Oper)) (v := ?_) rfl (by kernel_rfl) (by kernel_rfl) (by kernel_rfl) (fun _ _ _ h => h) (Or.inl ⟨by rfl, ?_⟩) (by assumption) ?_
        rotate_left
        · intro w hSw; (try dsimp only at hSw); go_simp <;> with_reducible rfl
        (try simp only [Act.put, List.setIfInBounds_toArray, List.set_cons_zero, List.set_cons_succ])
        refine wpAnyH_take (i := 4) (oi := ({ dst := some 68, op := Op.load 9 (Operand.tmp 67), type := 9, pos := "law.go:243", after := #[{ on := 3, ground := Ground.data }], guard := none } : Oper)) (v := ?_) rfl (by kernel_rfl) (by kernel_rfl) (by kernel_rfl) (fun _ _ _ h => h) (Or.inl ⟨by rfl, ?_⟩) (by assumption) ?_
        rotate_left
        · intro w hSw; (try dsimp only at hSw); go_simp <;> with_reducible rfl
        (try simp only [Act.put, List.setIfInBounds_toArray, List.set_cons_zero, List.set_cons_succ])
        refine wpAnyH_ready (rs := [5]) (by kernel_rfl) (by simp) ?_
        refine AllReadyH.cons (o := ({ dst := some 69, op := Op.call { callee := Callee.value (Operand.func 10), args := #[Operand.tmp 68], argTypes := #[9] }, type := 31, pos := "law.go:243", after := #[{ on := 4, ground := Ground.data }], guard := none } : Oper)) rfl (fun K hK => ?_) ?_
        rotate_left
        · exact AllReadyH.nil
        go_simp
        go_at_call 10
        with_reducible refine (CR.out _).mono ?_
        rintro e y0 ⟨rfl, hq0⟩
        have hB0 := below_step hsd hq0
        clear hHeld
        first | (with_reducible refine hK.out _ _ ?_ (fun hHeld => ?_)) | (go_wp2_with fail; with_reducible refine hK.out _ _ ?_ (fun hHeld => ?_))
        · exact ⟨cell_below hB0 r0, cell_below hB0 r1, cell_below hB0 r2, cell_below hB0 r3, hB0⟩
        clear hK K
        (try simp only [Act.put, List.setIfInBounds_toArray, List.set_cons_zero, List.set_cons_succ])
        refine wpAnyH_take (i := 6) (oi := ({ dst := some 70, op := Op.binOp BinOp.neq 31 (Operand.tmp 64) (Operand.tmp 69) 31, type := 4, pos := "law.go:243", after := #[{ on := 0, ground := Ground.data }, { on := 5, ground := Ground.data }], guard := none } : Oper)) (v := ?_) rfl (by kernel_rfl) (by kernel_rfl) (by kernel_rfl) (fun _ _ _ h => h) (Or.inl ⟨by rfl, ?_⟩) (by assumption) ?_
        rotate_left
        · intro w hSw; (try dsimp only at hSw); go_simp <;> with_reducible rfl
        (try simp only [Act.put, List.setIfInBounds_toArray, List.set_cons_zero, List.set_cons_succ])
        refine wpAnyH_take (i := 7) (oi := ({ dst := some 71, op := Op.move (Operand.tmp 70), type := 4, pos := "law.go:243", after := #[{ on := 6, ground := Ground.data }, { on := 5, ground := Ground.chain }], guard := none } : Oper)) (v := ?_) rfl (by kernel_rfl) (by kernel_rfl) (by kernel_rfl) (fun _ _ _ h => h) (Or.inl ⟨by rfl, ?_⟩) (by assumption) ?_
        rotate_left
        · intro w hSw; (try dsimp only at hSw); go_simp <;> with_reducible rfl
        (try simp only [Act.put, List.setIfInBounds_toArray, List.set_cons_zero, List.set_cons_succ])
        refine wpAnyH_take (i := 8) (oi := ({ dst := some 72, op := Op.fieldAddr 31 (Operand.tmp 13) 1, type := 0, pos := "law.go:243", after := #[{ on := 7, ground := Ground.guard }], guard := some (7, false) } : Oper)) (v := ?_) rfl (by kernel_rfl) (by kernel_rfl) (by kernel_rfl) (fun _ _ _ h => h) (Or.inl ⟨by rfl, ?_⟩) (by assumption) ?_
        rotate_left
        · intro w hSw; (try dsimp only at hSw); go_simp <;> with_reducible rfl
        (try simp only [Act.put, List.setIfInBounds_toArray, List.set_cons_zero, List.set_cons_succ])
        refine wpAnyH_take (i := 9) (oi := ({ dst := some 73, op := Op.load 29 (Operand.tmp 72), type := 29, pos := "law.go:243", after := #[{ on := 8, ground := Ground.data }, { on := 7, ground := Ground.guard }], guard := some (7, false) } : Oper)) (v := ?_) rfl (by kernel_rfl) (by kernel_rfl) (by kernel_rfl) (fun _ _ _ h => h) (Or.inl ⟨by rfl, ?_⟩) (by assumption) ?_
        rotate_left
        · intro w hSw; (try dsimp only at hSw); go_simp <;> with_reducible rfl
        (try simp only [Act.put, List.setIfInBounds_toArray, List.set_cons_zero, List.set_cons_succ])
        refine wpAnyH_take (i := 10) (oi := ({ dst := some 74, op := Op.binOp BinOp.eql 29 (Operand.tmp 73) (Operand.const (Value.int IntKind.i64 0)) 29, type := 4, pos := "law.go:243", after := #[{ on := 9, ground := Ground.data }, { on := 7, ground := Ground.guard }], guard := some (7, false) } : Oper)) (v := ?_) rfl (by kernel_rfl) (by kernel_rfl) (by kernel_rfl) (fun _ _ _ h => h) (Or.inl ⟨by rfl, ?_⟩) (by assumption) ?_
        rotate_left
        · intro w hSw; (try dsimp only at hSw); go_simp <;> with_reducible rfl
        (try simp only [Act.put, List.setIfInBounds_toArray, List.set_cons_zero, List.set_cons_succ])
        refine wpAnyH_take (i := 11) (oi := ({ dst := some 75, op := Op.move (Operand.tmp 74), type := 4, pos := "law.go:243", after := #[{ on := 10, ground := Ground.data }, { on := 7, ground := Ground.chain }, { on := 7, ground := Ground.guard }], guard := some (7, false) } : Oper)) (v := ?_) rfl (by kernel_rfl) (by kernel_rfl) (by kernel_rfl) (fun _ _ _ h => h) (Or.inl ⟨by rfl, ?_⟩) (by assumption) ?_
        rotate_left
        · intro w hSw; (try dsimp only at hSw); go_simp <;> with_reducible rfl
        (try simp only [Act.put, List.setIfInBounds_toArray, List.set_cons_zero, List.set_cons_succ])
        refine wpAnyH_take (i := 12) (oi := ({ dst := some 76, op := Op.fieldAddr 31 (Operand.tmp 13) 0, type := 0, pos := "law.go:243", after := #[{ on := 11, ground := Ground.guard }], guard := some (11, true) } : Oper)) (v := ?_) rfl (by kernel_rfl) (by kernel_rfl) (by kernel_rfl) (fun _ _ _ h => h) (Or.inl ⟨by rfl, ?_⟩) (by assumption) ?_
        rotate_left
        · intro w hSw; (try dsimp only at hSw); go_simp <;> with_reducible rfl
        (try simp only [Act.put, List.setIfInBounds_toArray, List.set_cons_zero, List.set_cons_succ])
        refine wpAnyH_take (i := 13) (oi := ({ dst := some 77, op := Op.load 26 (Operand.tmp 76), type := 26, pos := "law.go:243", after := #[{ on := 12, ground := Ground.data }, { on := 11, ground := Ground.guard }], guard := some (11, true) } : Oper)) (v := ?_) rfl (by kernel_rfl) (by kernel_rfl) (by kernel_rfl) (fun _ _ _ h => h) (Or.inl ⟨by rfl, ?_⟩) (by assumption) ?_
        rotate_left
        · intro w hSw; (try dsimp only at hSw); go_simp <;> with_reducible rfl
        (try simp only [Act.put, List.setIfInBounds_toArray, List.set_cons_zero, List.set_cons_succ])
        refine wpAnyH_take (i := 15) (oi := ({ dst := some 79, op := Op.move (Operand.tmp 11), type := 35, pos := "law.go:243", after := #[{ on := 11, ground := Ground.guard }], guard := some (11, true) } : Oper)) (v := ?_) rfl (by kernel_rfl) (by kernel_rfl) (by kernel_rfl) (fun _ _ _ h => h) (Or.inl ⟨by rfl, ?_⟩) (by assumption) ?_
        rotate_left
        · intro w hSw; (try dsimp only at hSw); go_simp <;> with_reducible rfl
        (try simp only [Act.put, List.setIfInBounds_toArray, List.set_cons_zero, List.set_cons_succ])
        refine wpAnyH_take (i := 16) (oi := ({ dst := some 80, op := Op.move (Operand.tmp 12), type := 3, pos := "law.go:243", after := #[{ on := 11, ground := Ground.guard }], guard := some (11, true) } : Oper)) (v := ?_) rfl (by kernel_rfl) (by kernel_rfl) (by kernel_rfl) (fun _ _ _ h => h) (Or.inl ⟨by rfl, ?_⟩) (by assumption) ?_
        rotate_left
        · intro w hSw; (try dsimp only at hSw); go_simp <;> with_reducible rfl
        (try simp only [Act.put, List.setIfInBounds_toArray, List.set_cons_zero, List.set_cons_succ])
        refine wpAnyH_take (i := 17) (oi := ({ dst := some 81, op := Op.indexAddr 35 (Operand.tmp 79) (Operand.tmp 80), type := 0, pos := "law.go:243", after := #[{ on := 15, ground := Ground.data }, { on := 16, ground := Ground.data }, { on := 11, ground := Ground.guard }], guard := some (11, true) } : Oper)) (v := ?_) rfl (by kernel_rfl) (by kernel_rfl) (by kernel_rfl) (fun _ _ _ h => h) (Or.inl ⟨by rfl, ?_⟩) (by assumption) ?_
        rotate_left
        · intro w hSw; (try dsimp only at hSw); go_simp <;> with_reducible rfl
        (try simp only [Act.put, List.setIfInBounds_toArray, List.set_cons_zero, List.set_cons_succ])
        refine wpAnyH_take (i := 18) (oi := ({ dst := some 82, op := Op.load 9 (Operand.tmp 81), type := 9, pos := "law.go:243", after := #[{ on := 17, ground := Ground.data }, { on := 11, ground := Ground.guard }], guard := some (11, true) } : Oper)) (v := ?_) rfl (by kernel_rfl) (by kernel_rfl) (by kernel_rfl) (fun _ _ _ h => h) (Or.inl ⟨by rfl, ?_⟩) (by assumption) ?_
        rotate_left
        · intro w hSw; (try dsimp only at hSw); go_simp <;> with_reducible rfl
        (try simp only [Act.put, List.setIfInBounds_toArray, List.set_cons_zero, List.set_cons_succ])
        refine wpAnyH_ready (rs := [14]) (by kernel_rfl) (by simp) ?_
        refine AllReadyH.cons (o := ({ dst := some 78, op := Op.call { callee := Callee.value (Operand.func 6), args := #[Operand.tmp 77], argTypes := #[26] }, type := 9, pos := "law.go:243", after := #[{ on := 13, ground := Ground.data }, { on := 11, ground := Ground.chain }, { on := 11, ground := Ground.guard }], guard := some (11, true) } : Oper)) rfl (fun K hK => ?_) ?_
        rotate_left
        · exact AllReadyH.nil
        go_simp
        go_at_call 6
        with_reducible refine (CT.out _ (below_step B8.out hB0)).mono ?_
        rintro e y1 ⟨rfl, hq1⟩
        have hB1 := below_step hB0 hq1
        clear hHeld
        first | (with_reducible refine hK.out _ _ ?_ (fun hHeld => ?_)) | (go_wp2_with fail; with_reducible refine hK.out _ _ ?_ (fun hHeld => ?_))
        · exact ⟨cell_below hB1 r0, cell_below hB1 r1, cell_below hB1 r2, cell_below hB1 r3, hB1⟩
        clear hK K
        (try simp only [Act.put, List.setIfInBounds_toArray, List.set_cons_zero, List.set_cons_succ])
        refine wpAnyH_take (i := 19) (oi := ({ dst := some 83, op := Op.binOp BinOp.neq 9 (Operand.tmp 78) (Operand.tmp 82) 9, type := 4, pos := "law.go:243", after := #[{ on := 14, ground := Ground.data }, { on := 18, ground := Ground.data }, { on := 11, ground := Ground.guard }], guard := some (11, true) } : Oper)) (v := ?_) rfl (by kernel_rfl) (by kernel_rfl) (by kernel_rfl) (fun _ _ _ h => h) (Or.inl ⟨by rfl, ?_⟩) (by assumption) ?_
        rotate_left
        · intro w hSw; (try dsimp only at hSw); go_simp <;> with_reducible rfl
        (try simp only [Act.put, List.setIfInBounds_toArray, List.set_cons_zero, List.set_cons_succ])
        refine wpAnyH_take (i := 20) (oi := ({ dst := some 84, op := Op.pick (Operand.tmp 75) (Operand.tmp 83) (Operand.const (Value.bool false)), type := 4, pos := "law.go:243", after := #[{ on := 11, ground := Ground.data }, { on := 19, ground := Ground.data }, { on := 7, ground := Ground.guard }], guard := some (7, false) } : Oper)) (v := ?_) rfl (by kernel_rfl) (by kernel_rfl) (by kernel_rfl) (fun _ _ _ h => h) (Or.inl ⟨by rfl, ?_⟩) (by assumption) ?_
        rotate_left
        · intro w hSw; (try dsimp only at hSw); go_simp <;> with_reducible rfl
        (try simp only [Act.put, List.setIfInBounds_toArray, List.set_cons_zero, List.set_cons_succ])
        refine wpAnyH_take (i := 21) (oi := ({ dst := some 85, op := Op.pick (Operand.tmp 71) (Operand.const (Value.bool true)) (Operand.tmp 84), type := 4, pos := "law.go:243", after := #[{ on := 7, ground := Ground.data }, { on := 20, ground := Ground.data }], guard := none } : Oper)) (v := ?_) rfl (by kernel_rfl) (by kernel_rfl) (by kernel_rfl) (fun _ _ _ h => h) (Or.inl ⟨by rfl, ?_⟩) (by assumption) ?_
        rotate_left
        · intro w hSw; (try dsimp only at hSw); go_simp <;> with_reducible rfl
        (try simp only [Act.put, List.setIfInBounds_toArray, List.set_cons_zero, List.set_cons_succ])
        refine wpAnyH_done (by kernel_rfl) ?_ _
        have HE := hid (below_step B8.out hB1)
        have HSE := hid (StrsIn.below HS8.out hB1)
        clear r0 r1 r2 r3 hHeld
        go_wp2_with fail
        go_roundw
        case rel => exact ⟨k + 1, by omega, by go_num, HSE, HE⟩
        case measure => simp [intOf]; omega
      · rw [hE]
        rw [hE] at CR
        clear hE
        go_upto_region 16 with fail
        obtain ⟨W8, hW8⟩ : ∃ W8, w7.alloc (.cells #[.int .i64 0, .int .i64 0, .int .i64 3] 31) = W8 := ⟨_, rfl⟩
        have r0 : W8.cell? ⟨w7.heap.size, 0, none⟩ = some (.int .i64 0) := by rw [← hW8]; simp [go_sem]
        have r1 : W8.cell? ⟨w7.heap.size, 1, none⟩ = some (.int .i64 0) := by rw [← hW8]; simp [go_sem]
        have r2 : W8.cell? ⟨w7.heap.size, 2, none⟩ = some (.int .i64 3) := by rw [← hW8]; simp [go_sem]
        have hb8 : Below w7.heap.size w7 W8 := by rw [← hW8]; exact below_a (Below.refl _ _) _
        have r3 := cell_below hb8 hs7
        have HS8 := hid (StrsIn.below HS7.out hb8)
        have B8 := hid (below_step B7.out hb8)
        rw [hW8]
        clear hW8 hb8 hs7
        have hsd := (Below.refl W8.heap.size W8).drew
        refine wp_region_held_drew (S := fun W' => (W'.cell? ⟨w7.heap.size, 0, none⟩ = some (.int .i64 0) ∧ W'.cell? ⟨w7.heap.size, 1, none⟩ = some (.int .i64 0) ∧ W'.cell? ⟨w7.heap.size, 2, none⟩ = some (.int .i64 3) ∧ W'.cell? ⟨w6.heap.size, k, none⟩ = some (.string T) ∧ Below W8.heap.size W8 W')) (by kernel_rfl) ?_ (fun hHeld => ?_)
        · exact ⟨r0, r1, r2, r3, hsd⟩
        refine wpAnyH_take (i := 0) (oi := ({ dst := some 64, op := Op.load 31 (Operand.tmp 13), type := 31, pos := "law.go:243", after := #[], guard := none } : Oper)) (v := ?_) rfl (by kernel_rfl) (by kernel_rfl) (by kernel_rfl) (fun _ _ _ h => h) (Or.inl ⟨by rfl, ?_⟩) (by assumption) ?_
        rotate_left
        · intro w hSw; (try dsimp only at hSw); go_simp <;> with_reducible rfl
        (try simp only [Act.put, List.setIfInBounds_toArray, List.set_cons_zero, List.set_cons_succ])
        refine wpAnyH_take (i := 1) (oi := ({ dst := some 65, op := Op.move (Operand.tmp 11), type := 35, pos := "law.go:243", after := #[], guard := none } : Oper)) (v := ?_) rfl (by kernel_rfl) (by kernel_rfl) (by kernel_rfl) (fun _ _ _ h => h) (Or.inl ⟨by rfl, ?_⟩) (by assumption) ?_
        rotate_left
        · intro w hSw; (try dsimp only at hSw); go_simp <;> with_reducible rfl
        (try simp only [Act.put, List.setIfInBounds_toArray, List.set_cons_zero, List.set_cons_succ])
        refine wpAnyH_take (i := 2) (oi := ({ dst := some 66, op := Op.move (Operand.tmp 12), type := 3, pos := "law.go:243", after := #[], guard := none } : Oper)) (v := ?_) rfl (by kernel_rfl) (by kernel_rfl) (by kernel_rfl) (fun _ _ _ h => h) (Or.inl ⟨by rfl, ?_⟩) (by assumption) ?_
        rotate_left
        · intro w hSw; (try dsimp only at hSw); go_simp <;> with_reducible rfl
        (try simp only [Act.put, List.setIfInBounds_toArray, List.set_cons_zero, List.set_cons_succ])
        refine wpAnyH_take (i := 3) (oi := ({ dst := some 67, op := Op.indexAddr 35 (Operand.tmp 65) (Operand.tmp 66), type := 0, pos := "law.go:243", after := #[{ on := 1, ground := Ground.data }, { on := 2, ground := Ground.data }], guard := none } : Oper)) (v := ?_) rfl (by kernel_rfl) (by kernel_rfl) (by kernel_rfl) (fun _ _ _ h => h) (Or.inl ⟨by rfl, ?_⟩) (by assumption) ?_
        rotate_left
        · intro w hSw; (try dsimp only at hSw); go_simp <;> with_reducible rfl
        (try simp only [Act.put, List.setIfInBounds_toArray, List.set_cons_zero, List.set_cons_succ])
        refine wpAnyH_take (i := 4) (oi := ({ dst := some 68, op := Op.load 9 (Operand.tmp 67), type := 9, pos := "law.go:243", after := #[{ on := 3, ground := Ground.data }], guard := none } : Oper)) (v := ?_) rfl (by kernel_rfl) (by kernel_rfl) (by kernel_rfl) (fun _ _ _ h => h) (Or.inl ⟨by rfl, ?_⟩) (by assumption) ?_
        rotate_left
        · intro w hSw; (try dsimp only at hSw); go_simp <;> with_reducible rfl
        (try simp only [Act.put, List.setIfInBounds_toArray, List.set_cons_zero, List.set_cons_succ])
        refine wpAnyH_ready (rs := [5]) (by kernel_rfl) (by simp) ?_
        refine AllReadyH.cons (o := ({ dst := some 69, op := Op.call { callee := Callee.value (Operand.func 10), args := #[Operand.tmp 68], argTypes := #[9] }, type := 31, pos := "law.go:243", after := #[{ on := 4, ground := Ground.data }], guard := none } : Oper)) rfl (fun K hK => ?_) ?_
        rotate_left
        · exact AllReadyH.nil
        go_simp
        go_at_call 10
        with_reducible refine (CR.out _).mono ?_
        rintro e y0 ⟨rfl, hq0⟩
        have hB0 := below_step hsd hq0
        clear hHeld
        first | (with_reducible refine hK.out _ _ ?_ (fun hHeld => ?_)) | (go_wp2_with fail; with_reducible refine hK.out _ _ ?_ (fun hHeld => ?_))
        · exact ⟨cell_below hB0 r0, cell_below hB0 r1, cell_below hB0 r2, cell_below hB0 r3, hB0⟩
        clear hK K
        (try simp only [Act.put, List.setIfInBounds_toArray, List.set_cons_zero, List.set_cons_succ])
        refine wpAnyH_take (i := 6) (oi := ({ dst := some 70, op := Op.binOp BinOp.neq 31 (Operand.tmp 64) (Operand.tmp 69) 31, type := 4, pos := "law.go:243", after := #[{ on := 0, ground := Ground.data }, { on := 5, ground := Ground.data }], guard := none } : Oper)) (v := ?_) rfl (by kernel_rfl) (by kernel_rfl) (by kernel_rfl) (fun _ _ _ h => h) (Or.inl ⟨by rfl, ?_⟩) (by assumption) ?_
        rotate_left
        · intro w hSw; (try dsimp only at hSw); go_simp <;> with_reducible rfl
        (try simp only [Act.put, List.setIfInBounds_toArray, List.set_cons_zero, List.set_cons_succ])
        refine wpAnyH_take (i := 7) (oi := ({ dst := some 71, op := Op.move (Operand.tmp 70), type := 4, pos := "law.go:243", after := #[{ on := 6, ground := Ground.data }, { on := 5, ground := Ground.chain }], guard := none } : Oper)) (v := ?_) rfl (by kernel_rfl) (by kernel_rfl) (by kernel_rfl) (fun _ _ _ h => h) (Or.inl ⟨by rfl, ?_⟩) (by assumption) ?_
        rotate_left
        · intro w hSw; (try dsimp only at hSw); go_simp <;> with_reducible rfl
        (try simp only [Act.put, List.setIfInBounds_toArray, List.set_cons_zero, List.set_cons_succ])
        refine wpAnyH_take (i := 8) (oi := ({ dst := some 72, op := Op.fieldAddr 31 (Operand.tmp 13) 1, type := 0, pos := "law.go:243", after := #[{ on := 7, ground := Ground.guard }], guard := some (7, false) } : Oper)) (v := ?_) rfl (by kernel_rfl) (by kernel_rfl) (by kernel_rfl) (fun _ _ _ h => h) (Or.inl ⟨by rfl, ?_⟩) (by assumption) ?_
        rotate_left
        · intro w hSw; (try dsimp only at hSw); go_simp <;> with_reducible rfl
        (try simp only [Act.put, List.setIfInBounds_toArray, List.set_cons_zero, List.set_cons_succ])
        refine wpAnyH_take (i := 9) (oi := ({ dst := some 73, op := Op.load 29 (Operand.tmp 72), type := 29, pos := "law.go:243", after := #[{ on := 8, ground := Ground.data }, { on := 7, ground := Ground.guard }], guard := some (7, false) } : Oper)) (v := ?_) rfl (by kernel_rfl) (by kernel_rfl) (by kernel_rfl) (fun _ _ _ h => h) (Or.inl ⟨by rfl, ?_⟩) (by assumption) ?_
        rotate_left
        · intro w hSw; (try dsimp only at hSw); go_simp <;> with_reducible rfl
        (try simp only [Act.put, List.setIfInBounds_toArray, List.set_cons_zero, List.set_cons_succ])
        refine wpAnyH_take (i := 10) (oi := ({ dst := some 74, op := Op.binOp BinOp.eql 29 (Operand.tmp 73) (Operand.const (Value.int IntKind.i64 0)) 29, type := 4, pos := "law.go:243", after := #[{ on := 9, ground := Ground.data }, { on := 7, ground := Ground.guard }], guard := some (7, false) } : Oper)) (v := ?_) rfl (by kernel_rfl) (by kernel_rfl) (by kernel_rfl) (fun _ _ _ h => h) (Or.inl ⟨by rfl, ?_⟩) (by assumption) ?_
        rotate_left
        · intro w hSw; (try dsimp only at hSw); go_simp <;> with_reducible rfl
        (try simp only [Act.put, List.setIfInBounds_toArray, List.set_cons_zero, List.set_cons_succ])
        refine wpAnyH_take (i := 11) (oi := ({ dst := some 75, op := Op.move (Operand.tmp 74), type := 4, pos := "law.go:243", after := #[{ on := 10, ground := Ground.data }, { on := 7, ground := Ground.chain }, { on := 7, ground := Ground.guard }], guard := some (7, false) } : Oper)) (v := ?_) rfl (by kernel_rfl) (by kernel_rfl) (by kernel_rfl) (fun _ _ _ h => h) (Or.inl ⟨by rfl, ?_⟩) (by assumption) ?_
        rotate_left
        · intro w hSw; (try dsimp only at hSw); go_simp <;> with_reducible rfl
        (try simp only [Act.put, List.setIfInBounds_toArray, List.set_cons_zero, List.set_cons_succ])
        refine wpAnyH_take (i := 12) (oi := ({ dst := some 76, op := Op.fieldAddr 31 (Operand.tmp 13) 0, type := 0, pos := "law.go:243", after := #[{ on := 11, ground := Ground.guard }], guard := some (11, true) } : Oper)) (v := undef) rfl (by kernel_rfl) (by kernel_rfl) (by kernel_rfl) (fun _ _ _ h => h) (Or.inr ⟨by rfl, rfl⟩) (by assumption) ?_
        (try simp only [Act.put, List.setIfInBounds_toArray, List.set_cons_zero, List.set_cons_succ])
        refine wpAnyH_take (i := 13) (oi := ({ dst := some 77, op := Op.load 26 (Operand.tmp 76), type := 26, pos := "law.go:243", after := #[{ on := 12, ground := Ground.data }, { on := 11, ground := Ground.guard }], guard := some (11, true) } : Oper)) (v := undef) rfl (by kernel_rfl) (by kernel_rfl) (by kernel_rfl) (fun _ _ _ h => h) (Or.inr ⟨by rfl, rfl⟩) (by assumption) ?_
        (try simp only [Act.put, List.setIfInBounds_toArray, List.set_cons_zero, List.set_cons_succ])
        refine wpAnyH_take (i := 14) (oi := ({ dst := some 78, op := Op.call { callee := Callee.value (Operand.func 6), args := #[Operand.tmp 77], argTypes := #[26] }, type := 9, pos := "law.go:243", after := #[{ on := 13, ground := Ground.data }, { on := 11, ground := Ground.chain }, { on := 11, ground := Ground.guard }], guard := some (11, true) } : Oper)) (v := undef) rfl (by kernel_rfl) (by kernel_rfl) (by kernel_rfl) (fun _ _ _ h => h) (Or.inr ⟨by rfl, rfl⟩) (by assumption) ?_
        (try simp only [Act.put, List.setIfInBounds_toArray, List.set_cons_zero, List.set_cons_succ])
        refine wpAnyH_take (i := 15) (oi := ({ dst := some 79, op := Op.move (Operand.tmp 11), type := 35, pos := "law.go:243", after := #[{ on := 11, ground := Ground.guard }], guard := some (11, true) } : Oper)) (v := undef) rfl (by kernel_rfl) (by kernel_rfl) (by kernel_rfl) (fun _ _ _ h => h) (Or.inr ⟨by rfl, rfl⟩) (by assumption) ?_
        (try simp only [Act.put, List.setIfInBounds_toArray, List.set_cons_zero, List.set_cons_succ])
        refine wpAnyH_take (i := 16) (oi := ({ dst := some 80, op := Op.move (Operand.tmp 12), type := 3, pos := "law.go:243", after := #[{ on := 11, ground := Ground.guard }], guard := some (11, true) } : Oper)) (v := undef) rfl (by kernel_rfl) (by kernel_rfl) (by kernel_rfl) (fun _ _ _ h => h) (Or.inr ⟨by rfl, rfl⟩) (by assumption) ?_
        (try simp only [Act.put, List.setIfInBounds_toArray, List.set_cons_zero, List.set_cons_succ])
        refine wpAnyH_take (i := 17) (oi := ({ dst := some 81, op := Op.indexAddr 35 (Operand.tmp 79) (Operand.tmp 80), type := 0, pos := "law.go:243", after := #[{ on := 15, ground := Ground.data }, { on := 16, ground := Ground.data }, { on := 11, ground := Ground.guard }], guard := some (11, true) } : Oper)) (v := undef) rfl (by kernel_rfl) (by kernel_rfl) (by kernel_rfl) (fun _ _ _ h => h) (Or.inr ⟨by rfl, rfl⟩) (by assumption) ?_
        (try simp only [Act.put, List.setIfInBounds_toArray, List.set_cons_zero, List.set_cons_succ])
        refine wpAnyH_take (i := 18) (oi := ({ dst := some 82, op := Op.load 9 (Operand.tmp 81), type := 9, pos := "law.go:243", after := #[{ on := 17, ground := Ground.data }, { on := 11, ground := Ground.guard }], guard := some (11, true) } : Oper)) (v := undef) rfl (by kernel_rfl) (by kernel_rfl) (by kernel_rfl) (fun _ _ _ h => h) (Or.inr ⟨by rfl, rfl⟩) (by assumption) ?_
        (try simp only [Act.put, List.setIfInBounds_toArray, List.set_cons_zero, List.set_cons_succ])
        refine wpAnyH_take (i := 19) (oi := ({ dst := some 83, op := Op.binOp BinOp.neq 9 (Operand.tmp 78) (Operand.tmp 82) 9, type := 4, pos := "law.go:243", after := #[{ on := 14, ground := Ground.data }, { on := 18, ground := Ground.data }, { on := 11, ground := Ground.guard }], guard := some (11, true) } : Oper)) (v := undef) rfl (by kernel_rfl) (by kernel_rfl) (by kernel_rfl) (fun _ _ _ h => h) (Or.inr ⟨by rfl, rfl⟩) (by assumption) ?_
        (try simp only [Act.put, List.setIfInBounds_toArray, List.set_cons_zero, List.set_cons_succ])
        refine wpAnyH_take (i := 20) (oi := ({ dst := some 84, op := Op.pick (Operand.tmp 75) (Operand.tmp 83) (Operand.const (Value.bool false)), type := 4, pos := "law.go:243", after := #[{ on := 11, ground := Ground.data }, { on := 19, ground := Ground.data }, { on := 7, ground := Ground.guard }], guard := some (7, false) } : Oper)) (v := ?_) rfl (by kernel_rfl) (by kernel_rfl) (by kernel_rfl) (fun _ _ _ h => h) (Or.inl ⟨by rfl, ?_⟩) (by assumption) ?_
        rotate_left
        · intro w hSw; (try dsimp only at hSw); go_simp <;> with_reducible rfl
        (try simp only [Act.put, List.setIfInBounds_toArray, List.set_cons_zero, List.set_cons_succ])
        refine wpAnyH_take (i := 21) (oi := ({ dst := some 85, op := Op.pick (Operand.tmp 71) (Operand.const (Value.bool true)) (Operand.tmp 84), type := 4, pos := "law.go:243", after := #[{ on := 7, ground := Ground.data }, { on := 20, ground := Ground.data }], guard := none } : Oper)) (v := ?_) rfl (by kernel_rfl) (by kernel_rfl) (by kernel_rfl) (fun _ _ _ h => h) (Or.inl ⟨by rfl, ?_⟩) (by assumption) ?_
        rotate_left
        · intro w hSw; (try dsimp only at hSw); go_simp <;> with_reducible rfl
        (try simp only [Act.put, List.setIfInBounds_toArray, List.set_cons_zero, List.set_cons_succ])
        refine wpAnyH_done (by kernel_rfl) ?_ _
        have HE := hid (below_step B8.out hB0)
        have HSE := hid (StrsIn.below HS8.out hB0)
        clear r0 r1 r2 r3 hHeld
        go_wp2_with fail
        go_roundw
        case rel => exact ⟨k + 1, by omega, by go_num, HSE, HE⟩
        case measure => simp [intOf]; omega

end Go.Proofs.YtffcnkkgbhhfnaaDoor

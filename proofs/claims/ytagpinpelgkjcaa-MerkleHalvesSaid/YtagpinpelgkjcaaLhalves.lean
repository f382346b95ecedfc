/-
  The law MerkleHalves of package merkle holds: the path of a place behind the greatest power of 2 ends with the top of the part ahead of it, whatever follows.
  No condition: every input that the row speaks of.
-/
import Derived.Test.YtagpinpelgkjcaaLchanges
namespace Go.Proofs.Ytagpinpelgkjcaa
open Go.ChangeShapes Go.WideShapes Go.ChangeAt Go.RowKit
set_option linter.unusedVariables false

/-- What is known of a root, with its value named. -/
theorem root_c {W y : World} (v : Value) (l : List (BitVec 64)) (c : BitVec 64) (hc : rootB l = c) (U : Hid (U64At W v l)) (hb : Below W.heap.size W y) :
    Calls Try.prog 10 #[v] y fun e w' => e = .returned (.int .u64 (c.toNat : Int)) ∧ Below y.heap.size y w' := by
  subst hc
  exact root_b v l y (U.out.below hb)
theorem last_at {l : List (BitVec 64)} {t : BitVec 64} (h : l.getLast? = some t) : ∃ k, l.length = k + 1 ∧ l[k]? = some t := by
  rw [List.getLast?_eq_getElem?] at h
  have h1 := (List.getElem?_eq_some_iff.1 h).1
  refine ⟨l.length - 1, by omega, h⟩
theorem U64At.cells {w : World} {p : Option Addr} {n c k : Nat} {l : List (BitVec 64)} {t : BitVec 64} (h : U64At w (.slice p n c) l) (ht : l[k]? = some t) : ∃ b o, p = some ⟨b, o, none⟩ ∧ w.cell? ⟨b, o + k, none⟩ = some (.int .u64 (t.toNat : Int)) := by
  obtain ⟨-, p', c', e, -, -, -, h2⟩ := h
  simp only [Value.slice.injEq] at e
  obtain ⟨rfl, -, rfl⟩ := e
  obtain ⟨hk, rfl⟩ := List.getElem?_eq_some_iff.1 ht
  obtain ⟨b, o, rfl, hc⟩ := h2 (by omega)
  exact ⟨b, o, rfl, hc k hk⟩
theorem other_path (L M : List (BitVec 64)) (N m : Nat) (hL : L.length = N) (hM : M.length = m) (h2 : 2 ≤ N) (hN : N ≤ 200) (m1 : 1 ≤ m) (mk : m ≤ pw N) :
    openP (L.take (pw N) ++ M) (pw N) = pathB (L.take (pw N) ++ M) (pw N) ∧ placeE (L.take (pw N) ++ M).length (pw N) = 0 ∧ (pathB (L.take (pw N) ++ M) (pw N)).getLast? = some (topB (L.take (pw N))) := by
  have hp := pw_bd h2
  have hl : (L.take (pw N) ++ M).length = pw N + m := by rw [List.length_append, List.length_take, hM]; omega
  have he : pw (pw N + m) = pw N := pw_of_two (by omega) (by omega) (pw_pow h2)
  have ho := opens_path (L.take (pw N) ++ M) (pw N + m) (pw N) hl (by omega) (by omega)
  refine ⟨ho.1, ho.2, ?_⟩
  have h := path_high (L.take (pw N) ++ M) (by omega)
  rw [hl, he] at h
  rw [h, List.take_append_of_le_length (by rw [List.length_take]; omega), List.take_take, Nat.min_self]
set_option maxRecDepth 100000 in
set_option maxHeartbeats 4000000 in
theorem halves_big (v : Value) (p : Option Addr) (n m c : Nat) (hm : 100 < m) (W : World) :
    Calls Try.prog 6 #[v, .int .u8 (n : Int), .slice p m c] W fun e w' => e = .returned (.bool true) ∧ Below W.heap.size W w' := by
  have t1 : decide ((100 : Int) < (m : Int)) = true := by simp; omega
  go_enter Try.func6, Try.ntmps6
  go_wp2_with fail
  refine (examples_any _).mono ?_
  rintro e w0 ⟨rfl, hb⟩
  have B0 := hid hb; clear hb
  go_wp2_with fail
  go_ret
  exact ⟨rfl, B0.out⟩
set_option maxRecDepth 100000 in
set_option maxHeartbeats 8000000 in
theorem halves_walk (l M : List (BitVec 64)) (v : Value) (pm : Option Addr) (n m cm : Nat) (hn : n ≤ 255) (W : World) (hv : U64Big W v l) (hmv : U64Big W (.slice pm m cm) M) (hM : M.length = m) (hm : m ≤ 100)  :
    Calls Try.prog 6 #[v, .int .u8 (n : Int), .slice pm m cm] W fun e w' => e = .returned (.bool true) ∧ Below W.heap.size W w' := by
  obtain ⟨i0, hi0, hz0, hz1, hz2⟩ := info_parts infoU64
  have HV := hid hv
  have HMV := hid hmv
  clear hv hmv
  obtain ⟨N, hN⟩ : ∃ N, 2 + n % 199 = N := ⟨_, rfl⟩
  have hN1 : 2 ≤ N := by omega
  have hN2 : N ≤ 200 := by omega
  obtain ⟨L, hL⟩ : ∃ L, growB l N = L := ⟨_, rfl⟩
  have hLl : L.length = N := by rw [← hL]; exact growB_len l N
  obtain ⟨hp1, hp2, hp3⟩ := pw_bd hN1
  have OO := hid (other_path L M N m hLl hM hN1 hN2)
  have hP := path_high L (by omega)
  have hQ := path_low L (by omega)
  rw [hLl] at hP hQ
  obtain ⟨KK, hK⟩ : ∃ KK, pw N = KK := ⟨_, rfl⟩
  rw [hK] at OO hP hQ hp1 hp2 hp3
  have HPW := hid hK
  have OP := opens_path L N KK hLl hp2 (by omega)
  have OQ := opens_path L N 0 hLl (by omega) (by omega)
  have hR1 : rootB (L.take KK) = joinB (BitVec.ofNat 64 KK) (topB (L.take KK)) := by unfold rootB; rw [List.length_take, hLl, Nat.min_eq_left (by omega)]
  have hR2 : rootB (L.drop KK) = joinB (BitVec.ofNat 64 (N - KK)) (topB (L.drop KK)) := by unfold rootB; rw [List.length_drop, hLl]
  obtain ⟨T, hT⟩ : ∃ T, topB (L.take KK) = T := ⟨_, rfl⟩
  obtain ⟨B, hB⟩ : ∃ B, topB (L.drop KK) = B := ⟨_, rfl⟩
  rw [hT] at hP hR1 OO
  rw [hB] at hQ hR2
  obtain ⟨P, hPe⟩ : ∃ P, pathB L KK = P := ⟨_, rfl⟩
  obtain ⟨Q, hQe⟩ : ∃ Q, pathB L 0 = Q := ⟨_, rfl⟩
  rw [hPe] at hP OP
  rw [hQe] at hQ OQ
  obtain ⟨np, hnp, hPl⟩ := last_at hP
  obtain ⟨nq, hnq, hQl⟩ := last_at hQ
  have hnp12 : np ≤ 12 := by
    have h1 := sibs_len12 KK (n := N) (by omega)
    have h2 := pathB_len L KK
    rw [hPe, hnp, hLl] at h2
    omega
  have hnq12 : nq ≤ 12 := by
    have h1 := sibs_len12 0 (n := N) (by omega)
    have h2 := pathB_len L 0
    rw [hQe, hnq, hLl] at h2
    omega
  have HR1 := hid hR1
  have HR2 := hid hR2
  have HPl := hid hPl
  have HQl := hid hQl
  have HNP := hid hnp
  have HNQ := hid hnq
  have HOP := hid OP.1
  have HPL := hid OP.2
  have HOQ := hid OQ.1
  have HQL := hid OQ.2
  have GR := hid (fun (x : Int) (hx : x = (N : Int)) (w : World) (h : Below W.heap.size W w) => hL ▸ grown_v l v N (by omega) hx w (HV.out.below h))
  have HX := hid (show (2 : Int) + (n : Int) % 199 = (N : Int) by omega)
  have HLl := hid hLl
  have HMl := hid hM
  have t1 : decide ((100 : Int) < (m : Int)) = false := by simp; omega
  clear hN hL hLl hP hQ hK OP OQ hR1 hR2 hT hB hPe hQe hnp hnq hPl hQl hM
  go_enter Try.func6, Try.ntmps6
  go_wp2_with fail
  refine (examples_any _).mono ?_
  rintro e w0 ⟨rfl, hb⟩
  have B0 := hid hb; clear hb
  go_wp2_with fail
  refine (GR.out _ HX.out _ B0.out).mono ?_
  rintro e w1 ⟨p1, c1, rfl, hu1, hb1⟩
  have U1 := hid hu1
  have B1 := hid (below_step B0.out hb1)
  obtain ⟨-, pp, cc, e1, hc1, hc2, -, h2⟩ := hu1
  rw [HLl.out] at e1 hc1
  have h2' := h2 (by have := HLl.out; omega)
  obtain ⟨b, o, e2, hc⟩ := h2'
  simp only [Value.slice.injEq] at e1
  obtain ⟨rfl, -, rfl⟩ := e1
  subst e2
  have HC := hid hc
  clear hc h2 hb1
  go_wp2_with fail
  go_loop [9] (fun v => ∃ p : Nat, PwAt N p ∧ p ≤ 1000000 ∧ v = .int .i64 (p : Int)) (fun v => N - (intOf v).toNat)
  case atStart => exact ⟨1, pwAt_1 hN1, by omega, rfl⟩
  case round =>
    obtain ⟨q, hq, hqb, rfl⟩ := hrel
    have h1 := hq.1
    have h2 := hq.2.1
    by_cases hlt : 2 * q < N
    · have HP := hid (hq.next hlt)
      have d : decide ((2 : Int) * (q : Int) < (N : Int)) = true := by simp; omega
      clear hq
      go_wp2
      go_round
      case rel => exact ⟨2 * q, HP.out, by omega, by go_num⟩
      case measure => simp [intOf]; omega
    · have HP := hq.done (by omega)
      have d : decide ((2 : Int) * (q : Int) < (N : Int)) = false := by simp; omega
      rw [HPW.out] at HP
      have HQ := HP.symm
      clear HP hq
      subst HQ
      have HB2 := hid (below_a0 w1 (.cells #[] 23))
      have HON := hid (own_new w1 23)
      have V1 := hid ((U1.out.big.pre KK (by rw [HLl.out]; omega)).below HB2.out)
      have HTK := hid (show (L.take KK).length = KK by rw [List.length_take, HLl.out]; omega)
      go_wp2_with (at_builtin; go_must (with_reducible refine wpList_append_u64 rfl (.tmp 35) (.tmp 38) 22 rfl w1.heap.size 23 i0 (.int .u64 0) Try.underlying22 hi0 hz0 hz1 hz2 rfl (.slice (some ⟨w1.heap.size, 0, none⟩) 0 0) 0 [] rfl HON.out (.slice (some ⟨b, o, none⟩) KK c1) (L.take KK) rfl V1.out (by rw [HTK.out]; omega) (by simp) ?_))
      intro v2 w2 hown hb2
      rw [HLl.out, Nat.min_eq_left (Nat.le_of_lt hp2)] at hown
      have O2 := hid hown
      have B2 := hid (HB2.out.trans hb2)
      have V2 := hid ((HMV.out.below B1.out).below B2.out)
      clear hown hb2
      go_wp2_with (at_builtin; go_must (with_reducible refine wpList_append_u64 rfl (.tmp 39) (.tmp 40) 22 rfl w1.heap.size 23 i0 (.int .u64 0) Try.underlying22 hi0 hz0 hz1 hz2 rfl v2 KK (u64s (L.take KK)) rfl O2.out (.slice pm m cm) M rfl V2.out (by rw [HMl.out]; omega) B2.out.size ?_))
      intro v3 w3 hown hb3
      rw [HMl.out] at hown
      obtain ⟨p3, c3, rfl⟩ := own_form hown
      have U3 := hid (show U64At w3 (.slice p3 (KK + m) c3) (L.take KK ++ M) from U64At.of_own (by simpa [u64s] using hown) (by rw [List.length_append, HTK.out, HMl.out]; omega))
      have B3 := hid (B2.out.trans hb3)
      have U13 := hid (U1.out.below B3.out)
      clear hown hb3 O2 V2 V1 HB2 HON
      go_wp2_with fail
      refine (open_at L P 0 _ KK _ U13.out HOP.out HPL.out).mono ?_
      rintro e w4 ⟨p4, c4, rfl, hu4, hb4⟩
      rw [HNP.out] at hu4 ⊢
      have U4 := hid hu4
      have B4 := hid hb4
      clear hu4 hb4
      go_wp2_with fail
      refine (open_at L Q 0 _ 0 _ (U13.out.below B4.out) HOQ.out HQL.out).mono ?_
      rintro e w5 ⟨p5, c5, rfl, hu5, hb5⟩
      rw [HNQ.out] at hu5 ⊢
      have U5 := hid hu5
      have B5 := hid hb5
      clear hu5 hb5
      obtain ⟨b4, o4, rfl, hc4⟩ := U4.out.cells HPl.out
      obtain ⟨b5, o5, rfl, hc5⟩ := U5.out.cells HQl.out
      obtain ⟨X, hX⟩ : ∃ X, (Obj.cells #[.slice (some ⟨b4, o4, none⟩) (np + 1) c4, .int .i64 0] 32) = X := ⟨_, rfl⟩
      obtain ⟨Y, hY⟩ : ∃ Y, (Obj.cells #[.slice (some ⟨b5, o5, none⟩) (nq + 1) c5, .int .i64 0] 32) = Y := ⟨_, rfl⟩
      have h5a := opened_box w5 (.slice (some ⟨b4, o4, none⟩) (np + 1) c4) (.int .i64 0)
      have h5b := opened_box (w5.alloc X) (.slice (some ⟨b5, o5, none⟩) (nq + 1) c5) (.int .i64 0)
      rw [World.size_alloc] at h5b
      rw [hX] at h5a
      rw [hY] at h5b
      have H5a := hid (((Below.heap_alloc _ Y _ (by simp)).trans h5a).trans (congrArg some hX.symm))
      have H5b := hid (h5b.trans (congrArg some hY.symm))
      have B6 := hid (below_a (below_a0 w5 X) Y)
      have hC4 := cell_alloc Y (cell_alloc X (cell_below B5.out hc4))
      have C5 := hid (cell_alloc Y (cell_alloc X hc5))
      have HS6 := hid (show ((w5.alloc X).alloc Y).heap.size = w5.heap.size + 2 by simp)
      clear h5a h5b hc4 hc5
      subst hX
      subst hY
      have t5 : ((np : Int) + 1 == 0) = false := by rw [beq_eq_false_iff_ne]; omega
      have t6 : ((nq : Int) + 1 == 0) = false := by rw [beq_eq_false_iff_ne]; omega
      go_wp2_with fail
      have P2 := blk_cell H5b.out (j := 0) (v := .slice (some ⟨b5, o5, none⟩) (nq + 1) c5) rfl
      have P3 := C5.out
      clear hC4
      obtain ⟨W6, hW6⟩ : ∃ W6, (w5.alloc (.cells #[.slice (some ⟨b4, o4, none⟩) (np + 1) c4, .int .i64 0] 32)).alloc (.cells #[.slice (some ⟨b5, o5, none⟩) (nq + 1) c5, .int .i64 0] 32) = W6 := ⟨_, rfl⟩
      rw [hW6] at B6 HS6 P2 P3 ⊢
      clear hW6 H5a H5b C5
      have BW := hid (B4.out.trans ((B5.out.mono B4.out.size).trans (B6.out.mono (by have := B4.out.size; have := B5.out.size; omega))))
      have U16 := U13.out.below BW.out
      have UT1 := U64At.take KK (by rw [HLl.out]; exact hc1) hc2 (by rw [HLl.out]; omega) (by rw [HLl.out]; omega) HC.out
      have UD1 := U64At.drop KK (by rw [HLl.out]; exact hc1) hc2 (by rw [HLl.out]; omega) (by rw [HLl.out]; omega) HC.out
      rw [HLl.out] at UD1
      have UT := hid ((UT1.below B3.out).below BW.out)
      have UD := hid ((UD1.below B3.out).below BW.out)
      have UO := hid (U3.out.below BW.out)
      clear U16 UT1 UD1
      have HKB := hid (show IntKind.u64.wrap (KK : Int) = ((BitVec.ofNat 64 KK).toNat : Int) by rw [IntKind.wrap_u64, BitVec.toNat_ofNat]; omega)
      have HNK := hid (show IntKind.u64.wrap (IntKind.i64.wrap ((N : Int) - (KK : Int))) = ((BitVec.ofNat 64 (N - KK)).toNat : Int) by rw [IntKind.wrap_i64, IntKind.wrap_u64, BitVec.toNat_ofNat]; omega)
      have t3 : ¬ c1 = KK := by omega
      have t7 : KK ≤ c1 := by omega
      have t8 : KK ≤ N := by omega
      have t9 : N ≤ c1 := hc1
      have t10 : IntKind.i64.wrap (nq : Int) = (nq : Int) := by rw [IntKind.wrap_i64]; omega
      have t11 : (nq : Int) < (nq : Int) + 1 := by omega
      have hsd := (Below.refl W6.heap.size W6).drew
      refine wp_region_held_drew (S := fun W' => (W'.cell? ⟨w5.heap.size + 1, 0, none⟩ = some (.slice (some ⟨b5, o5, none⟩) (nq + 1) c5) ∧ W'.cell? ⟨b5, o5 + nq, none⟩ = some (.int .u64 (B.toNat : Int)) ∧ Below W6.heap.size W6 W')) (by kernel_rfl) ?_ (fun hHeld => ?_)
      · exact ⟨P2, P3, hsd⟩
      refine wpAnyH_take (i := 0) (oi := ({ dst := some 75, op := Op.move (Operand.tmp 8), type := 22, pos := "law.go:123", after := #[], guard := none } : Oper)) (v := ?_) rfl (by kernel_rfl) (by kernel_rfl) (by kernel_rfl) (fun _ _ _ h => h) (Or.inl ⟨by rfl, ?_⟩) (by assumption) ?_
      rotate_left
      · intro w hSw; (try dsimp only at hSw); go_simp <;> with_reducible rfl
      (try simp only [Act.put, List.setIfInBounds_toArray, List.set_cons_zero, List.set_cons_succ])
      refine wpAnyH_take (i := 1) (oi := ({ dst := some 76, op := Op.move (Operand.tmp 9), type := 3, pos := "law.go:123", after := #[], guard := none } : Oper)) (v := ?_) rfl (by kernel_rfl) (by kernel_rfl) (by kernel_rfl) (fun _ _ _ h => h) (Or.inl ⟨by rfl, ?_⟩) (by assumption) ?_
      rotate_left
      · intro w hSw; (try dsimp only at hSw); go_simp <;> with_reducible rfl
      (try simp only [Act.put, List.setIfInBounds_toArray, List.set_cons_zero, List.set_cons_succ])
      refine wpAnyH_take (i := 2) (oi := ({ dst := some 77, op := Op.slice 22 (Operand.tmp 75) none (some (Operand.tmp 76)) none, type := 22, pos := "law.go:123", after := #[{ on := 0, ground := Ground.data }, { on := 1, ground := Ground.data }], guard := none } : Oper)) (v := ?_) rfl (by kernel_rfl) (by kernel_rfl) (by kernel_rfl) (fun _ _ _ h => h) (Or.inl ⟨by rfl, ?_⟩) (by assumption) ?_
      rotate_left
      · intro w hSw; (try dsimp only at hSw); go_simp <;> with_reducible rfl
      (try simp only [Act.put, List.setIfInBounds_toArray, List.set_cons_zero, List.set_cons_succ])
      refine wpAnyH_take (i := 4) (oi := ({ dst := some 79, op := Op.move (Operand.tmp 9), type := 3, pos := "law.go:123", after := #[], guard := none } : Oper)) (v := ?_) rfl (by kernel_rfl) (by kernel_rfl) (by kernel_rfl) (fun _ _ _ h => h) (Or.inl ⟨by rfl, ?_⟩) (by assumption) ?_
      rotate_left
      · intro w hSw; (try dsimp only at hSw); go_simp <;> with_reducible rfl
      (try simp only [Act.put, List.setIfInBounds_toArray, List.set_cons_zero, List.set_cons_succ])
      refine wpAnyH_take (i := 5) (oi := ({ dst := some 80, op := Op.convert 3 23 (Operand.tmp 79), type := 23, pos := "law.go:123", after := #[{ on := 4, ground := Ground.data }], guard := none } : Oper)) (v := ?_) rfl (by kernel_rfl) (by kernel_rfl) (by kernel_rfl) (fun _ _ _ h => h) (Or.inl ⟨by rfl, ?_⟩) (by assumption) ?_
      rotate_left
      · intro w hSw; (try dsimp only at hSw); go_simp <;> with_reducible rfl
      (try simp only [Act.put, List.setIfInBounds_toArray, List.set_cons_zero, List.set_cons_succ])
      refine wpAnyH_take (i := 6) (oi := ({ dst := some 81, op := Op.move (Operand.tmp 13), type := 23, pos := "law.go:123", after := #[], guard := none } : Oper)) (v := ?_) rfl (by kernel_rfl) (by kernel_rfl) (by kernel_rfl) (fun _ _ _ h => h) (Or.inl ⟨by rfl, ?_⟩) (by assumption) ?_
      rotate_left
      · intro w hSw; (try dsimp only at hSw); go_simp <;> with_reducible rfl
      (try simp only [Act.put, List.setIfInBounds_toArray, List.set_cons_zero, List.set_cons_succ])
      refine wpAnyH_ready (rs := [3]) (by kernel_rfl) (by simp) ?_
      refine AllReadyH.cons (o := ({ dst := some 78, op := Op.call { callee := Callee.value (Operand.func 10), args := #[Operand.tmp 77], argTypes := #[22] }, type := 23, pos := "law.go:123", after := #[{ on := 2, ground := Ground.data }], guard := none } : Oper)) rfl (fun K hK => ?_) ?_
      rotate_left
      · exact AllReadyH.nil
      go_simp
      go_at_call 10
      with_reducible refine (root_c (.slice (some ⟨b, o, none⟩) KK c1) (L.take KK) (joinB (BitVec.ofNat 64 KK) T) HR1.out UT hsd).mono ?_
      rintro e y0 ⟨rfl, hq0⟩
      have hB0 := below_step hsd hq0
      clear hHeld
      first | (with_reducible refine hK.out _ _ ?_ (fun hHeld => ?_)) | (go_wp2_with fail; with_reducible refine hK.out _ _ ?_ (fun hHeld => ?_))
      · exact ⟨cell_below hB0 P2, cell_below hB0 P3, hB0⟩
      clear hK K
      (try simp only [Act.put, List.setIfInBounds_toArray, List.set_cons_zero, List.set_cons_succ])
      refine wpAnyH_ready (rs := [7]) (by kernel_rfl) (by simp) ?_
      refine AllReadyH.cons (o := ({ dst := some 82, op := Op.call { callee := Callee.value (Operand.func 20), args := #[Operand.tmp 80, Operand.tmp 81], argTypes := #[23, 23] }, type := 23, pos := "law.go:123", after := #[{ on := 5, ground := Ground.data }, { on := 6, ground := Ground.data }, { on := 3, ground := Ground.chain }], guard := none } : Oper)) rfl (fun K hK => ?_) ?_
      rotate_left
      · exact AllReadyH.nil
      go_simp
      go_at_call 20
      with_reducible refine (join_b (x := IntKind.u64.wrap (KK : Int)) (BitVec.ofNat 64 KK) T HKB.out rfl _).mono ?_
      rintro e y1 ⟨rfl, hq1⟩
      have hB1 := below_step hB0 hq1
      clear hHeld
      first | (with_reducible refine hK.out _ _ ?_ (fun hHeld => ?_)) | (go_wp2_with fail; with_reducible refine hK.out _ _ ?_ (fun hHeld => ?_))
      · exact ⟨cell_below hB1 P2, cell_below hB1 P3, hB1⟩
      clear hK K
      (try simp only [Act.put, List.setIfInBounds_toArray, List.set_cons_zero, List.set_cons_succ])
      refine wpAnyH_take (i := 8) (oi := ({ dst := some 83, op := Op.binOp BinOp.neq 23 (Operand.tmp 78) (Operand.tmp 82) 23, type := 4, pos := "law.go:123", after := #[{ on := 3, ground := Ground.data }, { on := 7, ground := Ground.data }], guard := none } : Oper)) (v := ?_) rfl (by kernel_rfl) (by kernel_rfl) (by kernel_rfl) (fun _ _ _ h => h) (Or.inl ⟨by rfl, ?_⟩) (by assumption) ?_
      rotate_left
      · intro w hSw; (try dsimp only at hSw); go_simp <;> with_reducible rfl
      (try simp only [Act.put, List.setIfInBounds_toArray, List.set_cons_zero, List.set_cons_succ])
      refine wpAnyH_take (i := 9) (oi := ({ dst := some 84, op := Op.move (Operand.tmp 83), type := 4, pos := "law.go:123", after := #[{ on := 8, ground := Ground.data }, { on := 7, ground := Ground.chain }], guard := none } : Oper)) (v := ?_) rfl (by kernel_rfl) (by kernel_rfl) (by kernel_rfl) (fun _ _ _ h => h) (Or.inl ⟨by rfl, ?_⟩) (by assumption) ?_
      rotate_left
      · intro w hSw; (try dsimp only at hSw); go_simp <;> with_reducible rfl
      (try simp only [Act.put, List.setIfInBounds_toArray, List.set_cons_zero, List.set_cons_succ])
      refine wpAnyH_take (i := 10) (oi := ({ dst := some 85, op := Op.move (Operand.tmp 8), type := 22, pos := "law.go:123", after := #[{ on := 9, ground := Ground.guard }], guard := some (9, false) } : Oper)) (v := ?_) rfl (by kernel_rfl) (by kernel_rfl) (by kernel_rfl) (fun _ _ _ h => h) (Or.inl ⟨by rfl, ?_⟩) (by assumption) ?_
      rotate_left
      · intro w hSw; (try dsimp only at hSw); go_simp <;> with_reducible rfl
      (try simp only [Act.put, List.setIfInBounds_toArray, List.set_cons_zero, List.set_cons_succ])
      refine wpAnyH_take (i := 11) (oi := ({ dst := some 86, op := Op.move (Operand.tmp 9), type := 3, pos := "law.go:123", after := #[{ on := 9, ground := Ground.guard }], guard := some (9, false) } : Oper)) (v := ?_) rfl (by kernel_rfl) (by kernel_rfl) (by kernel_rfl) (fun _ _ _ h => h) (Or.inl ⟨by rfl, ?_⟩) (by assumption) ?_
      rotate_left
      · intro w hSw; (try dsimp only at hSw); go_simp <;> with_reducible rfl
      (try simp only [Act.put, List.setIfInBounds_toArray, List.set_cons_zero, List.set_cons_succ])
      refine wpAnyH_take (i := 12) (oi := ({ dst := some 87, op := Op.slice 22 (Operand.tmp 85) (some (Operand.tmp 86)) none none, type := 22, pos := "law.go:123", after := #[{ on := 10, ground := Ground.data }, { on := 11, ground := Ground.data }, { on := 9, ground := Ground.guard }], guard := some (9, false) } : Oper)) (v := ?_) rfl (by kernel_rfl) (by kernel_rfl) (by kernel_rfl) (fun _ _ _ h => h) (Or.inl ⟨by rfl, ?_⟩) (by assumption) ?_
      rotate_left
      · intro w hSw; (try dsimp only at hSw); go_simp <;> with_reducible rfl
      (try simp only [Act.put, List.setIfInBounds_toArray, List.set_cons_zero, List.set_cons_succ])
      refine wpAnyH_take (i := 14) (oi := ({ dst := some 89, op := Op.move (Operand.tmp 8), type := 22, pos := "law.go:123", after := #[{ on := 9, ground := Ground.guard }], guard := some (9, false) } : Oper)) (v := ?_) rfl (by kernel_rfl) (by kernel_rfl) (by kernel_rfl) (fun _ _ _ h => h) (Or.inl ⟨by rfl, ?_⟩) (by assumption) ?_
      rotate_left
      · intro w hSw; (try dsimp only at hSw); go_simp <;> with_reducible rfl
      (try simp only [Act.put, List.setIfInBounds_toArray, List.set_cons_zero, List.set_cons_succ])
      refine wpAnyH_take (i := 15) (oi := ({ dst := some 90, op := Op.call { callee := Callee.builtin Builtin.len, args := #[Operand.tmp 89], argTypes := #[22] }, type := 3, pos := "law.go:123", after := #[{ on := 14, ground := Ground.data }, { on := 9, ground := Ground.guard }], guard := some (9, false) } : Oper)) (v := ?_) rfl (by kernel_rfl) (by kernel_rfl) (by kernel_rfl) (fun _ _ _ h => h) (Or.inl ⟨by rfl, ?_⟩) (by assumption) ?_
      rotate_left
      · intro w hSw; (try dsimp only at hSw); go_simp <;> with_reducible rfl
      (try simp only [Act.put, List.setIfInBounds_toArray, List.set_cons_zero, List.set_cons_succ])
      refine wpAnyH_take (i := 16) (oi := ({ dst := some 91, op := Op.move (Operand.tmp 9), type := 3, pos := "law.go:123", after := #[{ on := 9, ground := Ground.guard }], guard := some (9, false) } : Oper)) (v := ?_) rfl (by kernel_rfl) (by kernel_rfl) (by kernel_rfl) (fun _ _ _ h => h) (Or.inl ⟨by rfl, ?_⟩) (by assumption) ?_
      rotate_left
      · intro w hSw; (try dsimp only at hSw); go_simp <;> with_reducible rfl
      (try simp only [Act.put, List.setIfInBounds_toArray, List.set_cons_zero, List.set_cons_succ])
      refine wpAnyH_take (i := 17) (oi := ({ dst := some 92, op := Op.binOp BinOp.sub 3 (Operand.tmp 90) (Operand.tmp 91) 3, type := 3, pos := "law.go:123", after := #[{ on := 15, ground := Ground.data }, { on := 16, ground := Ground.data }, { on := 9, ground := Ground.guard }], guard := some (9, false) } : Oper)) (v := ?_) rfl (by kernel_rfl) (by kernel_rfl) (by kernel_rfl) (fun _ _ _ h => h) (Or.inl ⟨by rfl, ?_⟩) (by assumption) ?_
      rotate_left
      · intro w hSw; (try dsimp only at hSw); go_simp <;> with_reducible rfl
      (try simp only [Act.put, List.setIfInBounds_toArray, List.set_cons_zero, List.set_cons_succ])
      refine wpAnyH_take (i := 18) (oi := ({ dst := some 93, op := Op.convert 3 23 (Operand.tmp 92), type := 23, pos := "law.go:123", after := #[{ on := 17, ground := Ground.data }, { on := 9, ground := Ground.guard }], guard := some (9, false) } : Oper)) (v := ?_) rfl (by kernel_rfl) (by kernel_rfl) (by kernel_rfl) (fun _ _ _ h => h) (Or.inl ⟨by rfl, ?_⟩) (by assumption) ?_
      rotate_left
      · intro w hSw; (try dsimp only at hSw); go_simp <;> with_reducible rfl
      (try simp only [Act.put, List.setIfInBounds_toArray, List.set_cons_zero, List.set_cons_succ])
      refine wpAnyH_take (i := 19) (oi := ({ dst := some 94, op := Op.fieldAddr 32 (Operand.tmp 12) 0, type := 0, pos := "law.go:123", after := #[{ on := 9, ground := Ground.guard }], guard := some (9, false) } : Oper)) (v := ?_) rfl (by kernel_rfl) (by kernel_rfl) (by kernel_rfl) (fun _ _ _ h => h) (Or.inl ⟨by rfl, ?_⟩) (by assumption) ?_
      rotate_left
      · intro w hSw; (try dsimp only at hSw); go_simp <;> with_reducible rfl
      (try simp only [Act.put, List.setIfInBounds_toArray, List.set_cons_zero, List.set_cons_succ])
      refine wpAnyH_take (i := 20) (oi := ({ dst := some 95, op := Op.load 22 (Operand.tmp 94), type := 22, pos := "law.go:123", after := #[{ on := 19, ground := Ground.data }, { on := 9, ground := Ground.guard }], guard := some (9, false) } : Oper)) (v := ?_) rfl (by kernel_rfl) (by kernel_rfl) (by kernel_rfl) (fun _ _ _ h => h) (Or.inl ⟨by rfl, ?_⟩) (by assumption) ?_
      rotate_left
      · intro w hSw; (try dsimp only at hSw); go_simp <;> with_reducible rfl
      (try simp only [Act.put, List.setIfInBounds_toArray, List.set_cons_zero, List.set_cons_succ])
      refine wpAnyH_take (i := 21) (oi := ({ dst := some 96, op := Op.fieldAddr 32 (Operand.tmp 12) 0, type := 0, pos := "law.go:123", after := #[{ on := 9, ground := Ground.guard }], guard := some (9, false) } : Oper)) (v := ?_) rfl (by kernel_rfl) (by kernel_rfl) (by kernel_rfl) (fun _ _ _ h => h) (Or.inl ⟨by rfl, ?_⟩) (by assumption) ?_
      rotate_left
      · intro w hSw; (try dsimp only at hSw); go_simp <;> with_reducible rfl
      (try simp only [Act.put, List.setIfInBounds_toArray, List.set_cons_zero, List.set_cons_succ])
      refine wpAnyH_take (i := 22) (oi := ({ dst := some 97, op := Op.load 22 (Operand.tmp 96), type := 22, pos := "law.go:123", after := #[{ on := 21, ground := Ground.data }, { on := 9, ground := Ground.guard }], guard := some (9, false) } : Oper)) (v := ?_) rfl (by kernel_rfl) (by kernel_rfl) (by kernel_rfl) (fun _ _ _ h => h) (Or.inl ⟨by rfl, ?_⟩) (by assumption) ?_
      rotate_left
      · intro w hSw; (try dsimp only at hSw); go_simp <;> with_reducible rfl
      (try simp only [Act.put, List.setIfInBounds_toArray, List.set_cons_zero, List.set_cons_succ])
      refine wpAnyH_take (i := 23) (oi := ({ dst := some 98, op := Op.call { callee := Callee.builtin Builtin.len, args := #[Operand.tmp 97], argTypes := #[22] }, type := 3, pos := "law.go:123", after := #[{ on := 22, ground := Ground.data }, { on := 9, ground := Ground.guard }], guard := some (9, false) } : Oper)) (v := ?_) rfl (by kernel_rfl) (by kernel_rfl) (by kernel_rfl) (fun _ _ _ h => h) (Or.inl ⟨by rfl, ?_⟩) (by assumption) ?_
      rotate_left
      · intro w hSw; (try dsimp only at hSw); go_simp <;> with_reducible rfl
      (try simp only [Act.put, List.setIfInBounds_toArray, List.set_cons_zero, List.set_cons_succ])
      refine wpAnyH_take (i := 24) (oi := ({ dst := some 99, op := Op.binOp BinOp.sub 3 (Operand.tmp 98) (Operand.const (Value.int IntKind.i64 1)) 3, type := 3, pos := "law.go:123", after := #[{ on := 23, ground := Ground.data }, { on := 9, ground := Ground.guard }], guard := some (9, false) } : Oper)) (v := ?_) rfl (by kernel_rfl) (by kernel_rfl) (by kernel_rfl) (fun _ _ _ h => h) (Or.inl ⟨by rfl, ?_⟩) (by assumption) ?_
      rotate_left
      · intro w hSw; (try dsimp only at hSw); go_simp <;> with_reducible rfl
      (try simp only [Act.put, List.setIfInBounds_toArray, List.set_cons_zero, List.set_cons_succ])
      refine wpAnyH_take (i := 25) (oi := ({ dst := some 100, op := Op.indexAddr 22 (Operand.tmp 95) (Operand.tmp 99), type := 0, pos := "law.go:123", after := #[{ on := 20, ground := Ground.data }, { on := 24, ground := Ground.data }, { on := 9, ground := Ground.guard }], guard := some (9, false) } : Oper)) (v := ?_) rfl (by kernel_rfl) (by kernel_rfl) (by kernel_rfl) (fun _ _ _ h => h) (Or.inl ⟨by rfl, ?_⟩) (by assumption) ?_
      rotate_left
      · intro w hSw; (try dsimp only at hSw); go_simp <;> with_reducible rfl
      (try simp only [Act.put, List.setIfInBounds_toArray, List.set_cons_zero, List.set_cons_succ])
      refine wpAnyH_take (i := 26) (oi := ({ dst := some 101, op := Op.load 23 (Operand.tmp 100), type := 23, pos := "law.go:123", after := #[{ on := 25, ground := Ground.data }, { on := 9, ground := Ground.guard }], guard := some (9, false) } : Oper)) (v := ?_) rfl (by kernel_rfl) (by kernel_rfl) (by kernel_rfl) (fun _ _ _ h => h) (Or.inl ⟨by rfl, ?_⟩) (by assumption) ?_
      rotate_left
      · intro w hSw; (try dsimp only at hSw); go_simp <;> with_reducible rfl
      (try simp only [Act.put, List.setIfInBounds_toArray, List.set_cons_zero, List.set_cons_succ])
      refine wpAnyH_ready (rs := [13]) (by kernel_rfl) (by simp) ?_
      refine AllReadyH.cons (o := ({ dst := some 88, op := Op.call { callee := Callee.value (Operand.func 10), args := #[Operand.tmp 87], argTypes := #[22] }, type := 23, pos := "law.go:123", after := #[{ on := 12, ground := Ground.data }, { on := 9, ground := Ground.chain }, { on := 9, ground := Ground.guard }], guard := some (9, false) } : Oper)) rfl (fun K hK => ?_) ?_
      rotate_left
      · exact AllReadyH.nil
      go_simp
      go_at_call 10
      with_reducible refine (root_c (.slice (some ⟨b, o + KK, none⟩) (N - KK) (c1 - KK)) (L.drop KK) (joinB (BitVec.ofNat 64 (N - KK)) B) HR2.out UD hB1).mono ?_
      rintro e y2 ⟨rfl, hq2⟩
      have hB2 := below_step hB1 hq2
      clear hHeld
      first | (with_reducible refine hK.out _ _ ?_ (fun hHeld => ?_)) | (go_wp2_with fail; with_reducible refine hK.out _ _ ?_ (fun hHeld => ?_))
      · exact ⟨cell_below hB2 P2, cell_below hB2 P3, hB2⟩
      clear hK K
      (try simp only [Act.put, List.setIfInBounds_toArray, List.set_cons_zero, List.set_cons_succ])
      refine wpAnyH_ready (rs := [27]) (by kernel_rfl) (by simp) ?_
      refine AllReadyH.cons (o := ({ dst := some 102, op := Op.call { callee := Callee.value (Operand.func 20), args := #[Operand.tmp 93, Operand.tmp 101], argTypes := #[23, 23] }, type := 23, pos := "law.go:123", after := #[{ on := 18, ground := Ground.data }, { on := 26, ground := Ground.data }, { on := 13, ground := Ground.chain }, { on := 9, ground := Ground.guard }], guard := some (9, false) } : Oper)) rfl (fun K hK => ?_) ?_
      rotate_left
      · exact AllReadyH.nil
      go_simp
      go_at_call 20
      with_reducible refine (join_b (x := IntKind.u64.wrap (IntKind.i64.wrap ((N : Int) - (KK : Int)))) (BitVec.ofNat 64 (N - KK)) B HNK.out rfl _).mono ?_
      rintro e y3 ⟨rfl, hq3⟩
      have hB3 := below_step hB2 hq3
      clear hHeld
      first | (with_reducible refine hK.out _ _ ?_ (fun hHeld => ?_)) | (go_wp2_with fail; with_reducible refine hK.out _ _ ?_ (fun hHeld => ?_))
      · exact ⟨cell_below hB3 P2, cell_below hB3 P3, hB3⟩
      clear hK K
      (try simp only [Act.put, List.setIfInBounds_toArray, List.set_cons_zero, List.set_cons_succ])
      refine wpAnyH_take (i := 28) (oi := ({ dst := some 103, op := Op.binOp BinOp.neq 23 (Operand.tmp 88) (Operand.tmp 102) 23, type := 4, pos := "law.go:123", after := #[{ on := 13, ground := Ground.data }, { on := 27, ground := Ground.data }, { on := 9, ground := Ground.guard }], guard := some (9, false) } : Oper)) (v := ?_) rfl (by kernel_rfl) (by kernel_rfl) (by kernel_rfl) (fun _ _ _ h => h) (Or.inl ⟨by rfl, ?_⟩) (by assumption) ?_
      rotate_left
      · intro w hSw; (try dsimp only at hSw); go_simp <;> with_reducible rfl
      (try simp only [Act.put, List.setIfInBounds_toArray, List.set_cons_zero, List.set_cons_succ])
      refine wpAnyH_take (i := 29) (oi := ({ dst := some 104, op := Op.pick (Operand.tmp 84) (Operand.const (Value.bool true)) (Operand.tmp 103), type := 4, pos := "law.go:123", after := #[{ on := 9, ground := Ground.data }, { on := 28, ground := Ground.data }], guard := none } : Oper)) (v := ?_) rfl (by kernel_rfl) (by kernel_rfl) (by kernel_rfl) (fun _ _ _ h => h) (Or.inl ⟨by rfl, ?_⟩) (by assumption) ?_
      rotate_left
      · intro w hSw; (try dsimp only at hSw); go_simp <;> with_reducible rfl
      (try simp only [Act.put, List.setIfInBounds_toArray, List.set_cons_zero, List.set_cons_succ])
      refine wpAnyH_done (by kernel_rfl) ?_ _
      clear P2 P3 hHeld
      have BR := hid hB3
      have HE := hid (B1.out.trans ((B3.out.mono B1.out.size).trans ((BW.out.mono (by have := B1.out.size; have := B3.out.size; omega)).trans (BR.out.mono (by have := B1.out.size; have := B3.out.size; have := BW.out.size; omega)))))
      by_cases hm0 : m = 0
      · have u1 : ((m : Int) == 0) = true := by rw [beq_iff_eq]; omega
        go_wp2_with fail
        go_ret
        exact ⟨rfl, HE.out⟩
      by_cases hm1 : KK < m
      · have u1 : ((m : Int) == 0) = false := by rw [beq_eq_false_iff_ne]; omega
        have u2 : decide ((KK : Int) < (m : Int)) = true := by simp; omega
        go_wp2_with fail
        go_ret
        exact ⟨rfl, HE.out⟩
      have u1 : ((m : Int) == 0) = false := by rw [beq_eq_false_iff_ne]; omega
      have u2 : decide ((KK : Int) < (m : Int)) = false := by simp; omega
      obtain ⟨h1, h2, h3⟩ := OO.out (by omega) (by omega)
      obtain ⟨R, hRe⟩ : ∃ R, pathB (L.take KK ++ M) KK = R := ⟨_, rfl⟩
      rw [hRe] at h1 h3
      obtain ⟨nr, hnr, hRl⟩ := last_at h3
      have hnr12 : nr ≤ 12 := by
        have k1 := sibs_len12 KK (n := KK + m) (by omega)
        have k2 := pathB_len (L.take KK ++ M) KK
        rw [hRe, hnr, List.length_append, HTK.out, HMl.out] at k2
        omega
      have HOR := hid h1
      have HRL := hid h2
      have HRl := hid hRl
      have HNR := hid hnr
      clear h1 h2 h3 hRe hnr hRl
      go_wp2_with fail
      refine (open_at (L.take KK ++ M) R 0 _ KK _ (UO.out.below BR.out) HOR.out HRL.out).mono ?_
      rintro e w7 ⟨p7, c7, rfl, hu7, hb7⟩
      rw [HNR.out] at hu7 ⊢
      obtain ⟨b7, o7, rfl, hc7⟩ := hu7.cells HRl.out
      have hC7 := cell_alloc (.cells #[.slice (some ⟨b7, o7, none⟩) (nr + 1) c7, .int .i64 0] 32) hc7
      have HF := hid (below_a (HE.out.trans (hb7.mono (by have := HE.out.size; omega))) (.cells #[.slice (some ⟨b7, o7, none⟩) (nr + 1) c7, .int .i64 0] 32))
      have v1 : decide ((0 : Int) < (nr : Int) + 1) = true := decide_eq_true (by omega)
      clear hu7 hb7 hc7
      go_wp2_with fail
      go_ret
      exact ⟨rfl, HF.out⟩


theorem halves_any (l M : List (BitVec 64)) (v mv : Value) (n : Nat) (hn : n ≤ 255) (W : World) (hv : U64Big W v l) (hmv : U64Big W mv M) :
    Calls Try.prog 6 #[v, .int .u8 (n : Int), mv] W fun e w' => e = .returned (.bool true) ∧ Below W.heap.size W w' := by
  have h := hmv
  obtain ⟨pm, cm, rfl, -⟩ := h
  by_cases hm : M.length ≤ 100
  · exact halves_walk l M v pm n M.length cm hn W hv hmv rfl hm
  · exact halves_big v pm n M.length cm (by omega) W

theorem merkleHalves_contract (H : Type) (enc : TypeId × Value → H) (W : World) (base : Nat) (args : Array Value) (ds gs : List (DataW H)) (before : List MemPlace)
    (hval : ∀ (j : Nat) t v, Try.f6.params[j]? = some t → args[j]? = some v → Value.okWide Try.prog W .any base t v)
    (hW : DataW.Whole enc Try.prog Try.f6.params.toList Rows.merkleHalvesSpec.vars false W args.toList ds gs before) :
    Calls Try.prog 6 args W fun e W' => ∃ v, e = .returned v ∧ Rows.merkleHalvesSpec.post enc Try.prog Try.f6 false true false false W args v W' := by
  have hW' := hW
  obtain ⟨p, q, hA0, hV, rfl, hfz, hnd⟩ := hW
  have hA : DataW.TrodAll enc Try.prog W 0 (fun _ => true) true Try.f6.params.toList args.toList ds p := hA0
  rw [Try.params6] at hA hval
  obtain ⟨v0, vs0, d0, ds0, p0, q0, hargs, rfl, rfl, h0, r0⟩ := trodAll_cons hA
  obtain ⟨v1, vs1, d1, ds1, p1, q1, rfl, rfl, rfl, h1, r1⟩ := trodAll_cons r0
  obtain ⟨v2, vs2, d2, ds2, p2, q2, rfl, rfl, rfl, h2, r2⟩ := trodAll_cons r1
  obtain ⟨rfl, rfl, rfl⟩ := trodAll_nil r2
  obtain rfl : args = #[v0, v1, v2] := by cases args; simp_all
  obtain ⟨rfl, rfl⟩ := trodVars_none hV
  obtain ⟨t0, in0⟩ := open_u64l (hval 0 _ v0 rfl rfl) h0
  obtain ⟨z1, rfl, rfl, rfl, wf1⟩ := open_int Try.underlying5 (hval 1 5 v1 rfl rfl) h1
  obtain ⟨t1, rfl, h8_1⟩ := bd8 wf1
  obtain ⟨t2, in2⟩ := open_u64l (hval 2 _ v2 rfl rfl) h2
  refine (halves_any t0 t2 v0 v2 t1 h8_1 W in0 in2).mono fun e W' ⟨he, hg⟩ => ?_
  subst he
  exact ⟨_, rfl, post_true (T := 4) (by kernel_rfl) (by kernel_rfl) rfl rfl (by kernel_rfl) hW' hg rfl⟩

set_option maxRecDepth 100000 in
theorem merkleHalves_lifted (os : Os) (started : os.Started) (H : Type) (enc : TypeId × Value → H) :
    ReturnsInHanded {} Try.checked os 6 .any (Rows.merkleHalvesSpec.pre6 enc Try.prog Try.f6 Rows.merkleHalvesRow.domain false) (Rows.merkleHalvesSpec.post enc Try.prog Try.f6 false true false false) := by
  refine returnsInHanded_of_change (C := Try.checked) own started (by kernel_rfl) Try.func6
    (ChangeSpec.witness6 (enc := enc) (C := Try.checked) false ⟨#[], #[.slice none 0 0, .int .u8 0, .slice none 0 0], []⟩ 8 (by kernel_rfl) (by kernel_rfl) (by kernel_rfl) (by kernel_rfl)) ?_
  intro W base args ds gs before hval hW _ _
  exact merkleHalves_contract H enc W base args ds gs before hval hW

theorem merkleHalves_holds : Rows.MerkleHalvesSaid :=
  OpenClaim.holds_of_wide 6 Try.f6 rfl rfl rfl rfl rfl rfl rfl ⟨rfl, rfl, rfl, rfl, rfl⟩ rfl rfl rfl rfl rfl (by kernel_rfl) Try.func6 (by kernel_rfl)
    (of_decide_eq_true (by kernel_rfl)) (by unfold Func.isWrapper; rw [if_neg (of_decide_eq_false (by kernel_rfl))]; exact ⟨rfl, rfl⟩)
    (fun os started H enc _ => merkleHalves_lifted os started H enc)
end Go.Proofs.Ytagpinpelgkjcaa

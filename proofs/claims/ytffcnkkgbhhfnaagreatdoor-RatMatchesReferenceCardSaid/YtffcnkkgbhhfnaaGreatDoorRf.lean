
import Derived.Test.YtffcnkkgbhhfnaaGreatDoorRg
namespace Go.Proofs.YtffcnkkgbhhfnaaGreatDoor
open Go.RowKit Go.Instr
set_option linter.unusedVariables false

/-! 'rat.product', 'rat.fraction'. -/
def I64 (n : Int) : Prop := -9223372036854775808 ≤ n ∧ n ≤ 9223372036854775807

theorem prod_lo_nat (a b : Int) (A B : Nat) (hA : (A : Int) = a % 18446744073709551616) (hB : (B : Int) = b % 18446744073709551616) : ((A * B % 18446744073709551616 : Nat) : Int) = loW (a * b) := by
  rw [Int.natCast_emod, Int.natCast_mul]; exact prod_lo a b A B hA hB
theorem prod_hi_nat (A B : Nat) (hA : A < 18446744073709551616) (hB : B < 18446744073709551616) : A * B / 18446744073709551616 < 18446744073709551616 := by
  rw [Nat.div_lt_iff_lt_mul (by omega)]
  exact Nat.lt_of_le_of_lt (Nat.mul_le_mul_left A (Nat.le_of_lt hB)) (Nat.mul_lt_mul_of_pos_right hA (by omega))

set_option maxHeartbeats 1000000 in
theorem product_pp (a b : Int) (h1 : I64 a) (h2 : I64 b) (ha : 0 ≤ a) (hb : 0 ≤ b) (w : World) :
    Calls Tryz.prog 43 #[.int .i64 a, .int .i64 b] w fun e w' => e = .returned (.agg #[.int .u64 (hiW (a * b)), .int .u64 (loW (a * b))]) ∧ Below w.heap.size w w' := by
  unfold I64 at h1 h2
  obtain ⟨A, hA⟩ : ∃ A : Nat, (A : Int) = a % 18446744073709551616 := ⟨(a % 18446744073709551616).toNat, by omega⟩
  obtain ⟨B, hB⟩ : ∃ B : Nat, (B : Int) = b % 18446744073709551616 := ⟨(b % 18446744073709551616).toNat, by omega⟩
  have e1 : IntKind.u64.wrap a = (A : Int) := by rw [wrapUi, hA]
  have e2 : IntKind.u64.wrap b = (B : Int) := by rw [wrapUi, hB]
  have M := hid (fun w => Tryz.bits_Mul64 A B (by omega) (by omega) w)
  have hl := prod_lo_nat a b A B hA hB
  have hh := prod_hi_nat A B (by omega) (by omega)
  obtain ⟨H, hH⟩ : ∃ H, A * B / 18446744073709551616 = H := ⟨_, rfl⟩
  rw [hl, hH] at M
  have e3 : (H : Int) = hiW (a * b) := by
    have h3 := prod_pp a b A B hA hB ha hb (by omega) (by omega)
    rw [← h3, ← Int.natCast_mul]; omega
  clear hl hA hB hh hH h1 h2
  generalize a * b = p at *
  go_enter Tryz.func43, Tryz.ntmps43
  go_wp2_with fail
  refine (M.out _).mono ?_
  rintro e w1 ⟨rfl, rfl⟩
  go_wp2
  exact bodyPost_ret (v := .agg #[.int .u64 (hiW (p)), .int .u64 (loW (p))]) (by simp [results, Tryz.results43, go_sem]) rfl ⟨rfl, ((Below.refl _ _).alloc (by first | exact Nat.le_refl _ | (simp; done) | (simp; omega) | omega | (simp [World.drewN]; omega)) _)⟩

set_option maxHeartbeats 1000000 in
theorem product_np (a b : Int) (h1 : I64 a) (h2 : I64 b) (ha : a < 0) (hb : 0 ≤ b) (w : World) :
    Calls Tryz.prog 43 #[.int .i64 a, .int .i64 b] w fun e w' => e = .returned (.agg #[.int .u64 (hiW (a * b)), .int .u64 (loW (a * b))]) ∧ Below w.heap.size w w' := by
  unfold I64 at h1 h2
  obtain ⟨A, hA⟩ : ∃ A : Nat, (A : Int) = a % 18446744073709551616 := ⟨(a % 18446744073709551616).toNat, by omega⟩
  obtain ⟨B, hB⟩ : ∃ B : Nat, (B : Int) = b % 18446744073709551616 := ⟨(b % 18446744073709551616).toNat, by omega⟩
  have e1 : IntKind.u64.wrap a = (A : Int) := by rw [wrapUi, hA]
  have e2 : IntKind.u64.wrap b = (B : Int) := by rw [wrapUi, hB]
  have M := hid (fun w => Tryz.bits_Mul64 A B (by omega) (by omega) w)
  have hl := prod_lo_nat a b A B hA hB
  have hh := prod_hi_nat A B (by omega) (by omega)
  obtain ⟨H, hH⟩ : ∃ H, A * B / 18446744073709551616 = H := ⟨_, rfl⟩
  rw [hl, hH] at M
  have e3 : IntKind.u64.wrap ((H : Int) - B) = hiW (a * b) := by
    rw [wrapUi, ← prod_np a b A B hA hB ha hb (by omega) (by omega), ← hH, Int.natCast_ediv, Int.natCast_mul]; rfl
  clear hl hA hB hh hH h1 h2
  generalize a * b = p at *
  go_enter Tryz.func43, Tryz.ntmps43
  go_wp2_with fail
  refine (M.out _).mono ?_
  rintro e w1 ⟨rfl, rfl⟩
  go_wp2
  exact bodyPost_ret (v := .agg #[.int .u64 (hiW (p)), .int .u64 (loW (p))]) (by simp [results, Tryz.results43, go_sem]) rfl ⟨rfl, ((Below.refl _ _).alloc (by first | exact Nat.le_refl _ | (simp; done) | (simp; omega) | omega | (simp [World.drewN]; omega)) _)⟩

set_option maxHeartbeats 1000000 in
theorem product_pn (a b : Int) (h1 : I64 a) (h2 : I64 b) (ha : 0 ≤ a) (hb : b < 0) (w : World) :
    Calls Tryz.prog 43 #[.int .i64 a, .int .i64 b] w fun e w' => e = .returned (.agg #[.int .u64 (hiW (a * b)), .int .u64 (loW (a * b))]) ∧ Below w.heap.size w w' := by
  unfold I64 at h1 h2
  obtain ⟨A, hA⟩ : ∃ A : Nat, (A : Int) = a % 18446744073709551616 := ⟨(a % 18446744073709551616).toNat, by omega⟩
  obtain ⟨B, hB⟩ : ∃ B : Nat, (B : Int) = b % 18446744073709551616 := ⟨(b % 18446744073709551616).toNat, by omega⟩
  have e1 : IntKind.u64.wrap a = (A : Int) := by rw [wrapUi, hA]
  have e2 : IntKind.u64.wrap b = (B : Int) := by rw [wrapUi, hB]
  have M := hid (fun w => Tryz.bits_Mul64 A B (by omega) (by omega) w)
  have hl := prod_lo_nat a b A B hA hB
  have hh := prod_hi_nat A B (by omega) (by omega)
  obtain ⟨H, hH⟩ : ∃ H, A * B / 18446744073709551616 = H := ⟨_, rfl⟩
  rw [hl, hH] at M
  have e3 : IntKind.u64.wrap ((H : Int) - A) = hiW (a * b) := by
    rw [wrapUi, ← prod_pn a b A B hA hB ha hb (by omega) (by omega), ← hH, Int.natCast_ediv, Int.natCast_mul]; rfl
  clear hl hA hB hh hH h1 h2
  generalize a * b = p at *
  go_enter Tryz.func43, Tryz.ntmps43
  go_wp2_with fail
  refine (M.out _).mono ?_
  rintro e w1 ⟨rfl, rfl⟩
  go_wp2
  exact bodyPost_ret (v := .agg #[.int .u64 (hiW (p)), .int .u64 (loW (p))]) (by simp [results, Tryz.results43, go_sem]) rfl ⟨rfl, ((Below.refl _ _).alloc (by first | exact Nat.le_refl _ | (simp; done) | (simp; omega) | omega | (simp [World.drewN]; omega)) _)⟩

set_option maxHeartbeats 1000000 in
theorem product_nn (a b : Int) (h1 : I64 a) (h2 : I64 b) (ha : a < 0) (hb : b < 0) (w : World) :
    Calls Tryz.prog 43 #[.int .i64 a, .int .i64 b] w fun e w' => e = .returned (.agg #[.int .u64 (hiW (a * b)), .int .u64 (loW (a * b))]) ∧ Below w.heap.size w w' := by
  unfold I64 at h1 h2
  obtain ⟨A, hA⟩ : ∃ A : Nat, (A : Int) = a % 18446744073709551616 := ⟨(a % 18446744073709551616).toNat, by omega⟩
  obtain ⟨B, hB⟩ : ∃ B : Nat, (B : Int) = b % 18446744073709551616 := ⟨(b % 18446744073709551616).toNat, by omega⟩
  have e1 : IntKind.u64.wrap a = (A : Int) := by rw [wrapUi, hA]
  have e2 : IntKind.u64.wrap b = (B : Int) := by rw [wrapUi, hB]
  have M := hid (fun w => Tryz.bits_Mul64 A B (by omega) (by omega) w)
  have hl := prod_lo_nat a b A B hA hB
  have hh := prod_hi_nat A B (by omega) (by omega)
  obtain ⟨H, hH⟩ : ∃ H, A * B / 18446744073709551616 = H := ⟨_, rfl⟩
  rw [hl, hH] at M
  have e3 : IntKind.u64.wrap (IntKind.u64.wrap ((H : Int) - B) - A) = hiW (a * b) := by
    rw [wrapUi, wrapUi, ← prod_nn a b A B hA hB ha hb (by omega) (by omega), ← hH, Int.natCast_ediv, Int.natCast_mul]; exact Int.emod_sub_emod _ _ _
  clear hl hA hB hh hH h1 h2
  generalize a * b = p at *
  go_enter Tryz.func43, Tryz.ntmps43
  go_wp2_with fail
  refine (M.out _).mono ?_
  rintro e w1 ⟨rfl, rfl⟩
  go_wp2
  exact bodyPost_ret (v := .agg #[.int .u64 (hiW (p)), .int .u64 (loW (p))]) (by simp [results, Tryz.results43, go_sem]) rfl ⟨rfl, ((Below.refl _ _).alloc (by first | exact Nat.le_refl _ | (simp; done) | (simp; omega) | omega | (simp [World.drewN]; omega)) _)⟩

theorem product_any (a b : Int) (h1 : I64 a) (h2 : I64 b) (w : World) :
    Calls Tryz.prog 43 #[.int .i64 a, .int .i64 b] w fun e w' => e = .returned (.agg #[.int .u64 (hiW (a * b)), .int .u64 (loW (a * b))]) ∧ Below w.heap.size w w' := by
  by_cases ha : a < 0
  · by_cases hb : b < 0
    · exact product_nn a b h1 h2 ha hb w
    · exact product_np a b h1 h2 ha (by omega) w
  · by_cases hb : b < 0
    · exact product_pn a b h1 h2 (by omega) hb w
    · exact product_pp a b h1 h2 (by omega) (by omega) w

theorem mul_bd {a b : Int} (h1 : I64 a) (h2 : I64 b) : (a * b).natAbs ≤ 85070591730234615865843651857942052864 := by
  unfold I64 at h1 h2
  rw [Int.natAbs_mul]
  exact Nat.mul_le_mul (show a.natAbs ≤ 9223372036854775808 by omega) (show b.natAbs ≤ 9223372036854775808 by omega)

/-- The fraction that 'rat.fraction' makes, or zero with an error. -/
def fracV (r : Rat) : Value := .agg #[.int .i64 (numR r), .int .i64 (denR r)]
def resV (r : Rat) : Value := .tuple #[.agg #[.int .i64 (numR r), .int .i64 (denR r)], .int .i64 (errR r)]

theorem lo_i64 (m : Int) (h : -4611686018427387904 ≤ m) (h2 : m ≤ 4611686018427387904) : wrap64 (loW m) = m := by unfold wrap64 loW; omega

set_option maxHeartbeats 2000000 in
theorem fraction_pos (n d : Int) (hn : n.natAbs ≤ 85070591730234615865843651857942052864) (hd : d.natAbs ≤ 85070591730234615865843651857942052864) (h0 : 0 < d) (w : World) :
    Calls Tryz.prog 53 #[.agg #[.int .u64 (hiW (n)), .int .u64 (loW (n))], .agg #[.int .u64 (hiW (d)), .int .u64 (loW (d))]] w fun e w' => e = .returned (if decide (n.natAbs ≤ 4611686018427387904) && decide (d.natAbs ≤ 4611686018427387904) then .tuple #[.agg #[.int .i64 n, .int .i64 d], .int .i64 0] else .tuple #[.agg #[.int .i64 0, .int .i64 0], .int .i64 2]) ∧ Below w.heap.size w w' := by
  have fn0 : Fit128 n := by unfold Fit128; omega
  have fd0 : Fit128 d := by unfold Fit128; omega
  have N := hid (fun w => negative_any d fd0 w)
  rw [show decide (d < 0) = false by simp; omega] at N
  have WN := hid (fun w => within_any n 4611686018427387904 fn0 (by omega) w)
  have WD := hid (fun w => within_any d 4611686018427387904 fd0 (by omega) w)
  rw [show decide ((n.natAbs : Int) ≤ 4611686018427387904) = decide (n.natAbs ≤ 4611686018427387904) by rw [decide_eq_decide]; omega] at WN
  rw [show decide ((d.natAbs : Int) ≤ 4611686018427387904) = decide (d.natAbs ≤ 4611686018427387904) by rw [decide_eq_decide]; omega] at WD
  have LN : n.natAbs ≤ 4611686018427387904 → wrap64 (loW n) = n := fun h => lo_i64 n (by omega) (by omega)
  have LD : d.natAbs ≤ 4611686018427387904 → wrap64 (loW d) = d := fun h => lo_i64 d (by omega) (by omega)
  have HLN := hid LN
  have HLD := hid LD
  clear LN LD fn0 fd0 hn hd h0
  have key : ∀ x y : Bool, decide (n.natAbs ≤ 4611686018427387904) = x → decide (d.natAbs ≤ 4611686018427387904) = y → Calls Tryz.prog 53 #[.agg #[.int .u64 (hiW (n)), .int .u64 (loW (n))], .agg #[.int .u64 (hiW (d)), .int .u64 (loW (d))]] w fun e w' => e = .returned (if x && y then .tuple #[.agg #[.int .i64 n, .int .i64 d], .int .i64 0] else .tuple #[.agg #[.int .i64 0, .int .i64 0], .int .i64 2]) ∧ Below w.heap.size w w' := by
    intro x y hx hy
    rw [hx] at WN
    rw [hy] at WD
    have EN : x = true → wrap64 (loW n) = n := fun h => HLN.out (by rw [h] at hx; exact of_decide_eq_true hx)
    have ED : y = true → wrap64 (loW d) = d := fun h => HLD.out (by rw [h] at hy; exact of_decide_eq_true hy)
    clear hx hy HLN HLD
    go_enter Tryz.func53, Tryz.ntmps53
    go_wp2_with fail
    refine (N.out _).mono ?_
    rintro e w1 ⟨rfl, hb⟩
    have hzP : w.heap.size + 3 ≤ w1.heap.size := by have := hb.size; simp at this; omega
    have P0 : ∀ W, Below w1.heap.size w1 W → W.cell? ⟨w.heap.size, 0, none⟩ = some (.int .u64 (hiW n)) ∧ W.cell? ⟨w.heap.size, 1, none⟩ = some (.int .u64 (loW n)) ∧ W.cell? ⟨w.heap.size + 1, 0, none⟩ = some (.int .u64 (hiW d)) ∧ W.cell? ⟨w.heap.size + 1, 1, none⟩ = some (.int .u64 (loW d)) ∧ W.cell? ⟨w.heap.size + 1 + 1, 0, none⟩ = some (.int .i64 0) ∧ W.cell? ⟨w.heap.size + 1 + 1, 1, none⟩ = some (.int .i64 0) ∧ W.frozen? ⟨w.heap.size + 1 + 1, 0, none⟩ = false ∧ W.frozen? ⟨w.heap.size + 1 + 1, 1, none⟩ = false ∧ w1.heap.size ≤ W.heap.size := by
      intro W hW
      exact ⟨cell_below hW (cell_below hb (by simp [go_sem])), cell_below hW (cell_below hb (by simp [go_sem])), cell_below hW (cell_below hb (by simp [go_sem])), cell_below hW (cell_below hb (by simp [go_sem])), cell_below hW (cell_below hb (by simp [go_sem])), cell_below hW (cell_below hb (by simp [go_sem])), (hW.frozen (p := ⟨w.heap.size + 1 + 1, 0, none⟩) (by simp; omega)).trans ((hb.frozen (p := ⟨w.heap.size + 1 + 1, 0, none⟩) (by simp)).trans (by simp [go_sem])), (hW.frozen (p := ⟨w.heap.size + 1 + 1, 1, none⟩) (by simp; omega)).trans ((hb.frozen (p := ⟨w.heap.size + 1 + 1, 1, none⟩) (by simp)).trans (by simp [go_sem])), hW.size⟩
    have P := hid P0
    clear P0
    have HP := hid hb
    clear hb
    obtain ⟨a0, a1, a2, a3, a4, a5, a6, a7, za⟩ := P.out w1 (Below.refl _ _)
    cases x
    · go_wp2_with fail
      refine (WN.out _).mono ?_
      rintro e w2 ⟨rfl, hb⟩
      obtain ⟨b0, b1, b2, b3, b4, b5, b6, b7, zb⟩ := P.out w2 (hb)
      have H2 := hid hb
      clear hb a0 a1 a2 a3 a4 a5 a6 a7
      go_wp2
      exact bodyPost_ret (v := .tuple #[.agg #[.int .i64 0, .int .i64 0], .int .i64 2]) (by simp [results, Tryz.results53, b4, b5, go_sem]) rfl ⟨rfl, ((((((((Below.refl _ _).alloc (by first | exact Nat.le_refl _ | (simp; done) | (simp; omega) | omega | (simp [World.drewN]; omega)) _).alloc (by first | exact Nat.le_refl _ | (simp; done) | (simp; omega) | omega | (simp [World.drewN]; omega)) _).alloc (by first | exact Nat.le_refl _ | (simp; done) | (simp; omega) | omega | (simp [World.drewN]; omega)) _).trans (HP.out.mono (by first | exact Nat.le_refl _ | (simp; done) | (simp; omega) | omega | (simp [World.drewN]; omega)))).trans (H2.out.mono (by first | exact Nat.le_refl _ | (simp; done) | (simp; omega) | omega | (simp [World.drewN]; omega)))).setCell (by first | exact Nat.le_refl _ | (simp; done) | (simp; omega) | omega | (simp [World.drewN]; omega)) _).setCell (by first | exact Nat.le_refl _ | (simp; done) | (simp; omega) | omega | (simp [World.drewN]; omega)) _)⟩
    · have EN' := EN rfl
      cases y
      · go_wp2_with fail
        refine (WN.out _).mono ?_
        rintro e w2 ⟨rfl, hb⟩
        obtain ⟨b0, b1, b2, b3, b4, b5, b6, b7, zb⟩ := P.out w2 (hb)
        have H2 := hid hb
        clear hb a0 a1 a2 a3 a4 a5 a6 a7
        go_wp2_with fail
        refine (WD.out _).mono ?_
        rintro e w3 ⟨rfl, hb⟩
        obtain ⟨c0, c1, c2, c3, c4, c5, c6, c7, zc⟩ := P.out w3 (H2.out.trans (hb.mono zb))
        have H3 := hid hb
        clear hb b0 b1 b2 b3 b4 b5 b6 b7
        go_wp2
        exact bodyPost_ret (v := .tuple #[.agg #[.int .i64 0, .int .i64 0], .int .i64 2]) (by simp [results, Tryz.results53, c4, c5, go_sem]) rfl ⟨rfl, (((((((((Below.refl _ _).alloc (by first | exact Nat.le_refl _ | (simp; done) | (simp; omega) | omega | (simp [World.drewN]; omega)) _).alloc (by first | exact Nat.le_refl _ | (simp; done) | (simp; omega) | omega | (simp [World.drewN]; omega)) _).alloc (by first | exact Nat.le_refl _ | (simp; done) | (simp; omega) | omega | (simp [World.drewN]; omega)) _).trans (HP.out.mono (by first | exact Nat.le_refl _ | (simp; done) | (simp; omega) | omega | (simp [World.drewN]; omega)))).trans (H2.out.mono (by first | exact Nat.le_refl _ | (simp; done) | (simp; omega) | omega | (simp [World.drewN]; omega)))).trans (H3.out.mono (by first | exact Nat.le_refl _ | (simp; done) | (simp; omega) | omega | (simp [World.drewN]; omega)))).setCell (by first | exact Nat.le_refl _ | (simp; done) | (simp; omega) | omega | (simp [World.drewN]; omega)) _).setCell (by first | exact Nat.le_refl _ | (simp; done) | (simp; omega) | omega | (simp [World.drewN]; omega)) _)⟩
      · have ED' := ED rfl
        go_wp2_with fail
        refine (WN.out _).mono ?_
        rintro e w2 ⟨rfl, hb⟩
        obtain ⟨b0, b1, b2, b3, b4, b5, b6, b7, zb⟩ := P.out w2 (hb)
        have H2 := hid hb
        clear hb a0 a1 a2 a3 a4 a5 a6 a7
        go_wp2_with fail
        refine (WD.out _).mono ?_
        rintro e w3 ⟨rfl, hb⟩
        obtain ⟨c0, c1, c2, c3, c4, c5, c6, c7, zc⟩ := P.out w3 (H2.out.trans (hb.mono zb))
        have H3 := hid hb
        clear hb b0 b1 b2 b3 b4 b5 b6 b7
        go_wp2
        exact bodyPost_ret (v := .tuple #[.agg #[.int .i64 n, .int .i64 d], .int .i64 0]) (by simp [results, Tryz.results53, c4, c5, go_sem]) rfl ⟨rfl, (((((((((Below.refl _ _).alloc (by first | exact Nat.le_refl _ | (simp; done) | (simp; omega) | omega | (simp [World.drewN]; omega)) _).alloc (by first | exact Nat.le_refl _ | (simp; done) | (simp; omega) | omega | (simp [World.drewN]; omega)) _).alloc (by first | exact Nat.le_refl _ | (simp; done) | (simp; omega) | omega | (simp [World.drewN]; omega)) _).trans (HP.out.mono (by first | exact Nat.le_refl _ | (simp; done) | (simp; omega) | omega | (simp [World.drewN]; omega)))).trans (H2.out.mono (by first | exact Nat.le_refl _ | (simp; done) | (simp; omega) | omega | (simp [World.drewN]; omega)))).trans (H3.out.mono (by first | exact Nat.le_refl _ | (simp; done) | (simp; omega) | omega | (simp [World.drewN]; omega)))).setCell (by first | exact Nat.le_refl _ | (simp; done) | (simp; omega) | omega | (simp [World.drewN]; omega)) _).setCell (by first | exact Nat.le_refl _ | (simp; done) | (simp; omega) | omega | (simp [World.drewN]; omega)) _)⟩
  exact key _ _ rfl rfl
end Go.Proofs.YtffcnkkgbhhfnaaGreatDoor

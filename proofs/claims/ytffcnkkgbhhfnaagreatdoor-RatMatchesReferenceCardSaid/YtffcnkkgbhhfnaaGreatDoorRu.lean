
import Derived.Test.YtffcnkkgbhhfnaaGreatDoorRt
import Derived.Lib.SmallJoins
import Derived.Lib.AppendIntMem
import Derived.Lib.ItoaLen
import Derived.Laws.Concat
import Derived.Sort.Grow
namespace Go.Proofs.YtffcnkkgbhhfnaaGreatDoor
open Go.RowKit Go.Instr
set_option linter.unusedVariables false

/-! 'rat.Valid', 'rat.Text'. -/
def validB (n d : Int) : Bool := (nE n d == 0) && ((n == nN n d) && (d == nD n d))

theorem valid_iff (n d : Int) : validB n d = true ↔ Fr n d := by
  unfold validB
  constructor
  · intro h
    simp only [Bool.and_eq_true, beq_iff_eq] at h
    obtain ⟨h1, h2, h3⟩ := h
    have := nE_zero h1
    rw [← h2, ← h3] at this
    exact this
  · intro h
    have hd := h.ne
    simp only [Bool.and_eq_true, beq_iff_eq]
    unfold nE nN nD
    rw [if_neg hd, if_neg hd, if_neg hd, fr_errR h, fr_numR h, fr_denR h]
    exact ⟨rfl, rfl, rfl⟩

set_option maxHeartbeats 2000000 in
theorem valid_any (n d : Int) (h1 : I64 n) (h2 : I64 d) (w : World) :
    Calls Tryz.prog 7 #[.agg #[.int .i64 n, .int .i64 d]] w fun e w' => e = .returned (.bool (validB n d)) ∧ Below w.heap.size w w' := by
  have C := hid (fun w => new_any n d h1 h2 w)
  rw [newV_eq] at C
  have key : ∀ N D E : Int, nN n d = N → nD n d = D → nE n d = E → Calls Tryz.prog 7 #[.agg #[.int .i64 n, .int .i64 d]] w fun e w' => e = .returned (.bool ((E == 0) && ((n == N) && (d == D)))) ∧ Below w.heap.size w w' := by
    intro N D E hN hD hE
    rw [hN, hD, hE] at C
    clear hN hD hE h1 h2
    cases x1 : E == 0
    · go_enter Tryz.func7, Tryz.ntmps7
      go_wp2_with fail
      refine (C.out _).mono ?_
      rintro e w1 ⟨rfl, hb⟩
      have hzP : w.heap.size + 1 ≤ w1.heap.size := by have := hb.size; simp at this; omega
      have P0 : ∀ W, Below w1.heap.size w1 W → W.cell? ⟨w.heap.size, 0, none⟩ = some (.int .i64 n) ∧ W.cell? ⟨w.heap.size, 1, none⟩ = some (.int .i64 d) ∧ w1.heap.size ≤ W.heap.size := by
        intro W hW
        exact ⟨cell_below hW (cell_below hb (by simp [go_sem])), cell_below hW (cell_below hb (by simp [go_sem])), hW.size⟩
      have P := hid P0
      clear P0
      have HP := hid hb
      clear hb
      go_wp2
      go_ret
      exact ⟨rfl, ((((Below.refl _ _).alloc (by first | exact Nat.le_refl _ | (simp; done) | (simp; omega) | omega | (simp [World.drewN]; omega)) _).trans (HP.out.mono (by first | exact Nat.le_refl _ | (simp; done) | (simp; omega) | omega | (simp [World.drewN]; omega)))).alloc (by first | exact Nat.le_refl _ | (simp; done) | (simp; omega) | omega | (simp [World.drewN]; omega)) _)⟩
    · cases x2 : n == N
      · go_enter Tryz.func7, Tryz.ntmps7
        go_wp2_with fail
        refine (C.out _).mono ?_
        rintro e w1 ⟨rfl, hb⟩
        have hzP : w.heap.size + 1 ≤ w1.heap.size := by have := hb.size; simp at this; omega
        have P0 : ∀ W, Below w1.heap.size w1 W → W.cell? ⟨w.heap.size, 0, none⟩ = some (.int .i64 n) ∧ W.cell? ⟨w.heap.size, 1, none⟩ = some (.int .i64 d) ∧ w1.heap.size ≤ W.heap.size := by
          intro W hW
          exact ⟨cell_below hW (cell_below hb (by simp [go_sem])), cell_below hW (cell_below hb (by simp [go_sem])), hW.size⟩
        have P := hid P0
        clear P0
        have HP := hid hb
        clear hb
        have k0 := fun o => (P.out (w1.alloc o) (below_a (Below.refl _ _) o)).1
        have k1 := fun o => (P.out (w1.alloc o) (below_a (Below.refl _ _) o)).2.1
        go_wp2
        go_ret
        exact ⟨rfl, ((((Below.refl _ _).alloc (by first | exact Nat.le_refl _ | (simp; done) | (simp; omega) | omega | (simp [World.drewN]; omega)) _).trans (HP.out.mono (by first | exact Nat.le_refl _ | (simp; done) | (simp; omega) | omega | (simp [World.drewN]; omega)))).alloc (by first | exact Nat.le_refl _ | (simp; done) | (simp; omega) | omega | (simp [World.drewN]; omega)) _)⟩
      · cases x3 : d == D
        all_goals
          go_enter Tryz.func7, Tryz.ntmps7
          go_wp2_with fail
          refine (C.out _).mono ?_
          rintro e w1 ⟨rfl, hb⟩
          have hzP : w.heap.size + 1 ≤ w1.heap.size := by have := hb.size; simp at this; omega
          have P0 : ∀ W, Below w1.heap.size w1 W → W.cell? ⟨w.heap.size, 0, none⟩ = some (.int .i64 n) ∧ W.cell? ⟨w.heap.size, 1, none⟩ = some (.int .i64 d) ∧ w1.heap.size ≤ W.heap.size := by
            intro W hW
            exact ⟨cell_below hW (cell_below hb (by simp [go_sem])), cell_below hW (cell_below hb (by simp [go_sem])), hW.size⟩
          have P := hid P0
          clear P0
          have HP := hid hb
          clear hb
          have k0 := fun o => (P.out (w1.alloc o) (below_a (Below.refl _ _) o)).1
          have k1 := fun o => (P.out (w1.alloc o) (below_a (Below.refl _ _) o)).2.1
          go_wp2
          go_ret
          exact ⟨rfl, ((((Below.refl _ _).alloc (by first | exact Nat.le_refl _ | (simp; done) | (simp; omega) | omega | (simp [World.drewN]; omega)) _).trans (HP.out.mono (by first | exact Nat.le_refl _ | (simp; done) | (simp; omega) | omega | (simp [World.drewN]; omega)))).alloc (by first | exact Nat.le_refl _ | (simp; done) | (simp; omega) | omega | (simp [World.drewN]; omega)) _)⟩
  exact key _ _ _ rfl rfl rfl

/-- What is asked of the library's variables. -/
def Glob (w : World) : Prop := (∃ m : Int, w.cell? ⟨3, 0, none⟩ = some (.int .i64 m)) ∧ Lib.TabIs Tryz.prog w "internal/strconv.uint64pow10" .u64 Lib.pow10Tab
theorem glob_below {w w' : World} (h : Below w.heap.size w w') (g : Glob w) : Glob w' := by
  obtain ⟨⟨m, hm⟩, ht⟩ := g
  exact ⟨⟨m, cell_below h hm⟩, Lib.tabBelow_of_tabIs ht w' h⟩

theorem below_grow (w : World) (os : Array Obj) : Below w.heap.size w (Sort.grow w os) :=
  ⟨rfl, rfl, rfl, by simp [Sort.grow], fun k hk => by simp only [Sort.grow]; rw [Array.getElem?_append_left hk]⟩

theorem itoa_any (n : Int) (h : I64 n) (w : World) (g : Glob w) :
    Calls Tryz.prog 46 #[.int .i64 n] w fun e w' => e = .returned (.string ⟨(Lib.itoa n).toArray⟩) ∧ Below w.heap.size w w' := by
  refine (Tryz.strconv_Itoa n h.1 h.2 w g.2).mono ?_
  rintro e w' ⟨rfl, k, os, rfl⟩
  exact ⟨rfl, (below_drewN (Below.refl _ _) k).trans (below_grow (w.drewN k) os)⟩

set_option maxHeartbeats 1000000 in
theorem text_one (n : Int) (h : I64 n) (w : World) (g : Glob w) :
    Calls Tryz.prog 24 #[.agg #[.int .i64 n, .int .i64 1]] w fun e w' => e = .returned (.string ⟨(Lib.itoa n).toArray⟩) ∧ Below w.heap.size w w' := by
  have G := hid (glob_below ((Below.refl w.heap.size w).alloc (Nat.le_refl _) (.cells #[.int .i64 n, .int .i64 1] 25)) g)
  have H := hid h
  clear g h
  go_enter Tryz.func24, Tryz.ntmps24
  go_wp2_with fail
  refine (itoa_any n H.out _ G.out).mono ?_
  rintro e w1 ⟨rfl, hb⟩
  have HB := hid hb
  clear hb
  go_wp2
  go_ret
  exact ⟨rfl, (((Below.refl _ _).alloc (by first | exact Nat.le_refl _ | (simp; done) | (simp; omega) | omega | (simp [World.drewN]; omega)) _).trans (HB.out.mono (by first | exact Nat.le_refl _ | (simp; done) | (simp; omega) | omega | (simp [World.drewN]; omega))))⟩

set_option maxHeartbeats 2000000 in
theorem text_two (n d : Int) (h : I64 n) (h2 : I64 d) (hd : d ≠ 1) (w : World) (g : Glob w) :
    Calls Tryz.prog 24 #[.agg #[.int .i64 n, .int .i64 d]] w fun e w' => e = .returned (.string ⟨(Lib.itoa n ++ [47] ++ Lib.itoa d).toArray⟩) ∧ Below w.heap.size w w' := by
  have x1 : (d == 1) = false := by simpa using hd
  have g1 := glob_below ((Below.refl w.heap.size w).alloc (Nat.le_refl _) (.cells #[.int .i64 n, .int .i64 d] 25)) g
  have I1 := hid (fun w g => itoa_any n h w g)
  have I2 := hid (fun w g => itoa_any d h2 w g)
  obtain ⟨s1, e1⟩ : ∃ s : ByteArray, (⟨(Lib.itoa n).toArray⟩ : ByteArray) = s := ⟨_, rfl⟩
  obtain ⟨s2, e2⟩ : ∃ s : ByteArray, (⟨(Lib.itoa d).toArray⟩ : ByteArray) = s := ⟨_, rfl⟩
  have l1 : s1.size ≤ 21 := by rw [← e1]; simpa [ByteArray.size] using Lib.itoa_length_le n h.1 h.2
  have l2 : s2.size ≤ 21 := by rw [← e2]; simpa [ByteArray.size] using Lib.itoa_length_le d h2.1 h2.2
  have er : (⟨(Lib.itoa n ++ [47] ++ Lib.itoa d).toArray⟩ : ByteArray) = s1 ++ (⟨#[47]⟩ : ByteArray) ++ s2 := by
    rw [← e1, ← e2]
    apply ByteArray.ext
    simp [ByteArray.data_append]
  rw [er]
  rw [e1] at I1
  rw [e2] at I2
  have n1 : ¬ 9223372036854775807 ≤ s1.size := by omega
  have n2 : ¬ 9223372036854775807 < s1.size + 1 + s2.size := by omega
  have n3 : ¬ 9223372036854775807 < s1.size + 1 := by omega
  have n4 : s1.size + 1 ≤ 9223372036854775807 := by omega
  have n5 : s1.size < 9223372036854775807 := by omega
  have n6 : s1.size + 1 + s2.size ≤ 9223372036854775807 := by omega
  clear g h h2 hd e1 e2 er
  go_enter Tryz.func24, Tryz.ntmps24
  go_upto_region 3 with fail
  generalize hwA : w.alloc (.cells #[.int .i64 n, .int .i64 d] 25) = wA at *
  have hA : Below w.heap.size w wA := by rw [← hwA]; exact ((Below.refl _ _).alloc (by first | exact Nat.le_refl _ | (simp; done) | (simp; omega) | omega | (simp [World.drewN]; omega)) _)
  have a0 : wA.cell? ⟨w.heap.size, 0, none⟩ = some (.int .i64 n) := by rw [← hwA]; simp [go_sem]
  have a1 : wA.cell? ⟨w.heap.size, 1, none⟩ = some (.int .i64 d) := by rw [← hwA]; simp [go_sem]
  have HA := hid hA
  have G := hid g1
  clear hwA hA g1
  have hs := Below.refl wA.heap.size wA
  have hsd := hs.drew
  go_region_held3 (fun W => W.cell? ⟨w.heap.size, 0, none⟩ = some (.int .i64 n) ∧ W.cell? ⟨w.heap.size, 1, none⟩ = some (.int .i64 d) ∧ Below wA.heap.size wA W)
    (first | (with_reducible exact ⟨a0, a1, hs⟩) | (with_reducible exact ⟨cell_below hsd a0, cell_below hsd a1, hsd⟩) | (with_reducible exact ⟨cell_below (by with_reducible assumption) a0, cell_below (by with_reducible assumption) a1, by with_reducible assumption⟩) | fail)
    (first
      | (go_at_call_of 46 (Value.int IntKind.i64 n); (with_reducible refine (I1.out _ (glob_below (by with_reducible assumption) G.out)).mono ?_); rintro e y1 ⟨rfl, hy1⟩; have hs1 : Below wA.heap.size wA y1 := below_step (by with_reducible assumption) hy1)
      | (go_at_call_of 46 (Value.int IntKind.i64 d); (with_reducible refine (I2.out _ (glob_below (by with_reducible assumption) G.out)).mono ?_); rintro e y2 ⟨rfl, hy2⟩; have hs2 : Below wA.heap.size wA y2 := below_step (by with_reducible assumption) hy2))
  all_goals
    go_wp2_with fail
    go_ret
    exact ⟨rfl, below_step HA.out (by assumption)⟩
end Go.Proofs.YtffcnkkgbhhfnaaGreatDoor

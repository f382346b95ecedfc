
import Derived.Test.YtffcnkkgbhhfnaaGreatDoorRc
namespace Go.Proofs.YtffcnkkgbhhfnaaGreatDoor
open Go.RowKit Go.Instr
set_option linter.unusedVariables false

/-! 'Sum' of every list. -/
theorem addR {aN aD bN bD N D E : Int} (a : Fr aN aD) (b : Fr bN bD) (h : Trip (Rat.divInt aN aD + Rat.divInt bN bD) N D E) (w : World) :
    Calls Tryz.prog 33 #[.agg #[.int .i64 aN, .int .i64 aD], .agg #[.int .i64 bN, .int .i64 bD]] w fun e w' => e = .returned (.tuple #[.agg #[.int .i64 N, .int .i64 D], .int .i64 E]) ∧ Below w.heap.size w w' := by
  obtain ⟨rfl, rfl, rfl⟩ := h
  exact addF a b w
/-- The list of fractions lies in the memory. -/
def FracsAt (w : World) (l : List (Int × Int)) (b off : Nat) : Prop := ∀ i, i < l.length → w.cell? ⟨b, off + i * 2, none⟩ = some (.int .i64 (l.getD i (0, 0)).1) ∧ w.cell? ⟨b, off + i * 2 + 1, none⟩ = some (.int .i64 (l.getD i (0, 0)).2)
theorem FracsAt.below {w w' : World} {l : List (Int × Int)} {b off : Nat} (h : FracsAt w l b off) (hb : Below w.heap.size w w') : FracsAt w' l b off :=
  fun i hi => ⟨cell_below hb (h i hi).1, cell_below hb (h i hi).2⟩
/-- What the fold answers. -/
def sumG : Int → Int → List (Int × Int) → Int × Int × Int
  | N, D, [] => (N, D, 0)
  | N, D, p :: r => if errR (Rat.divInt N D + Rat.divInt p.1 p.2) = 0 then sumG (numR (Rat.divInt N D + Rat.divInt p.1 p.2)) (denR (Rat.divInt N D + Rat.divInt p.1 p.2)) r else (0, 0, 2)
theorem sumG_step {N D : Int} {l : List (Int × Int)} {k : Nat} (h : k < l.length) {N' D' E' : Int} (T : Trip (Rat.divInt N D + Rat.divInt (l.getD k (0, 0)).1 (l.getD k (0, 0)).2) N' D' E') : sumG N D (l.drop k) = if E' = 0 then sumG N' D' (l.drop (k + 1)) else (0, 0, 2) := by
  obtain ⟨rfl, rfl, rfl⟩ := T
  have e : l.drop k = l.getD k (0, 0) :: l.drop (k + 1) := by
    rw [List.drop_eq_getElem_cons h, List.getD_eq_getElem?_getD, List.getElem?_eq_getElem h]; rfl
  rw [e]
  rfl
def sumV (l : List (Int × Int)) : Value := .tuple #[.agg #[.int .i64 (sumG 0 1 l).1, .int .i64 (sumG 0 1 l).2.1], .int .i64 (sumG 0 1 l).2.2]
/-- What holds at the head of each round. -/
structure SumAt (w : World) (N D : Int) (wr : World) : Prop where
  n : wr.cell? ⟨w.heap.size + 1, 0, none⟩ = some (.int .i64 N)
  d : wr.cell? ⟨w.heap.size + 1, 1, none⟩ = some (.int .i64 D)
  x : wr.cell? ⟨w.heap.size, 0, none⟩ = some (.int .i64 0)
  y : wr.cell? ⟨w.heap.size, 1, none⟩ = some (.int .i64 0)
  fn : wr.frozen? ⟨w.heap.size + 1, 0, none⟩ = false
  fd : wr.frozen? ⟨w.heap.size + 1, 1, none⟩ = false
  fx : wr.frozen? ⟨w.heap.size, 0, none⟩ = false
  fy : wr.frozen? ⟨w.heap.size, 1, none⟩ = false
  z : w.heap.size + 2 ≤ wr.heap.size
  b : Below w.heap.size w wr

set_option maxHeartbeats 4000000 in
set_option maxRecDepth 100000 in
theorem sum_any (l : List (Int × Int)) (b off cap : Nat) (w : World) (hl : l.length ≤ cap) (hm : l.length ≤ 1000000) (h : FracsAt w l b off) (hr : ∀ p ∈ l, Fr p.1 p.2) :
    Calls Tryz.prog 45 #[.slice (some ⟨b, off, none⟩) l.length cap] w fun e w' => e = .returned (sumV l) ∧ Below w.heap.size w w' := by
  go_enter Tryz.func45, Tryz.ntmps45
  have H := hid h
  have HR := hid hr
  clear h hr
  go_wp2
  go_loopw [11] (fun i wr => ∃ (k : Nat) (N D : Int), k ≤ l.length ∧ i = .int .i64 k ∧ Fr N D ∧ sumG N D (l.drop k) = sumG 0 1 l ∧ SumAt w N D wr) (fun i _ => l.length - (intOf i).toNat)
  case atStart =>
    exact ⟨0, 0, 1, Nat.zero_le _, rfl, fr_zero, rfl, ⟨by simp [go_sem], by simp [go_sem], by simp [go_sem], by simp [go_sem], by simp [go_sem], by simp [go_sem], by simp [go_sem], by simp [go_sem], by simp, below_a (below_a (Below.refl _ _) _) _⟩⟩
  case round =>
    obtain ⟨k, N, D, hk, rfl, fr, hs, hA⟩ := hrel
    by_cases hlt : k < l.length
    · have q := H.out k hlt
      have fk : Fr (l.getD k (0, 0)).1 (l.getD k (0, 0)).2 := HR.out _ (by rw [List.getD_eq_getElem?_getD, List.getElem?_eq_getElem hlt]; exact List.getElem_mem hlt)
      obtain ⟨N', D', E', T⟩ := trip_ex (Rat.divInt N D + Rat.divInt (l.getD k (0, 0)).1 (l.getD k (0, 0)).2)
      have st := sumG_step hlt T
      rw [hs] at st
      have AC := hid (fun w => addR fr fk T w)
      have TC := hid (trip_cases T)
      generalize (l.getD k (0, 0)).1 = n at *
      generalize (l.getD k (0, 0)).2 = d at *
      have ST := hid st
      have HA := hid hA
      clear fr fk T st hs hA
      have e0 := fun o => cell_below (below_a HA.out.b o) q.1
      have e1 := fun o => cell_below (below_a HA.out.b o) q.2
      have e2 := cell_below HA.out.b q.1
      have e3 := cell_below HA.out.b q.2
      have g0 := fun o => cell_below (below_a (Below.refl wr.heap.size wr) o) HA.out.n
      have g1 := fun o => cell_below (below_a (Below.refl wr.heap.size wr) o) HA.out.d
      clear q
      go_wp2_with fail
      refine (AC.out _).mono ?_
      rintro e v ⟨rfl, hb⟩
      have hv := hid (below_step (below_a (Below.refl wr.heap.size wr) _) hb)
      clear hb e0 e1 e2 e3 g0 g1
      have z := HA.out.z
      have zv := hv.out.size
      have c0 := cell_below hv.out HA.out.n
      have c1 := cell_below hv.out HA.out.d
      have c2 := cell_below hv.out HA.out.x
      have c3 := cell_below hv.out HA.out.y
      have f0 := (hv.out.frozen (p := ⟨w.heap.size + 1, 0, none⟩) (by simp; omega)).trans HA.out.fn
      have f1 := (hv.out.frozen (p := ⟨w.heap.size + 1, 1, none⟩) (by simp; omega)).trans HA.out.fd
      have f2 := (hv.out.frozen (p := ⟨w.heap.size, 0, none⟩) (by simp; omega)).trans HA.out.fx
      have f3 := (hv.out.frozen (p := ⟨w.heap.size, 1, none⟩) (by simp; omega)).trans HA.out.fy
      have hB := hid (below_step HA.out.b hv.out)
      have Z := hid (show w.heap.size + 2 ≤ v.heap.size by omega)
      clear z zv
      rcases TC.out with ⟨hE, fr, -⟩ | ⟨hE, -, -⟩
      · have t0 : (E' == 0) = true := by rw [hE]; rfl
        have t1 : (E' != 0) = false := by rw [hE]; rfl
        have ST2 := hid (show sumG 0 1 l = sumG N' D' (l.drop (k + 1)) by rw [ST.out, if_pos hE])
        have FR := hid fr
        clear hE fr ST TC
        go_wp2_with fail
        go_roundw
        case rel => exact ⟨k + 1, N', D', by omega, by go_num, FR.out, ST2.out.symm, ⟨by simp [go_sem, c0, c1], by simp [go_sem, c0, c1], by simp [go_sem, c2, c3], by simp [go_sem, c2, c3], by simp [go_sem, f0], by simp [go_sem, f1], by simp [go_sem, f2], by simp [go_sem, f3], by simp; exact Z.out, (hB.out.setCell (by simp) _).setCell (by simp) _⟩⟩
        case measure => simp [intOf]; omega
      · have t0 : (E' == 0) = false := by rw [hE]; rfl
        have t1 : (E' != 0) = true := by rw [hE]; rfl
        have ST2 := hid (show sumG 0 1 l = (0, 0, 2) by rw [ST.out, if_neg (by rw [hE]; decide)])
        have HE := hid hE
        clear hE ST TC
        go_wp2_with fail
        exact bodyPost_ret (v := .tuple #[.agg #[.int .i64 0, .int .i64 0], .int .i64 E']) (by simp [results, Tryz.results45, go_sem, c2, c3]) rfl ⟨by unfold sumV; rw [ST2.out, HE.out], (((hB.out.setCell (by simp) _).setCell (by simp) _).setCell (by simp) _).setCell (by simp) _⟩
    · have HK := hid (show k = l.length by omega)
      have g0 := hA.n
      have g1 := hA.d
      have g2 := hA.x
      have g3 := hA.y
      have f2 := hA.fx
      have f3 := hA.fy
      have HS := hid hs
      have HA := hid hA
      clear hs hA fr
      go_wp2_with fail
      exact bodyPost_ret (v := .tuple #[.agg #[.int .i64 N, .int .i64 D], .int .i64 0]) (by simp [results, Tryz.results45, go_sem, g2, g3]) rfl ⟨by unfold sumV; rw [← HS.out, HK.out, List.drop_length]; rfl, ((HA.out.b.setCell (by simp) _).setCell (by simp) _)⟩

set_option maxHeartbeats 1000000 in
theorem total_at (s : Value) (N D E : Int) (w : World) (C : ∀ W : World, Below w.heap.size w W → Calls Tryz.prog 45 #[s] W fun e w' => e = .returned (.tuple #[.agg #[.int .i64 N, .int .i64 D], .int .i64 E]) ∧ Below W.heap.size W w') :
    Calls Tryz.prog 20 #[s] w fun e w' => e = .returned (.agg #[.int .i64 N, .int .i64 D, .int .i64 E]) ∧ Below w.heap.size w w' := by
  have C := hid C
  go_enter Tryz.func20, Tryz.ntmps20
  go_wp2_with fail
  refine (C.out _ (below_a (Below.refl _ _) _)).mono ?_
  rintro e w1 ⟨rfl, hb⟩
  have hzP : w.heap.size + 1 ≤ w1.heap.size := by have := hb.size; simp at this; omega
  have P0 : ∀ W, Below w1.heap.size w1 W → W.cell? ⟨w.heap.size, 0, none⟩ = some (.int .i64 0) ∧ W.cell? ⟨w.heap.size, 1, none⟩ = some (.int .i64 0) ∧ W.cell? ⟨w.heap.size, 2, none⟩ = some (.int .i64 0) ∧ W.frozen? ⟨w.heap.size, 0, none⟩ = false ∧ W.frozen? ⟨w.heap.size, 1, none⟩ = false ∧ W.frozen? ⟨w.heap.size, 2, none⟩ = false ∧ w1.heap.size ≤ W.heap.size := by
    intro W hW
    exact ⟨cell_below hW (cell_below hb (by simp [go_sem])), cell_below hW (cell_below hb (by simp [go_sem])), cell_below hW (cell_below hb (by simp [go_sem])), (hW.frozen (p := ⟨w.heap.size, 0, none⟩) (by simp; omega)).trans ((hb.frozen (p := ⟨w.heap.size, 0, none⟩) (by first | (simp; done) | (simp; omega))).trans (by simp [go_sem])), (hW.frozen (p := ⟨w.heap.size, 1, none⟩) (by simp; omega)).trans ((hb.frozen (p := ⟨w.heap.size, 1, none⟩) (by first | (simp; done) | (simp; omega))).trans (by simp [go_sem])), (hW.frozen (p := ⟨w.heap.size, 2, none⟩) (by simp; omega)).trans ((hb.frozen (p := ⟨w.heap.size, 2, none⟩) (by first | (simp; done) | (simp; omega))).trans (by simp [go_sem])), hW.size⟩
  have P := hid P0
  clear P0
  have HP := hid hb
  clear hb
  have K := fun o => P.out (w1.alloc o) (below_a (Below.refl _ _) o)
  have k0 := fun o => (K o).1
  have k1 := fun o => (K o).2.1
  have k2 := fun o => (K o).2.2.1
  have k3 := fun o => (K o).2.2.2.1
  have k4 := fun o => (K o).2.2.2.2.1
  have k5 := fun o => (K o).2.2.2.2.2.1
  clear K
  go_wp2
  exact bodyPost_ret (v := .agg #[.int .i64 N, .int .i64 D, .int .i64 E]) (by simp [results, Tryz.results20, k0, k1, k2, go_sem]) rfl ⟨rfl, (((((((Below.refl _ _).alloc (by first | exact Nat.le_refl _ | (simp; done) | (simp; omega) | omega | (simp [World.drewN]; omega)) _).trans (HP.out.mono (by first | exact Nat.le_refl _ | (simp; done) | (simp; omega) | omega | (simp [World.drewN]; omega)))).alloc (by first | exact Nat.le_refl _ | (simp; done) | (simp; omega) | omega | (simp [World.drewN]; omega)) _).setCell (by first | exact Nat.le_refl _ | (simp; done) | (simp; omega) | omega | (simp [World.drewN]; omega)) _).setCell (by first | exact Nat.le_refl _ | (simp; done) | (simp; omega) | omega | (simp [World.drewN]; omega)) _).setCell (by first | exact Nat.le_refl _ | (simp; done) | (simp; omega) | omega | (simp [World.drewN]; omega)) _)⟩
def sumN (l : List (Int × Int)) : Int := (sumG 0 1 l).1
def sumD (l : List (Int × Int)) : Int := (sumG 0 1 l).2.1
def sumE (l : List (Int × Int)) : Int := (sumG 0 1 l).2.2
theorem total_lies (l : List (Int × Int)) (b off cap : Nat) (w : World) (hl : l.length ≤ cap) (hm : l.length ≤ 1000000) (h : FracsAt w l b off) (hr : ∀ p ∈ l, Fr p.1 p.2) :
    Calls Tryz.prog 20 #[.slice (some ⟨b, off, none⟩) l.length cap] w fun e w' => e = .returned (.agg #[.int .i64 (sumN l), .int .i64 (sumD l), .int .i64 (sumE l)]) ∧ Below w.heap.size w w' :=
  total_at _ _ _ _ w (fun W hW => sum_any l b off cap W hl hm (h.below hW) hr)
/-- A sum is a fraction, or too big. -/
theorem sumG_cases : ∀ (l : List (Int × Int)) (N D : Int), Fr N D → (∀ p ∈ l, Fr p.1 p.2) → ((sumG N D l).2.2 = 0 ∧ Fr (sumG N D l).1 (sumG N D l).2.1) ∨ ((sumG N D l).2.2 = 2 ∧ (sumG N D l).1 = 0 ∧ (sumG N D l).2.1 = 0) := by
  intro l
  induction l with
  | nil => intro N D h _; exact Or.inl ⟨rfl, h⟩
  | cons p r ih =>
    intro N D h hr
    unfold sumG
    by_cases e : errR (Rat.divInt N D + Rat.divInt p.1 p.2) = 0
    · rw [if_pos e]
      rcases trip_cases (N := numR (Rat.divInt N D + Rat.divInt p.1 p.2)) (D := denR (Rat.divInt N D + Rat.divInt p.1 p.2)) (E := errR (Rat.divInt N D + Rat.divInt p.1 p.2)) ⟨rfl, rfl, rfl⟩ with ⟨_, f, _⟩ | ⟨k, _⟩
      · exact ih _ _ f (fun q hq => hr q (List.mem_cons_of_mem _ hq))
      · rw [e] at k; exact absurd k (by decide)
    · rw [if_neg e]
      exact Or.inr ⟨rfl, rfl, rfl⟩
theorem sum_cases (l : List (Int × Int)) (hr : ∀ p ∈ l, Fr p.1 p.2) : (sumE l = 0 ∧ Fr (sumN l) (sumD l)) ∨ (sumE l = 2 ∧ sumN l = 0 ∧ sumD l = 0) := sumG_cases l 0 1 fr_zero hr
end Go.Proofs.YtffcnkkgbhhfnaaGreatDoor


import Derived.Test.YtffcnkkgbhhfnaaGreatDoorRn
namespace Go.Proofs.YtffcnkkgbhhfnaaGreatDoor
open Go.RowKit Go.Instr
set_option linter.unusedVariables false

theorem add_bd {a b c d : Int} (h1 : -4611686018427387904 ≤ a ∧ a ≤ 4611686018427387904) (h2 : -4611686018427387904 ≤ b ∧ b ≤ 4611686018427387904) (h3 : -4611686018427387904 ≤ c ∧ c ≤ 4611686018427387904) (h4 : -4611686018427387904 ≤ d ∧ d ≤ 4611686018427387904) :
    (a * b + c * d).natAbs ≤ 85070591730234615865843651857942052864 := by
  have e1 : (a * b).natAbs ≤ 4611686018427387904 * 4611686018427387904 := by
    rw [Int.natAbs_mul]
    exact Nat.mul_le_mul (show a.natAbs ≤ 4611686018427387904 by omega) (show b.natAbs ≤ 4611686018427387904 by omega)
  have e2 : (c * d).natAbs ≤ 4611686018427387904 * 4611686018427387904 := by
    rw [Int.natAbs_mul]
    exact Nat.mul_le_mul (show c.natAbs ≤ 4611686018427387904 by omega) (show d.natAbs ≤ 4611686018427387904 by omega)
  generalize a * b = p at *
  generalize c * d = q at *
  omega

def Big (n : Int) : Prop := -4611686018427387904 ≤ n ∧ n ≤ 4611686018427387904
theorem Big.i64 {n : Int} (h : Big n) : I64 n := by unfold Big at h; unfold I64; omega

/-- What is known of a block of two cells. -/
def Two (m : Nat) (a b : Value) (y : World) : Prop := y.cell? ⟨m, 0, none⟩ = some a ∧ y.cell? ⟨m, 1, none⟩ = some b ∧ y.frozen? ⟨m, 0, none⟩ = false ∧ y.frozen? ⟨m, 1, none⟩ = false ∧ m < y.heap.size
theorem two_new {y y' : World} {a b : Value} {T : TypeId} (h : Below (y.alloc (.cells #[a, b] T)).heap.size (y.alloc (.cells #[a, b] T)) y') : Two y.heap.size a b y' :=
  ⟨cell_below h (by simp [go_sem]), cell_below h (by simp [go_sem]), (h.frozen (p := ⟨y.heap.size, 0, none⟩) (by simp)).trans (by simp [go_sem]), (h.frozen (p := ⟨y.heap.size, 1, none⟩) (by simp)).trans (by simp [go_sem]), by have := h.size; simp at this; omega⟩
theorem two_old {y y' : World} {a b : Value} {m : Nat} (h : Below y.heap.size y y') (k : Two m a b y) : Two m a b y' :=
  ⟨cell_below h k.1, cell_below h k.2.1, (h.frozen (p := ⟨m, 0, none⟩) k.2.2.2.2).trans k.2.2.1, (h.frozen (p := ⟨m, 1, none⟩) k.2.2.2.2).trans k.2.2.2.1, Nat.lt_of_lt_of_le k.2.2.2.2 h.size⟩
theorem undrew {B : Nat} {a w : World} (h : Below B a.drew w) : Below B a w := ⟨h.os, h.tape, h.output, h.size, h.block⟩
theorem set2_other (W : World) (B m o : Nat) (x y : Value) (h : B ≠ m) : ((W.setCell ⟨B, 0, none⟩ x).setCell ⟨B, 1, none⟩ y).cell? ⟨m, o, none⟩ = W.cell? ⟨m, o, none⟩ := by
  refine (World.cell?_setCell_other _ _ _ _ (fun h' => h (congrArg Addr.block h'))).trans (World.cell?_setCell_other _ _ _ _ (fun h' => h (congrArg Addr.block h')))
theorem below_a {w w' : World} (h : Below w.heap.size w w') (o : Obj) : Below w.heap.size w (w'.alloc o) := h.alloc h.size o

set_option maxHeartbeats 8000000 in
theorem add_any (aN aD bN bD : Int) (h1 : Big aN) (h2 : Big aD) (h3 : Big bN) (h4 : Big bD) (ha : aD ≠ 0) (hb0 : bD ≠ 0) (ca : Nat.gcd aN.natAbs aD.natAbs = 1) (cb : Nat.gcd bN.natAbs bD.natAbs = 1) (w : World) :
    Calls Tryz.prog 33 #[.agg #[.int .i64 aN, .int .i64 aD], .agg #[.int .i64 bN, .int .i64 bD]] w fun e w' =>
      e = .returned (.tuple #[.agg #[.int .i64 (numR (Rat.divInt aN aD + Rat.divInt bN bD)), .int .i64 (denR (Rat.divInt aN aD + Rat.divInt bN bD))], .int .i64 (errR (Rat.divInt aN aD + Rat.divInt bN bD))]) ∧ Below w.heap.size w w' := by
  have x1 : (aD == 0) = false := by simpa using ha
  have x2 : (bD == 0) = false := by simpa using hb0
  obtain ⟨g, hg⟩ : ∃ g, g = Nat.gcd aD.natAbs bD.natAbs := ⟨_, rfl⟩
  obtain ⟨n1, hn1⟩ : ∃ n, n = (aN * bD + bN * aD).tdiv g := ⟨_, rfl⟩
  obtain ⟨h, hh⟩ : ∃ h, h = Nat.gcd g (n1.natAbs % g) := ⟨_, rfl⟩
  obtain ⟨m1, m2, m3, m4, m5⟩ := add_low aN aD bN bD ha hb0 ca cb g h n1 hg hn1 hh
  have gle : g ≤ 4611686018427387904 := by
    have := Nat.gcd_le_right aD.natAbs (show 0 < bD.natAbs by omega)
    unfold Big at h4; omega
  have hle : h ≤ 4611686018427387904 := by
    have := Nat.gcd_le_left (n1.natAbs % g) m1
    omega
  have bn0 := add_bd h1 h4 h3 h2
  have bd0 := mul_bd h2.i64 h4.i64
  have bn1 := tdiv_le _ g _ bn0
  rw [← hn1] at bn1
  have bd1 := tdiv_le _ g _ bd0
  have bn2 := tdiv_le _ h _ bn1
  have bd2 := tdiv_le _ h _ bd1
  have hr : n1.natAbs % g < 9223372036854775808 := by have := Nat.mod_lt n1.natAbs m1; omega
  have G1 := hid (fun (l : List Int) (hl : l = [aD, bD]) b w (hr : rowAt w l b 0) => gcd_any l b 0 2 w (by rw [hl]; simp) (by rw [hl]; simp) hr (by rw [hl]; intro n hn; simp at hn; rcases hn with rfl | rfl; exact h2.i64; exact h4.i64))
  have G2 := hid (fun (l : List Int) (hl : l = [aD, bD, ((n1.natAbs % g : Nat) : Int)]) b w (hr : rowAt w l b 0) => gcd_any l b 0 3 w (by rw [hl]; simp) (by rw [hl]; simp) hr (by rw [hl]; intro n hn; simp at hn; rcases hn with rfl | rfl | rfl; exact h2.i64; exact h4.i64; exact ⟨by omega, by omega⟩))
  have PA := hid (fun w => product_any aN bD h1.i64 h4.i64 w)
  have PB := hid (fun w => product_any bN aD h3.i64 h2.i64 w)
  have PD := hid (fun w => product_any aD bD h2.i64 h4.i64 w)
  have PS := hid (fun w => plus_any (aN * bD) (bN * aD) w)
  have N1 := hid (fun w => over_any (aN * bD + bN * aD) g (by unfold Fit128; omega) m1 (by omega) w)
  have D1 := hid (fun w => over_any (aD * bD) g (by unfold Fit128; omega) m1 (by omega) w)
  have MM := hid (fun w => modulo_any n1 g (by unfold Fit128; omega) m1 (by omega) w)
  have N2 := hid (fun w => over_any n1 h (by unfold Fit128; omega) m2 (by omega) w)
  have D2 := hid (fun w => over_any ((aD * bD).tdiv g) h (by unfold Fit128; omega) m2 (by omega) w)
  have FR := hid (fun w => fraction_any _ _ bn2 bd2 m3 m4 w)
  rw [m5] at FR
  rw [← hn1] at N1
  have e1 : gcdL [aD, bD] = g := by rw [gcd2, hg]
  have e2 : gcdL [aD, bD, ((n1.natAbs % g : Nat) : Int)] = h := by rw [gcd3, ← hg, hh]; rfl
  have E1 := hid e1
  have E2 := hid e2
  obtain ⟨md, hmd⟩ : ∃ md : Int, md = ((n1.natAbs % g : Nat) : Int) := ⟨_, rfl⟩
  have md0 : 0 ≤ md ∧ md < 9223372036854775808 := by rw [hmd]; omega
  rw [← hmd] at G2 MM E2
  have cv : wrap64 md = md := by unfold wrap64; omega
  have cvw : IntKind.i64.wrap md = md := IntWalk.i64_in _ (by omega)
  clear hmd md0
  clear hn1 hg hh m1 m2 m3 m4 m5 gle hle bn0 bd0 bn1 bd1 bn2 bd2 ha hb0 ca cb h1 h2 h3 h4 e1 e2 hr
  generalize aN * bD + bN * aD = n0 at *
  generalize aN * bD = p1 at *
  generalize bN * aD = p2 at *
  generalize aD * bD = d0 at *
  generalize (d0.tdiv g).tdiv h = d2 at *
  generalize d0.tdiv g = d1 at *
  generalize n1.tdiv h = n2 at *
  go_enter Tryz.func33, Tryz.ntmps33
  go_upto_region 4 with (go_at_call 49; refine (G1.out [aD, bD] rfl _ _ ?_).mono ?_; (intro i hi; rcases (show i = 0 ∨ i = 1 by simp at hi; omega) with rfl | rfl <;> (simp [go_sem]; done)); rintro e w5 ⟨rfl, k5, rfl⟩; rw [E1.out])
  go_cut [7] (fun s7 wx => ∃ m : Nat, s7 = .pointer (some ⟨m, 0, none⟩) ∧ w.heap.size + 3 ≤ m ∧ wx.cell? ⟨m, 0, none⟩ = some (.int .u64 (hiW n1)) ∧ wx.cell? ⟨m, 1, none⟩ = some (.int .u64 (loW n1)) ∧ Below (((w.alloc (.cells #[.int .i64 aN, .int .i64 aD] 25)).alloc (.cells #[.int .i64 bN, .int .i64 bD] 25)).alloc (.cells #[.int .i64 0, .int .i64 0] 25)).heap.size (((w.alloc (.cells #[.int .i64 aN, .int .i64 aD] 25)).alloc (.cells #[.int .i64 bN, .int .i64 bD] 25)).alloc (.cells #[.int .i64 0, .int .i64 0] 25)) wx)
  case first =>
    generalize hwA : ((((w.alloc (.cells #[.int .i64 aN, .int .i64 aD] 25)).alloc (.cells #[.int .i64 bN, .int .i64 bD] 25)).alloc (.cells #[.int .i64 0, .int .i64 0] 25)).alloc (.cells #[.int .i64 aD, .int .i64 bD] 3)).drewN k5 = wA
    have hb : Below (((w.alloc (.cells #[.int .i64 aN, .int .i64 aD] 25)).alloc (.cells #[.int .i64 bN, .int .i64 bD] 25)).alloc (.cells #[.int .i64 0, .int .i64 0] 25)).heap.size (((w.alloc (.cells #[.int .i64 aN, .int .i64 aD] 25)).alloc (.cells #[.int .i64 bN, .int .i64 bD] 25)).alloc (.cells #[.int .i64 0, .int .i64 0] 25)) wA := by rw [← hwA]; exact below_drewN ((Below.refl _ _).alloc (Nat.le_refl _) _) _
    have hz : w.heap.size + 3 ≤ wA.heap.size := by have := hb.size; simp at this; omega
    have a0 : wA.cell? ⟨w.heap.size, 0, none⟩ = some (.int .i64 aN) := cell_below hb (by simp [go_sem])
    have a1 : wA.cell? ⟨w.heap.size, 1, none⟩ = some (.int .i64 aD) := cell_below hb (by simp [go_sem])
    have a2 : wA.cell? ⟨w.heap.size + 1, 0, none⟩ = some (.int .i64 bN) := cell_below hb (by simp [go_sem])
    have a3 : wA.cell? ⟨w.heap.size + 1, 1, none⟩ = some (.int .i64 bD) := cell_below hb (by simp [go_sem])
    have HB := hid hb
    clear hwA hb
    have hs := Below.refl wA.heap.size wA
    have hsd := hs.drew
    go_region_held3 (fun W => W.cell? ⟨w.heap.size, 0, none⟩ = some (.int .i64 aN) ∧ W.cell? ⟨w.heap.size, 1, none⟩ = some (.int .i64 aD) ∧ W.cell? ⟨w.heap.size + 1, 0, none⟩ = some (.int .i64 bN) ∧ W.cell? ⟨w.heap.size + 1, 1, none⟩ = some (.int .i64 bD) ∧ Below wA.heap.size wA W)
      (first | (with_reducible exact ⟨a0, a1, a2, a3, hs⟩) | (with_reducible exact ⟨cell_below hsd a0, cell_below hsd a1, cell_below hsd a2, cell_below hsd a3, hsd⟩) | (with_reducible exact ⟨cell_below (Below.drew (below_a hs _)) a0, cell_below (Below.drew (below_a hs _)) a1, cell_below (Below.drew (below_a hs _)) a2, cell_below (Below.drew (below_a hs _)) a3, (Below.drew (below_a hs _))⟩) | (with_reducible exact ⟨cell_below (by with_reducible assumption) a0, cell_below (by with_reducible assumption) a1, cell_below (by with_reducible assumption) a2, cell_below (by with_reducible assumption) a3, (by with_reducible assumption)⟩) | (with_reducible exact ⟨cell_below (below_a (by with_reducible assumption) _) a0, cell_below (below_a (by with_reducible assumption) _) a1, cell_below (below_a (by with_reducible assumption) _) a2, cell_below (below_a (by with_reducible assumption) _) a3, (below_a (by with_reducible assumption) _)⟩) | (with_reducible exact ⟨cell_below (Below.setCell (below_a (by with_reducible assumption) _) (by first | exact Nat.le_refl _ | (simp; done) | (simp; omega) | omega) _) a0, cell_below (Below.setCell (below_a (by with_reducible assumption) _) (by first | exact Nat.le_refl _ | (simp; done) | (simp; omega) | omega) _) a1, cell_below (Below.setCell (below_a (by with_reducible assumption) _) (by first | exact Nat.le_refl _ | (simp; done) | (simp; omega) | omega) _) a2, cell_below (Below.setCell (below_a (by with_reducible assumption) _) (by first | exact Nat.le_refl _ | (simp; done) | (simp; omega) | omega) _) a3, (Below.setCell (below_a (by with_reducible assumption) _) (by first | exact Nat.le_refl _ | (simp; done) | (simp; omega) | omega) _)⟩) | (with_reducible exact ⟨cell_below (Below.setCell (Below.setCell (below_a (by with_reducible assumption) _) (by first | exact Nat.le_refl _ | (simp; done) | (simp; omega) | omega) _) (by first | exact Nat.le_refl _ | (simp; done) | (simp; omega) | omega) _) a0, cell_below (Below.setCell (Below.setCell (below_a (by with_reducible assumption) _) (by first | exact Nat.le_refl _ | (simp; done) | (simp; omega) | omega) _) (by first | exact Nat.le_refl _ | (simp; done) | (simp; omega) | omega) _) a1, cell_below (Below.setCell (Below.setCell (below_a (by with_reducible assumption) _) (by first | exact Nat.le_refl _ | (simp; done) | (simp; omega) | omega) _) (by first | exact Nat.le_refl _ | (simp; done) | (simp; omega) | omega) _) a2, cell_below (Below.setCell (Below.setCell (below_a (by with_reducible assumption) _) (by first | exact Nat.le_refl _ | (simp; done) | (simp; omega) | omega) _) (by first | exact Nat.le_refl _ | (simp; done) | (simp; omega) | omega) _) a3, (Below.setCell (Below.setCell (below_a (by with_reducible assumption) _) (by first | exact Nat.le_refl _ | (simp; done) | (simp; omega) | omega) _) (by first | exact Nat.le_refl _ | (simp; done) | (simp; omega) | omega) _)⟩) | (with_reducible exact ⟨cell_below (Below.setCell (by with_reducible assumption) (by first | exact Nat.le_refl _ | (simp; done) | (simp; omega) | omega) _) a0, cell_below (Below.setCell (by with_reducible assumption) (by first | exact Nat.le_refl _ | (simp; done) | (simp; omega) | omega) _) a1, cell_below (Below.setCell (by with_reducible assumption) (by first | exact Nat.le_refl _ | (simp; done) | (simp; omega) | omega) _) a2, cell_below (Below.setCell (by with_reducible assumption) (by first | exact Nat.le_refl _ | (simp; done) | (simp; omega) | omega) _) a3, (Below.setCell (by with_reducible assumption) (by first | exact Nat.le_refl _ | (simp; done) | (simp; omega) | omega) _)⟩) | (with_reducible exact ⟨cell_below (Below.setCell (Below.setCell (by with_reducible assumption) (by first | exact Nat.le_refl _ | (simp; done) | (simp; omega) | omega) _) (by first | exact Nat.le_refl _ | (simp; done) | (simp; omega) | omega) _) a0, cell_below (Below.setCell (Below.setCell (by with_reducible assumption) (by first | exact Nat.le_refl _ | (simp; done) | (simp; omega) | omega) _) (by first | exact Nat.le_refl _ | (simp; done) | (simp; omega) | omega) _) a1, cell_below (Below.setCell (Below.setCell (by with_reducible assumption) (by first | exact Nat.le_refl _ | (simp; done) | (simp; omega) | omega) _) (by first | exact Nat.le_refl _ | (simp; done) | (simp; omega) | omega) _) a2, cell_below (Below.setCell (Below.setCell (by with_reducible assumption) (by first | exact Nat.le_refl _ | (simp; done) | (simp; omega) | omega) _) (by first | exact Nat.le_refl _ | (simp; done) | (simp; omega) | omega) _) a3, (Below.setCell (Below.setCell (by with_reducible assumption) (by first | exact Nat.le_refl _ | (simp; done) | (simp; omega) | omega) _) (by first | exact Nat.le_refl _ | (simp; done) | (simp; omega) | omega) _)⟩) | fail)
      (first
        | (go_at_call_of 43 (Value.int IntKind.i64 aN); (with_reducible refine (PA.out _).mono ?_); rintro e y1 ⟨rfl, hy1⟩; (first | have hs1 : Below wA.heap.size wA y1 := below_step (by with_reducible assumption) hy1 | have hs1 : Below wA.heap.size wA y1 := below_step (below_a (by with_reducible assumption) _) hy1 | have hs1 : Below wA.heap.size wA y1 := below_step (below_a hs _) (undrew hy1) | fail); have hz1 := hs1.size; (first | have cf := two_old hy1 cf | have cf := two_new hy1 | have cf := two_new (undrew hy1) | skip); (try (obtain ⟨q0, q1, q2, q3, q4⟩ := id cf)))
        | (go_at_call_of 43 (Value.int IntKind.i64 bN); (with_reducible refine (PB.out _).mono ?_); rintro e y2 ⟨rfl, hy2⟩; (first | have hs2 : Below wA.heap.size wA y2 := below_step (by with_reducible assumption) hy2 | have hs2 : Below wA.heap.size wA y2 := below_step (below_a (by with_reducible assumption) _) hy2 | have hs2 : Below wA.heap.size wA y2 := below_step (below_a hs _) (undrew hy2) | fail); have hz2 := hs2.size; (first | have cf := two_old hy2 cf | have cf := two_new hy2 | have cf := two_new (undrew hy2) | skip); (try (obtain ⟨q0, q1, q2, q3, q4⟩ := id cf)))
        | (go_at_call 50; (with_reducible refine (PS.out _).mono ?_); rintro e y3 ⟨rfl, hy3⟩; (first | have hs3 : Below wA.heap.size wA y3 := below_step (by with_reducible assumption) hy3 | have hs3 : Below wA.heap.size wA y3 := below_step (below_a (by with_reducible assumption) _) hy3 | fail); have hz3 := hs3.size; (first | have cf := two_old hy3 cf | have cf := two_new hy3 | skip); (try (obtain ⟨q0, q1, q2, q3, q4⟩ := id cf)))
        | (go_at_call 51; (with_reducible refine (N1.out _).mono ?_); rintro e y4 ⟨rfl, hy4⟩; (first | have hs4 : Below wA.heap.size wA y4 := below_step (by with_reducible assumption) hy4 | have hs4 : Below wA.heap.size wA y4 := below_step (below_a (by with_reducible assumption) _) hy4 | fail); have hz4 := hs4.size; (first | have cf := two_old hy4 cf | have cf := two_new hy4 | skip); (try (obtain ⟨q0, q1, q2, q3, q4⟩ := id cf))))
    all_goals
      go_wp2_with fail
      go_meet
      refine ⟨_, rfl, ?_, ?_, ?_, ?_⟩
      · omega
      · first | (simp [go_sem]; done) | (simp [go_sem, q0]; done)
      · first | (simp [go_sem]; done) | (simp [go_sem, q1]; done)
      · refine below_step HB.out ?_
        first | exact below_a (by assumption) _ | exact Below.setCell (Below.setCell (by assumption) (by first | exact Nat.le_refl _ | (simp; done) | (simp; omega) | omega) _) (by first | exact Nat.le_refl _ | (simp; done) | (simp; omega) | omega) _
  case rest =>
  obtain ⟨m, rfl, hm, b0, b1, hb⟩ := hcut
  have hzP : w.heap.size + 3 ≤ wc.heap.size := by have := hb.size; simp at this; omega
  have P0 : ∀ W, Below wc.heap.size wc W → W.cell? ⟨w.heap.size, 0, none⟩ = some (.int .i64 aN) ∧ W.cell? ⟨w.heap.size, 1, none⟩ = some (.int .i64 aD) ∧ W.cell? ⟨w.heap.size + 1, 0, none⟩ = some (.int .i64 bN) ∧ W.cell? ⟨w.heap.size + 1, 1, none⟩ = some (.int .i64 bD) ∧ W.cell? ⟨w.heap.size + 1 + 1, 0, none⟩ = some (.int .i64 0) ∧ W.cell? ⟨w.heap.size + 1 + 1, 1, none⟩ = some (.int .i64 0) ∧ W.frozen? ⟨w.heap.size + 1 + 1, 0, none⟩ = false ∧ W.frozen? ⟨w.heap.size + 1 + 1, 1, none⟩ = false ∧ wc.heap.size ≤ W.heap.size := by
    intro W hW
    exact ⟨cell_below hW (cell_below hb (by simp [go_sem])), cell_below hW (cell_below hb (by simp [go_sem])), cell_below hW (cell_below hb (by simp [go_sem])), cell_below hW (cell_below hb (by simp [go_sem])), cell_below hW (cell_below hb (by simp [go_sem])), cell_below hW (cell_below hb (by simp [go_sem])), (hW.frozen (p := ⟨w.heap.size + 1 + 1, 0, none⟩) (by simp; omega)).trans ((hb.frozen (p := ⟨w.heap.size + 1 + 1, 0, none⟩) (by first | (simp; done) | (simp; omega))).trans (by simp [go_sem])), (hW.frozen (p := ⟨w.heap.size + 1 + 1, 1, none⟩) (by simp; omega)).trans ((hb.frozen (p := ⟨w.heap.size + 1 + 1, 1, none⟩) (by first | (simp; done) | (simp; omega))).trans (by simp [go_sem])), hW.size⟩
  have P := hid P0
  clear P0
  have HP := hid hb
  clear hb
  obtain ⟨a0, a1, a2, a3, a4, a5, a6, a7, za⟩ := P.out wc (Below.refl _ _)
  have PM := hid (fun W (hW : Below wc.heap.size wc W) => show W.cell? ⟨m, 0, none⟩ = some (.int .u64 (hiW n1)) ∧ W.cell? ⟨m, 1, none⟩ = some (.int .u64 (loW n1)) from ⟨cell_below hW b0, cell_below hW b1⟩)
  clear b0 b1
  obtain ⟨wA, rfl⟩ : ∃ wA : World, wA = wc := ⟨_, rfl⟩
  go_wp2_with fail
  refine (PD.out _).mono ?_
  rintro e y5 ⟨rfl, hy5⟩
  have B5 := hid hy5
  clear hy5 a0 a1 a2 a3 a4 a5 a6 a7
  go_wp2_with fail
  refine (D1.out _).mono ?_
  rintro e y6 ⟨rfl, hy6⟩
  have B6 := hid (below_step B5.out hy6)
  clear hy6
  go_upto_region 6 with fail
  generalize hwB : y6.alloc (.cells #[.int .u64 (hiW d1), .int .u64 (loW d1)] 59) = wB
  have hB : Below wA.heap.size wA wB := by rw [← hwB]; exact below_a B6.out _
  have d0 : wB.cell? ⟨y6.heap.size, 0, none⟩ = some (.int .u64 (hiW d1)) := by rw [← hwB]; simp [go_sem]
  have d0' : wB.cell? ⟨y6.heap.size, 1, none⟩ = some (.int .u64 (loW d1)) := by rw [← hwB]; simp [go_sem]
  obtain ⟨-, a1, -, a3, -, -, -, -, za⟩ := P.out wB hB
  obtain ⟨n0', n1'⟩ := PM.out wB hB
  have HB := hid hB
  clear hwB hB
  have hs := Below.refl wB.heap.size wB
  have hsd := hs.drew
  go_cut [6] (fun s6 wx => s6 = .int .u64 (h : Int) ∧ Below wB.heap.size wB wx)
  case first =>
    go_region_held3 (fun W => W.cell? ⟨w.heap.size, 1, none⟩ = some (.int .i64 aD) ∧ W.cell? ⟨w.heap.size + 1, 1, none⟩ = some (.int .i64 bD) ∧ W.cell? ⟨m, 0, none⟩ = some (.int .u64 (hiW n1)) ∧ W.cell? ⟨m, 1, none⟩ = some (.int .u64 (loW n1)) ∧ Below wB.heap.size wB W)
      (first | (with_reducible exact ⟨a1, a3, n0', n1', hs⟩) | (with_reducible exact ⟨cell_below hsd a1, cell_below hsd a3, cell_below hsd n0', cell_below hsd n1', hsd⟩) | (with_reducible exact ⟨cell_below (by with_reducible assumption) a1, cell_below (by with_reducible assumption) a3, cell_below (by with_reducible assumption) n0', cell_below (by with_reducible assumption) n1', (by with_reducible assumption)⟩) | (with_reducible exact ⟨cell_below (below_a (by with_reducible assumption) _) a1, cell_below (below_a (by with_reducible assumption) _) a3, cell_below (below_a (by with_reducible assumption) _) n0', cell_below (below_a (by with_reducible assumption) _) n1', (below_a (by with_reducible assumption) _)⟩) | (with_reducible exact ⟨cell_below (below_drewN (below_a (by with_reducible assumption) _) _) a1, cell_below (below_drewN (below_a (by with_reducible assumption) _) _) a3, cell_below (below_drewN (below_a (by with_reducible assumption) _) _) n0', cell_below (below_drewN (below_a (by with_reducible assumption) _) _) n1', (below_drewN (below_a (by with_reducible assumption) _) _)⟩) | (with_reducible exact ⟨cell_below (Below.drew (below_a hs _)) a1, cell_below (Below.drew (below_a hs _)) a3, cell_below (Below.drew (below_a hs _)) n0', cell_below (Below.drew (below_a hs _)) n1', (Below.drew (below_a hs _))⟩) | (with_reducible exact ⟨cell_below (below_drewN (below_a hsd _) _) a1, cell_below (below_drewN (below_a hsd _) _) a3, cell_below (below_drewN (below_a hsd _) _) n0', cell_below (below_drewN (below_a hsd _) _) n1', (below_drewN (below_a hsd _) _)⟩) | fail)
      (first
        | (go_at_call 52; (with_reducible refine (MM.out _).mono ?_); rintro e y7 ⟨rfl, hy7⟩; (first | have hs7 : Below wB.heap.size wB y7 := below_step (by with_reducible assumption) hy7 | have hs7 : Below wB.heap.size wB y7 := below_step (below_a (by with_reducible assumption) _) hy7 | fail))
        | (go_at_call 49; refine (G2.out [aD, bD, md] rfl _ _ ?_).mono ?_; (intro i hi; rcases (show i = 0 ∨ i = 1 ∨ i = 2 by simp at hi; omega) with rfl | rfl | rfl <;> first | (simp [go_sem]; done) | (simp [go_sem, cvw]; done) | (simp [go_sem, cv]; done)); rintro e y8 ⟨rfl, k8, rfl⟩; rw [E2.out]))
    all_goals
      go_wp2_with fail
      go_meet
      refine ⟨rfl, ?_⟩
      exact below_drewN (below_a (by assumption) _) _
  case rest =>
  obtain ⟨rfl, hC⟩ := hcut
  obtain ⟨wC, rfl⟩ : ∃ wC : World, wC = wc := ⟨_, rfl⟩
  clear a1 a3 n0' n1' hs hsd za
  obtain ⟨a0, a1, a2, a3, a4, a5, a6, a7, za⟩ := P.out wC (below_step HB.out hC)
  obtain ⟨n0', n1'⟩ := PM.out wC (below_step HB.out hC)
  have e0 := cell_below hC d0
  have e0' := cell_below hC d0'
  have HC := hid (below_step HB.out hC)
  have hm6 : w.heap.size + 3 ≤ y6.heap.size := by have := B6.out.size; omega
  clear hC d0 d0' a0 a1 a2 a3
  go_upto_region 7 with fail
  have hs := Below.refl wC.heap.size wC
  have hsd := hs.drew
  have GW := hid (fun W (hW : Below wC.heap.size wC W) => show Below w.heap.size w W from (((((((Below.refl _ _).alloc (by first | exact Nat.le_refl _ | (simp; done) | (simp; omega) | omega | (simp [World.drewN]; omega)) _).alloc (by first | exact Nat.le_refl _ | (simp; done) | (simp; omega) | omega | (simp [World.drewN]; omega)) _).alloc (by first | exact Nat.le_refl _ | (simp; done) | (simp; omega) | omega | (simp [World.drewN]; omega)) _).trans (HP.out.mono (by first | exact Nat.le_refl _ | (simp; done) | (simp; omega) | omega | (simp [World.drewN]; omega)))).trans (HC.out.mono (by first | exact Nat.le_refl _ | (simp; done) | (simp; omega) | omega | (simp [World.drewN]; omega)))).trans (hW.mono (by first | exact Nat.le_refl _ | (simp; done) | (simp; omega) | omega | (simp [World.drewN]; omega)))))
  go_region_held3 (fun W => W.cell? ⟨m, 0, none⟩ = some (.int .u64 (hiW n1)) ∧ W.cell? ⟨m, 1, none⟩ = some (.int .u64 (loW n1)) ∧ W.cell? ⟨y6.heap.size, 0, none⟩ = some (.int .u64 (hiW d1)) ∧ W.cell? ⟨y6.heap.size, 1, none⟩ = some (.int .u64 (loW d1)) ∧ Below w.heap.size w W)
    (first | (with_reducible exact ⟨cell_below hs n0', cell_below hs n1', cell_below hs e0, cell_below hs e0', GW.out _ hs⟩) | (with_reducible exact ⟨cell_below hsd n0', cell_below hsd n1', cell_below hsd e0, cell_below hsd e0', GW.out _ hsd⟩) | (with_reducible exact ⟨cell_below (by with_reducible assumption) n0', cell_below (by with_reducible assumption) n1', cell_below (by with_reducible assumption) e0, cell_below (by with_reducible assumption) e0', GW.out _ (by with_reducible assumption)⟩) | (exact ⟨(set2_other _ _ _ _ _ _ (by omega)).trans v0, (set2_other _ _ _ _ _ _ (by omega)).trans v1, (set2_other _ _ _ _ _ _ (by omega)).trans v2, (set2_other _ _ _ _ _ _ (by omega)).trans v3, Below.setCell (Below.setCell (GW.out _ hs11) (by first | exact Nat.le_refl _ | (simp; done) | (simp; omega) | omega) _) (by first | exact Nat.le_refl _ | (simp; done) | (simp; omega) | omega) _⟩) | fail)
    (first
      | (go_at_call_of 51 (Value.int IntKind.u64 (hiW n1)); (with_reducible refine (N2.out _).mono ?_); rintro e y9 ⟨rfl, hy9⟩; (first | have hs9 : Below wC.heap.size wC y9 := below_step (by with_reducible assumption) hy9 | have hs9 : Below wC.heap.size wC y9 := below_step (below_a (by with_reducible assumption) _) hy9 | fail))
      | (go_at_call_of 51 (Value.int IntKind.u64 (hiW d1)); (with_reducible refine (D2.out _).mono ?_); rintro e y10 ⟨rfl, hy10⟩; (first | have hs10 : Below wC.heap.size wC y10 := below_step (by with_reducible assumption) hy10 | have hs10 : Below wC.heap.size wC y10 := below_step (below_a (by with_reducible assumption) _) hy10 | fail))
      | (go_at_call 53; (with_reducible refine (FR.out _).mono ?_); rintro e y11 ⟨rfl, hy11⟩; (first | have hs11 : Below wC.heap.size wC y11 := below_step (by with_reducible assumption) hy11 | have hs11 : Below wC.heap.size wC y11 := below_step (below_a (by with_reducible assumption) _) hy11 | fail); (obtain ⟨-, -, -, -, c4, c5, c6, c7, zc⟩ := P.out y11 (below_step HC.out hs11)); (have v0 := cell_below hs11 n0'); (have v1 := cell_below hs11 n1'); (have v2 := cell_below hs11 e0); (have v3 := cell_below hs11 e0')))
  all_goals
    clear v0 v1 v2 v3 n0' n1' e0 e0'
    go_wp2_with fail
    exact bodyPost_ret (v := .tuple #[.agg #[.int .i64 (numR (Rat.divInt aN aD + Rat.divInt bN bD)), .int .i64 (denR (Rat.divInt aN aD + Rat.divInt bN bD))], .int .i64 (errR (Rat.divInt aN aD + Rat.divInt bN bD))]) (by simp [results, Tryz.results33, c4, c5, go_sem]) rfl ⟨rfl, Below.setCell (Below.setCell (GW.out _ hs11) (by first | exact Nat.le_refl _ | (simp; done) | (simp; omega) | omega) _) (by first | exact Nat.le_refl _ | (simp; done) | (simp; omega) | omega) _⟩
end Go.Proofs.YtffcnkkgbhhfnaaGreatDoor

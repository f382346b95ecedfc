
import Derived.Test.YtffcnkkgbhhfnaaGreatDoorRu
namespace Go.Proofs.YtffcnkkgbhhfnaaGreatDoor
open Go.RowKit Go.Instr
set_option linter.unusedVariables false

/-! 'rat.Parse' of a text whose parts are numerals; 'rat.Sum' of nothing. -/
def textL (n d : Int) : List UInt8 := if d = 1 then Lib.itoa n else Lib.itoa n ++ [47] ++ Lib.itoa d
theorem text_any (n d : Int) (h : I64 n) (h2 : I64 d) (w : World) (g : Glob w) :
    Calls Tryz.prog 24 #[.agg #[.int .i64 n, .int .i64 d]] w fun e w' => e = .returned (.string ⟨(textL n d).toArray⟩) ∧ Below w.heap.size w w' := by
  unfold textL
  by_cases hd : d = 1
  · rw [if_pos hd]; subst hd; exact text_one n h w g
  · rw [if_neg hd]; exact text_two n d h h2 hd w g

theorem below_bytes (w : World) (e : TypeId) (s : ByteArray) : Below w.heap.size w (Lib.bytesWorld w e s) := by
  have h := ((Below.refl w.heap.size w).drew).alloc (show w.heap.size ≤ w.drew.heap.size from Nat.le_refl _) (.cells (Lib.bytesCells w e s) e)
  unfold Lib.bytesWorld World.freeze
  split
  · exact h
  · exact ⟨h.os, h.tape, h.output, by simp, fun k hk => by
      have := h.block k hk
      simp only [Array.getElem?_modify]
      rw [if_neg (by show ¬ w.heap.size = k; omega)]
      exact this⟩

theorem cut_any (s sep : ByteArray) (hs : s.size < 4294967281) (w : World) (g : Glob w) :
    Calls Tryz.prog 61 #[.string s, .string sep] w fun e w' => e = .returned (.tuple #[.string ⟨(Lib.cut s.data.toList sep.data.toList).1.toArray⟩, .string ⟨(Lib.cut s.data.toList sep.data.toList).2.1.toArray⟩, .bool (Lib.cut s.data.toList sep.data.toList).2.2]) ∧ Below w.heap.size w w' := by
  obtain ⟨m, hm⟩ := g.1
  refine (Tryz.strings_Cut s sep m w hs hm).mono ?_
  rintro e w' ⟨rfl, k, rfl⟩
  exact ⟨rfl, below_drewN (Below.refl _ _) k⟩
theorem atoi_ok (l : List UInt8) (hmax : l.length ≤ 100) (v : Int) (h : Lib.atoiAll l = .ok v) (w : World) :
    Calls Tryz.prog 62 #[.string ⟨l.toArray⟩] w fun e w' => e = .returned (.tuple #[.int .i64 v, .nilIface]) ∧ Below w.heap.size w w' := by
  refine (Tryz.strconv_Atoi_ok ⟨l.toArray⟩ (by simp [ByteArray.size]; omega) v (by simp; exact h) w).mono ?_
  rintro e w' ⟨rfl, rfl | ⟨t, rfl⟩⟩
  · exact ⟨rfl, Below.refl _ _⟩
  · exact ⟨rfl, below_bytes _ _ _⟩

/-- What 'rat.Parse' returns. -/
def parseV (x y : Bool) (n d : Int) : Value := if x && y then .tuple #[.agg #[.int .i64 n, .int .i64 d], .int .i64 0] else .tuple #[.agg #[.int .i64 0, .int .i64 0], .int .i64 3]

set_option maxHeartbeats 4000000 in
theorem parse_some (s : ByteArray) (hs : s.size ≤ 40) (l r : List UInt8) (fd : Bool) (hc : Lib.cut s.data.toList [47] = (l, r, fd)) (hl : l.length ≤ 100) (hr : r.length ≤ 100) (n d : Int) (hn : Lib.atoiAll l = .ok n)
    (hd : Lib.atoiAll (if fd = true then r else [49]) = .ok d) (x y : Bool) (hx : validB n d = x) (hy : ((⟨(textL n d).toArray⟩ : ByteArray).toList == s.toList) = y) (w : World) (g : Glob w) :
    Calls Tryz.prog 48 #[.string s] w fun e w' => e = .returned (parseV x y n d) ∧ Below w.heap.size w w' := by
  have bn : I64 n := Lib.atoiAll_bounds hn
  have bd : I64 d := Lib.atoiAll_bounds hd
  have CT := hid (fun w g => cut_any s ⟨#[47]⟩ (by omega) w g)
  rw [show ((⟨#[47]⟩ : ByteArray).data.toList) = [47] from rfl, hc] at CT
  have A1 := hid (fun w => atoi_ok l hl n hn w)
  have V := hid (fun w => valid_any n d bn bd w)
  rw [hx] at V
  have T := hid (fun w g => text_any n d bn bd w g)
  obtain ⟨t, ht⟩ : ∃ t : ByteArray, (⟨(textL n d).toArray⟩ : ByteArray) = t := ⟨_, rfl⟩
  rw [ht] at T hy
  obtain ⟨L, hL⟩ : ∃ t : ByteArray, (⟨l.toArray⟩ : ByteArray) = t := ⟨_, rfl⟩
  obtain ⟨R, hR⟩ : ∃ t : ByteArray, (⟨r.toArray⟩ : ByteArray) = t := ⟨_, rfl⟩
  have CT2 := hid (fun w g => CT.out w g)
  simp only [hL, hR] at CT2
  rw [hL] at A1
  have x1 : decide ((40 : Int) < (s.size : Int)) = false := by simp; omega
  have GL := hid g
  cases fd
  · have A2 := hid (fun w => atoi_ok [49] (by simp) d hd w)
    clear hx ht hL hR hc hn hd CT bn bd hs hl hr g
    go_enter Tryz.func48, Tryz.ntmps48
    go_wp2_with fail
    refine (CT2.out _ (glob_below ((Below.refl _ _).alloc (Nat.le_refl _) _) GL.out)).mono ?_
    rintro e w1 ⟨rfl, hb⟩
    have hzP : w.heap.size + 1 ≤ w1.heap.size := by have := hb.size; simp at this; omega
    have P0 : ∀ W, Below w1.heap.size w1 W → W.cell? ⟨w.heap.size, 0, none⟩ = some (.int .i64 0) ∧ W.cell? ⟨w.heap.size, 1, none⟩ = some (.int .i64 0) ∧ W.frozen? ⟨w.heap.size, 0, none⟩ = false ∧ W.frozen? ⟨w.heap.size, 1, none⟩ = false ∧ w1.heap.size ≤ W.heap.size := by
      intro W hW
      exact ⟨cell_below hW (cell_below hb (by simp [go_sem])), cell_below hW (cell_below hb (by simp [go_sem])), (hW.frozen (p := ⟨w.heap.size, 0, none⟩) (by simp; omega)).trans ((hb.frozen (p := ⟨w.heap.size, 0, none⟩) (by first | (simp; done) | (simp; omega))).trans (by simp [go_sem])), (hW.frozen (p := ⟨w.heap.size, 1, none⟩) (by simp; omega)).trans ((hb.frozen (p := ⟨w.heap.size, 1, none⟩) (by first | (simp; done) | (simp; omega))).trans (by simp [go_sem])), hW.size⟩
    have P := hid P0
    clear P0
    have HP := hid hb
    clear hb
    have G1 := hid (glob_below (((Below.refl _ _).alloc (Nat.le_refl _) _).trans (HP.out.mono (by simp))) GL.out)
    go_wp2_with fail
    refine (A1.out _).mono ?_
    rintro e w2 ⟨rfl, hb⟩
    have B2 := hid hb
    clear hb
    go_wp2_with fail
    refine (A2.out _).mono ?_
    rintro e w3 ⟨rfl, hb⟩
    have B3 := hid (below_step B2.out hb)
    clear hb
    go_wp2_with fail
    refine (V.out _).mono ?_
    rintro e w4 ⟨rfl, hb⟩
    have b0 : w4.cell? ⟨w3.heap.size, 0, none⟩ = some (.int .i64 n) := cell_below hb (by simp [go_sem])
    have b1 : w4.cell? ⟨w3.heap.size, 1, none⟩ = some (.int .i64 d) := cell_below hb (by simp [go_sem])
    have B4 := hid (below_step (below_a B3.out _) hb)
    clear hb
    cases x
    · obtain ⟨p0, p1, p2, p3, zp⟩ := P.out w4 B4.out
      go_wp2_with fail
      exact bodyPost_ret (v := .tuple #[.agg #[.int .i64 0, .int .i64 0], .int .i64 3]) (by simp [results, Tryz.results48, p0, p1, go_sem]) rfl ⟨rfl, ((((((Below.refl _ _).alloc (by first | exact Nat.le_refl _ | (simp; done) | (simp; omega) | omega | (simp [World.drewN]; omega)) _).trans (HP.out.mono (by first | exact Nat.le_refl _ | (simp; done) | (simp; omega) | omega | (simp [World.drewN]; omega)))).trans (B4.out.mono (by first | exact Nat.le_refl _ | (simp; done) | (simp; omega) | omega | (simp [World.drewN]; omega)))).setCell (by first | exact Nat.le_refl _ | (simp; done) | (simp; omega) | omega | (simp [World.drewN]; omega)) _).setCell (by first | exact Nat.le_refl _ | (simp; done) | (simp; omega) | omega | (simp [World.drewN]; omega)) _)⟩
    · go_wp2_with fail
      refine (T.out _ (glob_below B4.out G1.out)).mono ?_
      rintro e w5 ⟨rfl, hb⟩
      have b2 := cell_below hb b0
      have b3 := cell_below hb b1
      have B5 := hid (below_step B4.out hb)
      clear hb b0 b1
      obtain ⟨p0, p1, p2, p3, zp⟩ := P.out w5 B5.out
      cases y
      · have hy2 : (!t.toList == s.toList) = true := by rw [hy]; rfl
        go_wp2_with fail
        exact bodyPost_ret (v := .tuple #[.agg #[.int .i64 0, .int .i64 0], .int .i64 3]) (by simp [results, Tryz.results48, p0, p1, go_sem]) rfl ⟨rfl, ((((((Below.refl _ _).alloc (by first | exact Nat.le_refl _ | (simp; done) | (simp; omega) | omega | (simp [World.drewN]; omega)) _).trans (HP.out.mono (by first | exact Nat.le_refl _ | (simp; done) | (simp; omega) | omega | (simp [World.drewN]; omega)))).trans (B5.out.mono (by first | exact Nat.le_refl _ | (simp; done) | (simp; omega) | omega | (simp [World.drewN]; omega)))).setCell (by first | exact Nat.le_refl _ | (simp; done) | (simp; omega) | omega | (simp [World.drewN]; omega)) _).setCell (by first | exact Nat.le_refl _ | (simp; done) | (simp; omega) | omega | (simp [World.drewN]; omega)) _)⟩
      · have hy2 : (!t.toList == s.toList) = false := by rw [hy]; rfl
        go_wp2_with fail
        exact bodyPost_ret (v := .tuple #[.agg #[.int .i64 n, .int .i64 d], .int .i64 0]) (by simp [results, Tryz.results48, p0, p1, go_sem]) rfl ⟨rfl, ((((((Below.refl _ _).alloc (by first | exact Nat.le_refl _ | (simp; done) | (simp; omega) | omega | (simp [World.drewN]; omega)) _).trans (HP.out.mono (by first | exact Nat.le_refl _ | (simp; done) | (simp; omega) | omega | (simp [World.drewN]; omega)))).trans (B5.out.mono (by first | exact Nat.le_refl _ | (simp; done) | (simp; omega) | omega | (simp [World.drewN]; omega)))).setCell (by first | exact Nat.le_refl _ | (simp; done) | (simp; omega) | omega | (simp [World.drewN]; omega)) _).setCell (by first | exact Nat.le_refl _ | (simp; done) | (simp; omega) | omega | (simp [World.drewN]; omega)) _)⟩
  · have A2 := hid (fun w => atoi_ok r hr d hd w)
    rw [hR] at A2
    clear hx ht hL hR hc hn hd CT bn bd hs hl hr g
    go_enter Tryz.func48, Tryz.ntmps48
    go_wp2_with fail
    refine (CT2.out _ (glob_below ((Below.refl _ _).alloc (Nat.le_refl _) _) GL.out)).mono ?_
    rintro e w1 ⟨rfl, hb⟩
    have hzP : w.heap.size + 1 ≤ w1.heap.size := by have := hb.size; simp at this; omega
    have P0 : ∀ W, Below w1.heap.size w1 W → W.cell? ⟨w.heap.size, 0, none⟩ = some (.int .i64 0) ∧ W.cell? ⟨w.heap.size, 1, none⟩ = some (.int .i64 0) ∧ W.frozen? ⟨w.heap.size, 0, none⟩ = false ∧ W.frozen? ⟨w.heap.size, 1, none⟩ = false ∧ w1.heap.size ≤ W.heap.size := by
      intro W hW
      exact ⟨cell_below hW (cell_below hb (by simp [go_sem])), cell_below hW (cell_below hb (by simp [go_sem])), (hW.frozen (p := ⟨w.heap.size, 0, none⟩) (by simp; omega)).trans ((hb.frozen (p := ⟨w.heap.size, 0, none⟩) (by first | (simp; done) | (simp; omega))).trans (by simp [go_sem])), (hW.frozen (p := ⟨w.heap.size, 1, none⟩) (by simp; omega)).trans ((hb.frozen (p := ⟨w.heap.size, 1, none⟩) (by first | (simp; done) | (simp; omega))).trans (by simp [go_sem])), hW.size⟩
    have P := hid P0
    clear P0
    have HP := hid hb
    clear hb
    have G1 := hid (glob_below (((Below.refl _ _).alloc (Nat.le_refl _) _).trans (HP.out.mono (by simp))) GL.out)
    go_wp2_with fail
    refine (A1.out _).mono ?_
    rintro e w2 ⟨rfl, hb⟩
    have B2 := hid hb
    clear hb
    go_wp2_with fail
    refine (A2.out _).mono ?_
    rintro e w3 ⟨rfl, hb⟩
    have B3 := hid (below_step B2.out hb)
    clear hb
    go_wp2_with fail
    refine (V.out _).mono ?_
    rintro e w4 ⟨rfl, hb⟩
    have b0 : w4.cell? ⟨w3.heap.size, 0, none⟩ = some (.int .i64 n) := cell_below hb (by simp [go_sem])
    have b1 : w4.cell? ⟨w3.heap.size, 1, none⟩ = some (.int .i64 d) := cell_below hb (by simp [go_sem])
    have B4 := hid (below_step (below_a B3.out _) hb)
    clear hb
    cases x
    · obtain ⟨p0, p1, p2, p3, zp⟩ := P.out w4 B4.out
      go_wp2_with fail
      exact bodyPost_ret (v := .tuple #[.agg #[.int .i64 0, .int .i64 0], .int .i64 3]) (by simp [results, Tryz.results48, p0, p1, go_sem]) rfl ⟨rfl, ((((((Below.refl _ _).alloc (by first | exact Nat.le_refl _ | (simp; done) | (simp; omega) | omega | (simp [World.drewN]; omega)) _).trans (HP.out.mono (by first | exact Nat.le_refl _ | (simp; done) | (simp; omega) | omega | (simp [World.drewN]; omega)))).trans (B4.out.mono (by first | exact Nat.le_refl _ | (simp; done) | (simp; omega) | omega | (simp [World.drewN]; omega)))).setCell (by first | exact Nat.le_refl _ | (simp; done) | (simp; omega) | omega | (simp [World.drewN]; omega)) _).setCell (by first | exact Nat.le_refl _ | (simp; done) | (simp; omega) | omega | (simp [World.drewN]; omega)) _)⟩
    · go_wp2_with fail
      refine (T.out _ (glob_below B4.out G1.out)).mono ?_
      rintro e w5 ⟨rfl, hb⟩
      have b2 := cell_below hb b0
      have b3 := cell_below hb b1
      have B5 := hid (below_step B4.out hb)
      clear hb b0 b1
      obtain ⟨p0, p1, p2, p3, zp⟩ := P.out w5 B5.out
      cases y
      · have hy2 : (!t.toList == s.toList) = true := by rw [hy]; rfl
        go_wp2_with fail
        exact bodyPost_ret (v := .tuple #[.agg #[.int .i64 0, .int .i64 0], .int .i64 3]) (by simp [results, Tryz.results48, p0, p1, go_sem]) rfl ⟨rfl, ((((((Below.refl _ _).alloc (by first | exact Nat.le_refl _ | (simp; done) | (simp; omega) | omega | (simp [World.drewN]; omega)) _).trans (HP.out.mono (by first | exact Nat.le_refl _ | (simp; done) | (simp; omega) | omega | (simp [World.drewN]; omega)))).trans (B5.out.mono (by first | exact Nat.le_refl _ | (simp; done) | (simp; omega) | omega | (simp [World.drewN]; omega)))).setCell (by first | exact Nat.le_refl _ | (simp; done) | (simp; omega) | omega | (simp [World.drewN]; omega)) _).setCell (by first | exact Nat.le_refl _ | (simp; done) | (simp; omega) | omega | (simp [World.drewN]; omega)) _)⟩
      · have hy2 : (!t.toList == s.toList) = false := by rw [hy]; rfl
        go_wp2_with fail
        exact bodyPost_ret (v := .tuple #[.agg #[.int .i64 n, .int .i64 d], .int .i64 0]) (by simp [results, Tryz.results48, p0, p1, go_sem]) rfl ⟨rfl, ((((((Below.refl _ _).alloc (by first | exact Nat.le_refl _ | (simp; done) | (simp; omega) | omega | (simp [World.drewN]; omega)) _).trans (HP.out.mono (by first | exact Nat.le_refl _ | (simp; done) | (simp; omega) | omega | (simp [World.drewN]; omega)))).trans (B5.out.mono (by first | exact Nat.le_refl _ | (simp; done) | (simp; omega) | omega | (simp [World.drewN]; omega)))).setCell (by first | exact Nat.le_refl _ | (simp; done) | (simp; omega) | omega | (simp [World.drewN]; omega)) _).setCell (by first | exact Nat.le_refl _ | (simp; done) | (simp; omega) | omega | (simp [World.drewN]; omega)) _)⟩

set_option maxHeartbeats 1000000 in
theorem sum_nil (w : World) : Calls Tryz.prog 45 #[.slice none 0 0] w fun e w' => e = .returned (.tuple #[.agg #[.int .i64 0, .int .i64 1], .int .i64 0]) ∧ Below w.heap.size w w' := by
  go_enter Tryz.func45, Tryz.ntmps45
  go_wp2
  go_loop [11] (fun i => i = .int .i64 0) (fun _ => 0)
  case atStart => rfl
  case round =>
    subst hrel
    go_wp2
    exact bodyPost_ret (v := .tuple #[.agg #[.int .i64 0, .int .i64 1], .int .i64 0]) (by simp [results, Tryz.results45, go_sem]) rfl ⟨rfl, by repeat (first | exact Below.refl _ _ | refine Below.setCell ?_ (by first | exact Nat.le_refl _ | (simp; done) | (simp; omega) | omega | (simp [World.drewN]; omega)) _ | refine Below.alloc ?_ (by first | exact Nat.le_refl _ | (simp; done) | (simp; omega) | omega | (simp [World.drewN]; omega)) _)⟩
end Go.Proofs.YtffcnkkgbhhfnaaGreatDoor

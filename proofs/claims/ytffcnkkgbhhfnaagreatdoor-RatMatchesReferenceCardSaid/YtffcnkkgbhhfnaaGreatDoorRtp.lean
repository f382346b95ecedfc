
import Derived.Test.YtffcnkkgbhhfnaaGreatDoorRtm
import Derived.Shelf.Strconv.ErrVarAll
namespace Go.Proofs.YtffcnkkgbhhfnaaGreatDoor
open Go.RowKit Go.Instr
set_option linter.unusedVariables false

/-! 'rat.Parse' of every string. -/
def Sent (w : World) (g : Nat) : Prop := ∃ ev, w.cell? ⟨g, 0, none⟩ = some ev ∧ (ev = .nilIface ∨ ∃ te pe, ev = .iface te pe)
theorem sent_below {w w' : World} {g : Nat} (h : Below w.heap.size w w') (s : Sent w g) : Sent w' g := by
  obtain ⟨ev, h1, h2⟩ := s
  exact ⟨ev, cell_below h h1, h2⟩
def Glob2 (w : World) : Prop := Glob w ∧ Sent w 4 ∧ Sent w 5
theorem glob2_below {w w' : World} (h : Below w.heap.size w w') (g : Glob2 w) : Glob2 w' := ⟨glob_below h g.1, sent_below h g.2.1, sent_below h g.2.2⟩
def atV (l : List UInt8) : Int := match Lib.atoiAll l with
  | .ok v => v
  | .syntax => 0
  | .range => Lib.atoiSat l
theorem atV_ok {l : List UInt8} {v : Int} (h : Lib.atoiAll l = .ok v) : atV l = v := by unfold atV; rw [h]
theorem atV_bounds (l : List UInt8) : I64 (atV l) := by
  unfold atV
  split
  · next v h => exact Lib.atoiAll_bounds h
  · exact ⟨by omega, by omega⟩
  · unfold Lib.atoiSat
    split
    · exact ⟨by omega, by omega⟩
    · exact ⟨by omega, by omega⟩
theorem atoi_any (l : List UInt8) (hmax : l.length ≤ 100) (v : Int) (h : atV l = v) (w : World) (g : Glob2 w) :
    Calls Tryz.prog 62 #[.string ⟨l.toArray⟩] w fun e w' => ∃ u, e = .returned (.tuple #[.int .i64 v, u]) ∧ Below w.heap.size w w' := by
  subst h
  obtain ⟨-, ⟨ev, s1, s2⟩, ⟨ev', r1, r2⟩⟩ := g
  cases hl : Lib.atoiAll l with
  | ok v =>
    rw [atV_ok hl]
    exact (atoi_ok l hmax v hl w).mono fun e w' ⟨h1, h2⟩ => ⟨_, h1, h2⟩
  | «syntax» =>
    rw [show atV l = 0 by unfold atV; rw [hl]]
    exact (Tryz.strconv_Atoi_syntax ⟨l.toArray⟩ (by simp [ByteArray.size]; omega) (by simp; exact hl) ev w s1 s2).mono fun e w' ⟨N, h1, h2, h3, h4⟩ => ⟨_, h1, h4⟩
  | range =>
    rw [show atV l = Lib.atoiSat l by unfold atV; rw [hl]]
    exact (Tryz.strconv_Atoi_range ⟨l.toArray⟩ (by simp [ByteArray.size]; omega) (by simp; exact hl) ev' w r1 r2).mono fun e w' ⟨N, h1, h2, h3, h4⟩ => ⟨_, by simpa using h1, h4⟩

set_option maxHeartbeats 4000000 in
theorem parse_go (s : ByteArray) (hs : s.size ≤ 40) (l r : List UInt8) (fd : Bool) (hc : Lib.cut s.data.toList [47] = (l, r, fd)) (hl : l.length ≤ 100) (hr : r.length ≤ 100) (n d : Int) (hn : atV l = n)
    (hd : atV (if fd = true then r else [49]) = d) (x y : Bool) (hx : validB n d = x) (hy : ((⟨(textL n d).toArray⟩ : ByteArray).toList == s.toList) = y) (w : World) (g : Glob2 w) :
    Calls Tryz.prog 48 #[.string s] w fun e w' => e = .returned (parseV x y n d) ∧ Below w.heap.size w w' := by
  have bn : I64 n := hn ▸ atV_bounds _
  have bd : I64 d := hd ▸ atV_bounds _
  have CT := hid (fun w g => cut_any s ⟨#[47]⟩ (by omega) w g)
  rw [show ((⟨#[47]⟩ : ByteArray).data.toList) = [47] from rfl, hc] at CT
  have A1 := hid (fun w g => atoi_any l hl n hn w g)
  have V := hid (fun w => valid_any n d bn bd w)
  rw [hx] at V
  have T := hid (fun w g => text_any n d bn bd w g)
  obtain ⟨t, ht⟩ : ∃ t : ByteArray, (⟨(textL n d).toArray⟩ : ByteArray) = t := ⟨_, rfl⟩
  rw [ht] at T hy
  obtain ⟨L, hL⟩ : ∃ t : ByteArray, (⟨l.toArray⟩ : ByteArray) = t := ⟨_, rfl⟩
  obtain ⟨R, hR⟩ : ∃ t : ByteArray, (⟨r.toArray⟩ : ByteArray) = t := ⟨_, rfl⟩
  have CT2 := hid (fun w g => CT.out w g)
  simp only [hL, hR] at CT2
  rw [hL] at A1
  have x1 : decide ((40 : Int) < (s.size : Int)) = false := by simp; omega
  have GL := hid g
  cases fd
  · have A2 := hid (fun w g => atoi_any [49] (by simp) d hd w g)
    clear hx ht hL hR hc hn hd CT bn bd hs hl hr g
    go_enter Tryz.func48, Tryz.ntmps48
    go_wp2_with fail
    refine (CT2.out _ (glob_below ((Below.refl _ _).alloc (Nat.le_refl _) _) GL.out.1)).mono ?_
    rintro e w1 ⟨rfl, hb⟩
    have hzP : w.heap.size + 1 ≤ w1.heap.size := by have := hb.size; simp at this; omega
    have P0 : ∀ W, Below w1.heap.size w1 W → W.cell? ⟨w.heap.size, 0, none⟩ = some (.int .i64 0) ∧ W.cell? ⟨w.heap.size, 1, none⟩ = some (.int .i64 0) ∧ W.frozen? ⟨w.heap.size, 0, none⟩ = false ∧ W.frozen? ⟨w.heap.size, 1, none⟩ = false ∧ w1.heap.size ≤ W.heap.size := by
      intro W hW
      exact ⟨cell_below hW (cell_below hb (by simp [go_sem])), cell_below hW (cell_below hb (by simp [go_sem])), (hW.frozen (p := ⟨w.heap.size, 0, none⟩) (by simp; omega)).trans ((hb.frozen (p := ⟨w.heap.size, 0, none⟩) (by first | (simp; done) | (simp; omega))).trans (by simp [go_sem])), (hW.frozen (p := ⟨w.heap.size, 1, none⟩) (by simp; omega)).trans ((hb.frozen (p := ⟨w.heap.size, 1, none⟩) (by first | (simp; done) | (simp; omega))).trans (by simp [go_sem])), hW.size⟩
    have P := hid P0
    clear P0
    have HP := hid hb
    clear hb
    have G1 := hid (glob2_below (((Below.refl _ _).alloc (Nat.le_refl _) _).trans (HP.out.mono (by simp))) GL.out)
    go_wp2_with fail
    refine (A1.out _ G1.out).mono ?_
    rintro e w2 ⟨u2, rfl, hb⟩
    have B2 := hid hb
    clear hb
    go_wp2_with fail
    refine (A2.out _ (glob2_below B2.out G1.out)).mono ?_
    rintro e w3 ⟨u3, rfl, hb⟩
    have B3 := hid (below_step B2.out hb)
    clear hb
    go_wp2_with fail
    refine (V.out _).mono ?_
    rintro e w4 ⟨rfl, hb⟩
    have b0 : w4.cell? ⟨w3.heap.size, 0, none⟩ = some (.int .i64 n) := cell_below hb (by simp [go_sem])
    have b1 : w4.cell? ⟨w3.heap.size, 1, none⟩ = some (.int .i64 d) := cell_below hb (by simp [go_sem])
    have B4 := hid (below_step (below_a B3.out _) hb)
    clear hb
    cases x
    · obtain ⟨p0, p1, p2, p3, zp⟩ := P.out w4 B4.out
      go_wp2_with fail
      exact bodyPost_ret (v := .tuple #[.agg #[.int .i64 0, .int .i64 0], .int .i64 3]) (by simp [results, Tryz.results48, p0, p1, go_sem]) rfl ⟨rfl, ((((((Below.refl _ _).alloc (by first | exact Nat.le_refl _ | (simp; done) | (simp; omega) | omega | (simp [World.drewN]; omega)) _).trans (HP.out.mono (by first | exact Nat.le_refl _ | (simp; done) | (simp; omega) | omega | (simp [World.drewN]; omega)))).trans (B4.out.mono (by first | exact Nat.le_refl _ | (simp; done) | (simp; omega) | omega | (simp [World.drewN]; omega)))).setCell (by first | exact Nat.le_refl _ | (simp; done) | (simp; omega) | omega | (simp [World.drewN]; omega)) _).setCell (by first | exact Nat.le_refl _ | (simp; done) | (simp; omega) | omega | (simp [World.drewN]; omega)) _)⟩
    · go_wp2_with fail
      refine (T.out _ (glob_below B4.out G1.out.1)).mono ?_
      rintro e w5 ⟨rfl, hb⟩
      have b2 := cell_below hb b0
      have b3 := cell_below hb b1
      have B5 := hid (below_step B4.out hb)
      clear hb b0 b1
      obtain ⟨p0, p1, p2, p3, zp⟩ := P.out w5 B5.out
      cases y
      · have hy2 : (!t.toList == s.toList) = true := by rw [hy]; rfl
        go_wp2_with fail
        exact bodyPost_ret (v := .tuple #[.agg #[.int .i64 0, .int .i64 0], .int .i64 3]) (by simp [results, Tryz.results48, p0, p1, go_sem]) rfl ⟨rfl, ((((((Below.refl _ _).alloc (by first | exact Nat.le_refl _ | (simp; done) | (simp; omega) | omega | (simp [World.drewN]; omega)) _).trans (HP.out.mono (by first | exact Nat.le_refl _ | (simp; done) | (simp; omega) | omega | (simp [World.drewN]; omega)))).trans (B5.out.mono (by first | exact Nat.le_refl _ | (simp; done) | (simp; omega) | omega | (simp [World.drewN]; omega)))).setCell (by first | exact Nat.le_refl _ | (simp; done) | (simp; omega) | omega | (simp [World.drewN]; omega)) _).setCell (by first | exact Nat.le_refl _ | (simp; done) | (simp; omega) | omega | (simp [World.drewN]; omega)) _)⟩
      · have hy2 : (!t.toList == s.toList) = false := by rw [hy]; rfl
        go_wp2_with fail
        exact bodyPost_ret (v := .tuple #[.agg #[.int .i64 n, .int .i64 d], .int .i64 0]) (by simp [results, Tryz.results48, p0, p1, go_sem]) rfl ⟨rfl, ((((((Below.refl _ _).alloc (by first | exact Nat.le_refl _ | (simp; done) | (simp; omega) | omega | (simp [World.drewN]; omega)) _).trans (HP.out.mono (by first | exact Nat.le_refl _ | (simp; done) | (simp; omega) | omega | (simp [World.drewN]; omega)))).trans (B5.out.mono (by first | exact Nat.le_refl _ | (simp; done) | (simp; omega) | omega | (simp [World.drewN]; omega)))).setCell (by first | exact Nat.le_refl _ | (simp; done) | (simp; omega) | omega | (simp [World.drewN]; omega)) _).setCell (by first | exact Nat.le_refl _ | (simp; done) | (simp; omega) | omega | (simp [World.drewN]; omega)) _)⟩
  · have A2 := hid (fun w g => atoi_any r hr d hd w g)
    rw [hR] at A2
    clear hx ht hL hR hc hn hd CT bn bd hs hl hr g
    go_enter Tryz.func48, Tryz.ntmps48
    go_wp2_with fail
    refine (CT2.out _ (glob_below ((Below.refl _ _).alloc (Nat.le_refl _) _) GL.out.1)).mono ?_
    rintro e w1 ⟨rfl, hb⟩
    have hzP : w.heap.size + 1 ≤ w1.heap.size := by have := hb.size; simp at this; omega
    have P0 : ∀ W, Below w1.heap.size w1 W → W.cell? ⟨w.heap.size, 0, none⟩ = some (.int .i64 0) ∧ W.cell? ⟨w.heap.size, 1, none⟩ = some (.int .i64 0) ∧ W.frozen? ⟨w.heap.size, 0, none⟩ = false ∧ W.frozen? ⟨w.heap.size, 1, none⟩ = false ∧ w1.heap.size ≤ W.heap.size := by
      intro W hW
      exact ⟨cell_below hW (cell_below hb (by simp [go_sem])), cell_below hW (cell_below hb (by simp [go_sem])), (hW.frozen (p := ⟨w.heap.size, 0, none⟩) (by simp; omega)).trans ((hb.frozen (p := ⟨w.heap.size, 0, none⟩) (by first | (simp; done) | (simp; omega))).trans (by simp [go_sem])), (hW.frozen (p := ⟨w.heap.size, 1, none⟩) (by simp; omega)).trans ((hb.frozen (p := ⟨w.heap.size, 1, none⟩) (by first | (simp; done) | (simp; omega))).trans (by simp [go_sem])), hW.size⟩
    have P := hid P0
    clear P0
    have HP := hid hb
    clear hb
    have G1 := hid (glob2_below (((Below.refl _ _).alloc (Nat.le_refl _) _).trans (HP.out.mono (by simp))) GL.out)
    go_wp2_with fail
    refine (A1.out _ G1.out).mono ?_
    rintro e w2 ⟨u2, rfl, hb⟩
    have B2 := hid hb
    clear hb
    go_wp2_with fail
    refine (A2.out _ (glob2_below B2.out G1.out)).mono ?_
    rintro e w3 ⟨u3, rfl, hb⟩
    have B3 := hid (below_step B2.out hb)
    clear hb
    go_wp2_with fail
    refine (V.out _).mono ?_
    rintro e w4 ⟨rfl, hb⟩
    have b0 : w4.cell? ⟨w3.heap.size, 0, none⟩ = some (.int .i64 n) := cell_below hb (by simp [go_sem])
    have b1 : w4.cell? ⟨w3.heap.size, 1, none⟩ = some (.int .i64 d) := cell_below hb (by simp [go_sem])
    have B4 := hid (below_step (below_a B3.out _) hb)
    clear hb
    cases x
    · obtain ⟨p0, p1, p2, p3, zp⟩ := P.out w4 B4.out
      go_wp2_with fail
      exact bodyPost_ret (v := .tuple #[.agg #[.int .i64 0, .int .i64 0], .int .i64 3]) (by simp [results, Tryz.results48, p0, p1, go_sem]) rfl ⟨rfl, ((((((Below.refl _ _).alloc (by first | exact Nat.le_refl _ | (simp; done) | (simp; omega) | omega | (simp [World.drewN]; omega)) _).trans (HP.out.mono (by first | exact Nat.le_refl _ | (simp; done) | (simp; omega) | omega | (simp [World.drewN]; omega)))).trans (B4.out.mono (by first | exact Nat.le_refl _ | (simp; done) | (simp; omega) | omega | (simp [World.drewN]; omega)))).setCell (by first | exact Nat.le_refl _ | (simp; done) | (simp; omega) | omega | (simp [World.drewN]; omega)) _).setCell (by first | exact Nat.le_refl _ | (simp; done) | (simp; omega) | omega | (simp [World.drewN]; omega)) _)⟩
    · go_wp2_with fail
      refine (T.out _ (glob_below B4.out G1.out.1)).mono ?_
      rintro e w5 ⟨rfl, hb⟩
      have b2 := cell_below hb b0
      have b3 := cell_below hb b1
      have B5 := hid (below_step B4.out hb)
      clear hb b0 b1
      obtain ⟨p0, p1, p2, p3, zp⟩ := P.out w5 B5.out
      cases y
      · have hy2 : (!t.toList == s.toList) = true := by rw [hy]; rfl
        go_wp2_with fail
        exact bodyPost_ret (v := .tuple #[.agg #[.int .i64 0, .int .i64 0], .int .i64 3]) (by simp [results, Tryz.results48, p0, p1, go_sem]) rfl ⟨rfl, ((((((Below.refl _ _).alloc (by first | exact Nat.le_refl _ | (simp; done) | (simp; omega) | omega | (simp [World.drewN]; omega)) _).trans (HP.out.mono (by first | exact Nat.le_refl _ | (simp; done) | (simp; omega) | omega | (simp [World.drewN]; omega)))).trans (B5.out.mono (by first | exact Nat.le_refl _ | (simp; done) | (simp; omega) | omega | (simp [World.drewN]; omega)))).setCell (by first | exact Nat.le_refl _ | (simp; done) | (simp; omega) | omega | (simp [World.drewN]; omega)) _).setCell (by first | exact Nat.le_refl _ | (simp; done) | (simp; omega) | omega | (simp [World.drewN]; omega)) _)⟩
      · have hy2 : (!t.toList == s.toList) = false := by rw [hy]; rfl
        go_wp2_with fail
        exact bodyPost_ret (v := .tuple #[.agg #[.int .i64 n, .int .i64 d], .int .i64 0]) (by simp [results, Tryz.results48, p0, p1, go_sem]) rfl ⟨rfl, ((((((Below.refl _ _).alloc (by first | exact Nat.le_refl _ | (simp; done) | (simp; omega) | omega | (simp [World.drewN]; omega)) _).trans (HP.out.mono (by first | exact Nat.le_refl _ | (simp; done) | (simp; omega) | omega | (simp [World.drewN]; omega)))).trans (B5.out.mono (by first | exact Nat.le_refl _ | (simp; done) | (simp; omega) | omega | (simp [World.drewN]; omega)))).setCell (by first | exact Nat.le_refl _ | (simp; done) | (simp; omega) | omega | (simp [World.drewN]; omega)) _).setCell (by first | exact Nat.le_refl _ | (simp; done) | (simp; omega) | omega | (simp [World.drewN]; omega)) _)⟩


set_option maxHeartbeats 1000000 in
theorem parse_long (s : ByteArray) (hs : 40 < s.size) (w : World) :
    Calls Tryz.prog 48 #[.string s] w fun e w' => e = .returned (.tuple #[.agg #[.int .i64 0, .int .i64 0], .int .i64 3]) ∧ Below w.heap.size w w' := by
  have x1 : decide ((40 : Int) < (s.size : Int)) = true := by simp; omega
  go_enter Tryz.func48, Tryz.ntmps48
  go_wp2_with fail
  exact bodyPost_ret (v := .tuple #[.agg #[.int .i64 0, .int .i64 0], .int .i64 3]) (by simp [results, Tryz.results48, go_sem]) rfl ⟨rfl, by repeat (first | exact Below.refl _ _ | refine Below.setCell ?_ (by first | exact Nat.le_refl _ | (simp; done) | (simp; omega) | omega | (simp [World.drewN]; omega)) _ | refine Below.alloc ?_ (by first | exact Nat.le_refl _ | (simp; done) | (simp; omega) | omega | (simp [World.drewN]; omega)) _)⟩
def psV (s : List UInt8) : Value := .tuple #[.agg #[.int .i64 (psOf s).1, .int .i64 (psOf s).2.1], .int .i64 (psOf s).2.2]
theorem parse_any (s : ByteArray) (w : World) (g : Glob2 w) :
    Calls Tryz.prog 48 #[.string s] w fun e w' => e = .returned (psV s.data.toList) ∧ Below w.heap.size w w' := by
  have hsz : s.data.toList.length = s.size := by simp
  by_cases hs : 40 < s.size
  · have : psOf s.data.toList = (0, 0, 3) := psOf_none _ fun n d h1 h2 => by
      have := text_len n d h1
      rw [h2] at this
      omega
    unfold psV
    rw [this]
    exact parse_long s hs w
  · have hcl : (Lib.cut s.data.toList [47]).1.length ≤ 100 ∧ (Lib.cut s.data.toList [47]).2.1.length ≤ 100 := by
      unfold Lib.cut
      split
      · simp only [List.length_take, List.length_drop]; omega
      · simp only [List.length_nil]; omega
    obtain ⟨c, hc⟩ : ∃ c, Lib.cut s.data.toList [47] = c := ⟨_, rfl⟩
    have hc2 := hc
    rw [hc] at hcl
    obtain ⟨l, r, fd⟩ := c
    have H := parse_go s (by omega) l r fd hc hcl.1 hcl.2 _ _ rfl rfl _ _ rfl rfl w g
    have hk := ps_check s.data.toList (atV l) (atV (if fd = true then r else [49])) (fun n d h1 h2 => by
      have ht := text_parts n d h1
      rw [h2, hc2] at ht
      exact ⟨atV_ok ht.1, atV_ok ht.2⟩)
    refine H.mono fun e w' ⟨h1, h2⟩ => ⟨?_, h2⟩
    rw [h1]
    generalize atV l = n at *
    generalize atV (if fd = true then r else [49]) = d at *
    unfold psV
    rw [← hk]
    have hb : ((⟨(textL n d).toArray⟩ : ByteArray).toList == s.toList) = (textL n d == s.data.toList) := by
      rw [Lib.toList_data, Lib.toList_data]
    rw [hb]
    unfold parseV
    by_cases hq : (validB n d && (textL n d == s.data.toList)) = true
    · rw [if_pos hq, if_pos hq]
    · rw [if_neg hq, if_neg hq]
set_option maxHeartbeats 1000000 in
theorem parsed_at (s : ByteArray) (N D E : Int) (w : World) (C : ∀ W : World, Below w.heap.size w W → Calls Tryz.prog 48 #[.string s] W fun e w' => e = .returned (.tuple #[.agg #[.int .i64 N, .int .i64 D], .int .i64 E]) ∧ Below W.heap.size W w') :
    Calls Tryz.prog 28 #[.string s] w fun e w' => e = .returned (.agg #[.int .i64 N, .int .i64 D, .int .i64 E]) ∧ Below w.heap.size w w' := by
  have C := hid C
  go_enter Tryz.func28, Tryz.ntmps28
  go_wp2_with fail
  refine (C.out _ (below_a (Below.refl _ _) _)).mono ?_
  rintro e w1 ⟨rfl, hb⟩
  have hzP : w.heap.size + 1 ≤ w1.heap.size := by have := hb.size; simp at this; omega
  have P0 : ∀ W, Below w1.heap.size w1 W → W.cell? ⟨w.heap.size, 0, none⟩ = some (.int .i64 0) ∧ W.cell? ⟨w.heap.size, 1, none⟩ = some (.int .i64 0) ∧ W.cell? ⟨w.heap.size, 2, none⟩ = some (.int .i64 0) ∧ W.frozen? ⟨w.heap.size, 0, none⟩ = false ∧ W.frozen? ⟨w.heap.size, 1, none⟩ = false ∧ W.frozen? ⟨w.heap.size, 2, none⟩ = false ∧ w1.heap.size ≤ W.heap.size := by
    intro W hW
    exact ⟨cell_below hW (cell_below hb (by simp [go_sem])), cell_below hW (cell_below hb (by simp [go_sem])), cell_below hW (cell_below hb (by simp [go_sem])), (hW.frozen (p := ⟨w.heap.size, 0, none⟩) (by simp; omega)).trans ((hb.frozen (p := ⟨w.heap.size, 0, none⟩) (by first | (simp; done) | (simp; omega))).trans (by simp [go_sem])), (hW.frozen (p := ⟨w.heap.size, 1, none⟩) (by simp; omega)).trans ((hb.frozen (p := ⟨w.heap.size, 1, none⟩) (by first | (simp; done) | (simp; omega))).trans (by simp [go_sem])), (hW.frozen (p := ⟨w.heap.size, 2, none⟩) (by simp; omega)).trans ((hb.frozen (p := ⟨w.heap.size, 2, none⟩) (by first | (simp; done) | (simp; omega))).trans (by simp [go_sem])), hW.size⟩
  have P := hid P0
  clear P0
  have HP := hid hb
  clear hb
  have K := fun o => P.out (w1.alloc o) (below_a (Below.refl _ _) o)
  have k0 := fun o => (K o).1
  have k1 := fun o => (K o).2.1
  have k2 := fun o => (K o).2.2.1
  have k3 := fun o => (K o).2.2.2.1
  have k4 := fun o => (K o).2.2.2.2.1
  have k5 := fun o => (K o).2.2.2.2.2.1
  clear K
  go_wp2
  exact bodyPost_ret (v := .agg #[.int .i64 N, .int .i64 D, .int .i64 E]) (by simp [results, Tryz.results28, k0, k1, k2, go_sem]) rfl ⟨rfl, (((((((Below.refl _ _).alloc (by first | exact Nat.le_refl _ | (simp; done) | (simp; omega) | omega | (simp [World.drewN]; omega)) _).trans (HP.out.mono (by first | exact Nat.le_refl _ | (simp; done) | (simp; omega) | omega | (simp [World.drewN]; omega)))).alloc (by first | exact Nat.le_refl _ | (simp; done) | (simp; omega) | omega | (simp [World.drewN]; omega)) _).setCell (by first | exact Nat.le_refl _ | (simp; done) | (simp; omega) | omega | (simp [World.drewN]; omega)) _).setCell (by first | exact Nat.le_refl _ | (simp; done) | (simp; omega) | omega | (simp [World.drewN]; omega)) _).setCell (by first | exact Nat.le_refl _ | (simp; done) | (simp; omega) | omega | (simp [World.drewN]; omega)) _)⟩


def psR (s : List UInt8) : Value := .agg #[.int .i64 (psOf s).1, .int .i64 (psOf s).2.1, .int .i64 (psOf s).2.2]
theorem parsed_any (s : ByteArray) (w : World) (g : Glob2 w) :
    Calls Tryz.prog 28 #[.string s] w fun e w' => e = .returned (psR s.data.toList) ∧ Below w.heap.size w w' :=
  parsed_at s _ _ _ w (fun W hW => parse_any s W (glob2_below hW g))
end Go.Proofs.YtffcnkkgbhhfnaaGreatDoor

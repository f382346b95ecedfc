
import Derived.Test.YtffcnkkgbhhfnaaGreatDoorRy
namespace Go.Proofs.YtffcnkkgbhhfnaaGreatDoor
open Go.RowKit Go.Instr
set_option linter.unusedVariables false

theorem field_e (N D E : Int) (w : World) : (Instr.field 28 (.agg #[.int .i64 N, .int .i64 D, .int .i64 E]) 1).run Tryz.prog w = .ok (.int .i64 E) w := by kernel_rfl
theorem field_f (N D E : Int) (w : World) : (Instr.field 28 (.agg #[.int .i64 N, .int .i64 D, .int .i64 E]) 0).run Tryz.prog w = .ok (.agg #[.int .i64 N, .int .i64 D]) w := by kernel_rfl

set_option maxRecDepth 100000 in
set_option maxHeartbeats 8000000 in
theorem examples_any (w : World) (g : Glob w) : Calls Tryz.prog 4 #[] w fun e w' => e = .returned (.bool true) ∧ Below w.heap.size w w' := by
  have GL := hid g
  clear g
  have fe := field_e
  go_enter Tryz.func4, Tryz.ntmps4
  go_wp2_with fail
  refine (most_any _).mono ?_
  rintro e w0 ⟨rfl, hw0⟩
  rw [hw0]
  clear hw0
  go_wp2_with fail
  refine (x1 _).mono ?_
  rintro e w1 ⟨rfl, hb⟩
  have hzP : w.heap.size + 3 ≤ w1.heap.size := by have := hb.size; simp at this; omega
  have P0 : ∀ W, Below w1.heap.size w1 W → W.cell? ⟨w.heap.size, 0, none⟩ = some (.int .i64 1) ∧ W.cell? ⟨w.heap.size, 1, none⟩ = some (.int .i64 6) ∧ W.cell? ⟨w.heap.size + 1, 0, none⟩ = some (.int .i64 1) ∧ W.cell? ⟨w.heap.size + 1, 1, none⟩ = some (.int .i64 10) ∧ W.cell? ⟨w.heap.size + 1 + 1, 0, none⟩ = some (.int .i64 4611686018427387904) ∧ W.cell? ⟨w.heap.size + 1 + 1, 1, none⟩ = some (.int .i64 1) ∧ w1.heap.size ≤ W.heap.size := by
    intro W hW
    exact ⟨cell_below hW (cell_below hb (by simp [go_sem])), cell_below hW (cell_below hb (by simp [go_sem])), cell_below hW (cell_below hb (by simp [go_sem])), cell_below hW (cell_below hb (by simp [go_sem])), cell_below hW (cell_below hb (by simp [go_sem])), cell_below hW (cell_below hb (by simp [go_sem])), hW.size⟩
  have P := hid P0
  clear P0
  have HP := hid hb
  clear hb
  have BW := hid ((((((Below.refl _ _).alloc (by first | exact Nat.le_refl _ | (simp; done) | (simp; omega) | omega | (simp [World.drewN]; omega)) _).alloc (by first | exact Nat.le_refl _ | (simp; done) | (simp; omega) | omega | (simp [World.drewN]; omega)) _).alloc (by first | exact Nat.le_refl _ | (simp; done) | (simp; omega) | omega | (simp [World.drewN]; omega)) _).trans (HP.out.mono (by first | exact Nat.le_refl _ | (simp; done) | (simp; omega) | omega | (simp [World.drewN]; omega)))))
  have B1 := hid (Below.refl w1.heap.size w1)
  obtain ⟨q0, q1, q2, q3, q4, q5, zq⟩ := P.out w1 B1.out
  go_wp2_with fail
  refine (is_any (-3) 2 _).mono ?_
  rintro e w2 ⟨rfl, hb⟩
  have B2 := hid (below_step B1.out hb)
  clear hb q0 q1 q2 q3 q4 q5 zq
  obtain ⟨q0, q1, q2, q3, q4, q5, zq⟩ := P.out w2 B2.out
  go_wp2_with fail
  refine (x2 _).mono ?_
  rintro e w3 ⟨rfl, hb⟩
  have B3 := hid (below_step B2.out hb)
  clear hb q0 q1 q2 q3 q4 q5 zq
  obtain ⟨q0, q1, q2, q3, q4, q5, zq⟩ := P.out w3 B3.out
  go_wp2_with fail
  refine (is_any 0 1 _).mono ?_
  rintro e w4 ⟨rfl, hb⟩
  have B4 := hid (below_step B3.out hb)
  clear hb q0 q1 q2 q3 q4 q5 zq
  obtain ⟨q0, q1, q2, q3, q4, q5, zq⟩ := P.out w4 B4.out
  go_wp2_with fail
  refine (x3 _).mono ?_
  rintro e w5 ⟨rfl, hb⟩
  have B5 := hid (below_step B4.out hb)
  clear hb q0 q1 q2 q3 q4 q5 zq
  obtain ⟨q0, q1, q2, q3, q4, q5, zq⟩ := P.out w5 B5.out
  go_wp2_with fail
  refine (x4 _).mono ?_
  rintro e w6 ⟨rfl, hb⟩
  have B6 := hid (below_step B5.out hb)
  clear hb q0 q1 q2 q3 q4 q5 zq
  obtain ⟨q0, q1, q2, q3, q4, q5, zq⟩ := P.out w6 B6.out
  go_wp2_with fail
  refine (is_any 4 15 _).mono ?_
  rintro e w7 ⟨rfl, hb⟩
  have B7 := hid (below_step B6.out hb)
  clear hb q0 q1 q2 q3 q4 q5 zq
  obtain ⟨q0, q1, q2, q3, q4, q5, zq⟩ := P.out w7 B7.out
  go_wp2_with fail
  refine (x5 _).mono ?_
  rintro e w8 ⟨rfl, hb⟩
  have B8 := hid (below_step B7.out hb)
  clear hb q0 q1 q2 q3 q4 q5 zq
  obtain ⟨q0, q1, q2, q3, q4, q5, zq⟩ := P.out w8 B8.out
  go_wp2_with fail
  refine (is_any (-1) 6 _).mono ?_
  rintro e w9 ⟨rfl, hb⟩
  have B9 := hid (below_step B8.out hb)
  clear hb q0 q1 q2 q3 q4 q5 zq
  obtain ⟨q0, q1, q2, q3, q4, q5, zq⟩ := P.out w9 B9.out
  go_wp2_with fail
  refine (x6 _).mono ?_
  rintro e w10 ⟨rfl, hb⟩
  have B10 := hid (below_step B9.out hb)
  clear hb q0 q1 q2 q3 q4 q5 zq
  obtain ⟨q0, q1, q2, q3, q4, q5, zq⟩ := P.out w10 B10.out
  go_wp2_with fail
  refine (x7 _).mono ?_
  rintro e w11 ⟨rfl, hb⟩
  have B11 := hid (below_step B10.out hb)
  clear hb q0 q1 q2 q3 q4 q5 zq
  obtain ⟨q0, q1, q2, q3, q4, q5, zq⟩ := P.out w11 B11.out
  go_wp2_with fail
  refine (x8 _).mono ?_
  rintro e w12 ⟨rfl, hb⟩
  have B12 := hid (below_step B11.out hb)
  clear hb q0 q1 q2 q3 q4 q5 zq
  obtain ⟨q0, q1, q2, q3, q4, q5, zq⟩ := P.out w12 B12.out
  go_wp2_with fail
  refine (is_any 1 1 _).mono ?_
  rintro e w13 ⟨rfl, hb⟩
  have B13 := hid (below_step B12.out hb)
  clear hb q0 q1 q2 q3 q4 q5 zq
  obtain ⟨q0, q1, q2, q3, q4, q5, zq⟩ := P.out w13 B13.out
  go_wp2_with fail
  refine (x9 _).mono ?_
  rintro e w14 ⟨rfl, hb⟩
  have B14 := hid (below_step B13.out hb)
  clear hb q0 q1 q2 q3 q4 q5 zq
  obtain ⟨q0, q1, q2, q3, q4, q5, zq⟩ := P.out w14 B14.out
  go_wp2_with fail
  refine (x10 _).mono ?_
  rintro e w15 ⟨rfl, hb⟩
  have B15 := hid (below_step B14.out hb)
  clear hb q0 q1 q2 q3 q4 q5 zq
  obtain ⟨q0, q1, q2, q3, q4, q5, zq⟩ := P.out w15 B15.out
  go_wp2_with fail
  refine (x11 _).mono ?_
  rintro e w16 ⟨rfl, hb⟩
  have B16 := hid (below_step B15.out hb)
  clear hb q0 q1 q2 q3 q4 q5 zq
  obtain ⟨q0, q1, q2, q3, q4, q5, zq⟩ := P.out w16 B16.out
  go_wp2_with fail
  refine (x12 _).mono ?_
  rintro e w17 ⟨rfl, hb⟩
  have B17 := hid (below_step B16.out hb)
  clear hb q0 q1 q2 q3 q4 q5 zq
  obtain ⟨q0, q1, q2, q3, q4, q5, zq⟩ := P.out w17 B17.out
  go_wp2_with fail
  refine (x13 _ (glob_below (BW.out.trans (B17.out.mono BW.out.size)) GL.out)).mono ?_
  rintro e w18 ⟨rfl, hb⟩
  have B18 := hid (below_step B17.out hb)
  clear hb q0 q1 q2 q3 q4 q5 zq
  obtain ⟨q0, q1, q2, q3, q4, q5, zq⟩ := P.out w18 B18.out
  go_wp2_with fail
  refine (x14 _ (glob_below (BW.out.trans (B18.out.mono BW.out.size)) GL.out)).mono ?_
  rintro e w19 ⟨rfl, hb⟩
  have B19 := hid (below_step B18.out hb)
  clear hb q0 q1 q2 q3 q4 q5 zq
  obtain ⟨q0, q1, q2, q3, q4, q5, zq⟩ := P.out w19 B19.out
  go_wp2_with fail
  refine (x15 _ (glob_below (BW.out.trans (B19.out.mono BW.out.size)) GL.out)).mono ?_
  rintro e w20 ⟨rfl, hb⟩
  have B20 := hid (below_step B19.out hb)
  clear hb q0 q1 q2 q3 q4 q5 zq
  obtain ⟨q0, q1, q2, q3, q4, q5, zq⟩ := P.out w20 B20.out
  go_wp2_with fail
  refine (x16 _ (glob_below (BW.out.trans (B20.out.mono BW.out.size)) GL.out)).mono ?_
  rintro e w21 ⟨rfl, hb⟩
  have B21 := hid (below_step B20.out hb)
  clear hb q0 q1 q2 q3 q4 q5 zq
  obtain ⟨q0, q1, q2, q3, q4, q5, zq⟩ := P.out w21 B21.out
  go_wp2_with fail
  refine (x17 _ (glob_below (BW.out.trans (B21.out.mono BW.out.size)) GL.out)).mono ?_
  rintro e w22 ⟨rfl, hb⟩
  have B22 := hid (below_step B21.out hb)
  clear hb q0 q1 q2 q3 q4 q5 zq
  obtain ⟨q0, q1, q2, q3, q4, q5, zq⟩ := P.out w22 B22.out
  go_wp2_with fail
  refine (is_any (-3) 2 _).mono ?_
  rintro e w23 ⟨rfl, hb⟩
  have B23 := hid (below_step B22.out hb)
  clear hb q0 q1 q2 q3 q4 q5 zq
  obtain ⟨q0, q1, q2, q3, q4, q5, zq⟩ := P.out w23 B23.out
  go_wp2_with fail
  have G9 := hid (glob_below (BW.out.trans (B23.out.mono BW.out.size)) GL.out)
  have hs := Below.refl w23.heap.size w23
  have hsd := hs.drew
  go_region_held3 (fun W => W.cell? ⟨w.heap.size, 0, none⟩ = some (.int .i64 1) ∧ W.cell? ⟨w.heap.size, 1, none⟩ = some (.int .i64 6) ∧ W.cell? ⟨w.heap.size + 1, 0, none⟩ = some (.int .i64 1) ∧ W.cell? ⟨w.heap.size + 1, 1, none⟩ = some (.int .i64 10) ∧ Below w23.heap.size w23 W)
    (first | (with_reducible exact ⟨q0, q1, q2, q3, hs⟩) | (with_reducible exact ⟨cell_below hsd q0, cell_below hsd q1, cell_below hsd q2, cell_below hsd q3, hsd⟩) | (with_reducible exact ⟨cell_below (by with_reducible assumption) q0, cell_below (by with_reducible assumption) q1, cell_below (by with_reducible assumption) q2, cell_below (by with_reducible assumption) q3, (by with_reducible assumption)⟩) | fail)
    (first
      | (go_at_call 24; (with_reducible refine (x18 _ (glob_below (by with_reducible assumption) G9.out)).mono ?_); rintro e y1 ⟨rfl, hy1⟩; have hs1 : Below w23.heap.size w23 y1 := below_step (by with_reducible assumption) hy1)
      | (go_at_call 24; (with_reducible refine (x19 _ (glob_below (by with_reducible assumption) G9.out)).mono ?_); rintro e y2 ⟨rfl, hy2⟩; have hs2 : Below w23.heap.size w23 y2 := below_step (by with_reducible assumption) hy2)
      | (go_at_call 20; (with_reducible refine (x20 _).mono ?_); rintro e y3 ⟨rfl, hy3⟩; have hs3 : Below w23.heap.size w23 y3 := below_step (by with_reducible assumption) hy3)
      | (go_at_call 27; (with_reducible refine (is_any 0 1 _).mono ?_); rintro e y4 ⟨rfl, hy4⟩; have hs4 : Below w23.heap.size w23 y4 := below_step (by with_reducible assumption) hy4)
      | (go_at_call 22; (with_reducible refine (x21 _).mono ?_); rintro e y5 ⟨rfl, hy5⟩; have hs5 : Below w23.heap.size w23 y5 := below_step (by with_reducible assumption) hy5)
      | (go_at_call 23; (with_reducible refine (x22 _).mono ?_); rintro e y6 ⟨rfl, hy6⟩; have hs6 : Below w23.heap.size w23 y6 := below_step (by with_reducible assumption) hy6))
  all_goals
    go_wp2_with fail
    go_ret
    exact ⟨rfl, (BW.out.trans (B23.out.mono BW.out.size)).trans ((show Below w23.heap.size w23 _ by assumption).mono (BW.out.trans (B23.out.mono BW.out.size)).size)⟩
end Go.Proofs.YtffcnkkgbhhfnaaGreatDoor

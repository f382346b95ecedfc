import Derived.Test.YtdcaecpcofencaaJd2
namespace Go.Proofs.Ytdcaecpcofencaa
open Go.RowKit Go.Instr Go.Deep
set_option maxRecDepth 100000
set_option linter.unusedVariables false
set_option linter.unusedSimpArgs false

/-! gap.formOf, shiftOf. -/
theorem equal_a3 (a b c p q r : Int) (w : World) : (Op.equalIn 10000 87 (.agg #[.int .i64 a, .int .i64 b, .int .i64 c]) (.agg #[.int .i64 p, .int .i64 q, .int .i64 r])).run Try.prog w = .ok (a == p && (b == q && c == r)) w := by
  have u3 := Try.underlying3
  have a3 := Try.isAgg3
  have z3 := Try.sizeOf3
  rw [show (10000 : Nat) = 9999 + 1 from rfl, Op.equalIn]
  simp only [Sem.run_bind, run_underlying Try.underlying87, Result.andThen_ok]
  simp only [Std.Legacy.Range.forIn_eq_forIn_range', Std.Legacy.Range.size, Nat.sub_zero, Nat.add_sub_cancel, Nat.div_one, List.range'_succ, List.range'_zero, List.forIn_cons, List.forIn_nil]
  go_simp
  by_cases h1 : a = p <;> by_cases h2 : b = q <;> by_cases h3 : c = r <;> simp [h1, h2, h3]
theorem equal_b2 (a b p q : Bool) (w : World) : (Op.equalIn 10000 26 (.agg #[.bool a, .bool b]) (.agg #[.bool p, .bool q])).run Try.prog w = .ok (a == p && b == q) w := by
  have u3 := Try.underlying4
  have a3 := Try.isAgg4
  have z3 := Try.sizeOf4
  rw [show (10000 : Nat) = 9999 + 1 from rfl, Op.equalIn]
  simp only [Sem.run_bind, run_underlying Try.underlying26, Result.andThen_ok]
  simp only [Std.Legacy.Range.forIn_eq_forIn_range', Std.Legacy.Range.size, Nat.sub_zero, Nat.add_sub_cancel, Nat.div_one, List.range'_succ, List.range'_zero, List.forIn_cons, List.forIn_nil]
  go_simp
  cases a <;> cases b <;> cases p <;> cases q <;> simp
set_option maxRecDepth 100000 in
set_option maxHeartbeats 400000 in
theorem form_var (n v : Int) (oa : Option Addr) (len cap : Nat) (w : World) :
    Calls Try.prog 63 #[.agg #[.int .i64 2, .int .i64 n, .int .i64 v, .slice oa len cap]] w fun e w' => e = .returned (.tuple #[.agg #[.int .i64 n, .int .i64 0], .bool true]) ∧ Below w.heap.size w w' := by
  go_enter Try.func63, Try.ntmps63
  go_wp2
  exact bodyPost_ret (v := .tuple #[.agg #[.int .i64 n, .int .i64 0], .bool true]) (by simp [results, Try.results63, go_sem]) rfl ⟨by rfl, (by repeat (first | with_reducible exact Below.refl _ _ | with_reducible refine Below.setCell ?_ (by first | omega | (dsimp only; omega) | (simp; done) | (simp; omega)) _ | with_reducible refine Below.alloc ?_ (by first | omega | (dsimp only; omega) | (simp; done) | (simp; omega)) _ | with_reducible refine Below.drew ?_ | with_reducible refine drewnA ?_ _))⟩
set_option maxRecDepth 100000 in
set_option maxHeartbeats 400000 in
theorem form_short (op : Int) (n v : Int) (oa : Option Addr) (len cap : Nat) (hop : (op == 2) = false) (hlen : len < 2) (w : World) :
    Calls Try.prog 63 #[.agg #[.int .i64 op, .int .i64 n, .int .i64 v, .slice oa len cap]] w fun e w' => e = .returned (.tuple #[.agg #[.int .i64 0, .int .i64 0], .bool false]) ∧ Below w.heap.size w w' := by
  go_enter Try.func63, Try.ntmps63
  go_wp2
  exact bodyPost_ret (v := .tuple #[.agg #[.int .i64 0, .int .i64 0], .bool false]) (by simp [results, Try.results63, go_sem]) rfl ⟨by rfl, (by repeat (first | with_reducible exact Below.refl _ _ | with_reducible refine Below.setCell ?_ (by first | omega | (dsimp only; omega) | (simp; done) | (simp; omega)) _ | with_reducible refine Below.alloc ?_ (by first | omega | (dsimp only; omega) | (simp; done) | (simp; omega)) _ | with_reducible refine Below.drew ?_ | with_reducible refine drewnA ?_ _))⟩
set_option maxRecDepth 100000 in
set_option maxHeartbeats 1000000 in
theorem form_two (w : World) (op n v : Int) (q off len cap : Nat) (hop : (op == 2) = false) (hlen : 2 ≤ len) (ao an av bo bn bv : Int) (pa pb : Option Addr) (na ka nb kb : Nat) (x0 : w.cell? ⟨q, off, none⟩ = some (.int .i64 ao)) (x1 : w.cell? ⟨q, off + 1, none⟩ = some (.int .i64 an)) (x2 : w.cell? ⟨q, off + 2, none⟩ = some (.int .i64 av)) (x3 : w.cell? ⟨q, off + 3, none⟩ = some (.slice pa na ka)) (x4 : w.cell? ⟨q, off + 4, none⟩ = some (.int .i64 bo)) (x5 : w.cell? ⟨q, off + 5, none⟩ = some (.int .i64 bn)) (x6 : w.cell? ⟨q, off + 6, none⟩ = some (.int .i64 bv)) (x7 : w.cell? ⟨q, off + 7, none⟩ = some (.slice pb nb kb)) (t1 t2 t3 : Bool) (h1 : Hid ((op == 4 && (ao == 2 && bo == 1)) = t1)) (h2 : Hid ((op == 4 && (ao == 1 && bo == 2)) = t2)) (h3 : Hid ((op == 5 && (ao == 2 && bo == 1)) = t3)) (r1 r2 : Int) (r3 : Bool) (hr : Hid ((r1, r2, r3) = if t1 = true then (an, bv, true) else if t2 = true then (bn, av, true) else if t3 = true then (an, wrap64 (-bv), true) else (0, 0, false))) :
    Calls Try.prog 63 #[.agg #[.int .i64 op, .int .i64 n, .int .i64 v, .slice (some ⟨q, off, none⟩) len cap]] w fun e w' => e = .returned (.tuple #[.agg #[.int .i64 r1, .int .i64 r2], .bool r3]) ∧ Below w.heap.size w w' := by
  obtain ⟨w0, hw0⟩ : ∃ w0, ((w.alloc (.cells #[.int .i64 op, .int .i64 n, .int .i64 v, .slice (some ⟨q, off, none⟩) len cap] 34)).alloc (.cells #[.int .i64 0, .int .i64 0] 70)) = w0 := ⟨_, rfl⟩
  have B0 : Hid (Below w.heap.size w w0) := hidA (by rw [← hw0]; exact (((Below.refl _ _).alloc (by first | exact Nat.le_refl _ | (simp; done) | (simp; omega) | omega) _).alloc (by first | exact Nat.le_refl _ | (simp; done) | (simp; omega) | omega) _))
  have hsz : w.heap.size + 1 < w0.heap.size := by rw [← hw0]; simp
  have PK : Hid (∀ W, Below w0.heap.size w0 W → W.cell? ⟨w.heap.size, 0, none⟩ = some (.int .i64 op) ∧ W.cell? ⟨w.heap.size, 1, none⟩ = some (.int .i64 n) ∧ W.cell? ⟨w.heap.size, 2, none⟩ = some (.int .i64 v) ∧ W.cell? ⟨w.heap.size, 3, none⟩ = some (.slice (some ⟨q, off, none⟩) len cap) ∧ W.cell? ⟨w.heap.size + 1, 0, none⟩ = some (.int .i64 0) ∧ W.cell? ⟨w.heap.size + 1, 1, none⟩ = some (.int .i64 0) ∧ w.heap.size < W.heap.size ∧ w.heap.size + 1 < W.heap.size ∧ (∀ i, W.frozen? ⟨w.heap.size + 1, i, none⟩ = false)) := hidA (fun W hW => ⟨cellA hW (by rw [← hw0]; simp [go_sem]), cellA hW (by rw [← hw0]; simp [go_sem]), cellA hW (by rw [← hw0]; simp [go_sem]), cellA hW (by rw [← hw0]; simp [go_sem]), cellA hW (by rw [← hw0]; simp [go_sem]), cellA hW (by rw [← hw0]; simp [go_sem]), (by have h0 := hW.size; have h1 := hsz; omega), (by have h0 := hW.size; have h1 := hsz; omega), (fun i => (hW.frozen (p := ⟨w.heap.size + 1, i, none⟩) (show w.heap.size + 1 < w0.heap.size by have h1 := hsz; omega)).trans (by rw [← hw0]; simp [go_sem]))⟩)
  have Hw := hidA hw0; clear hw0
  have q0 : q < w0.heap.size := Nat.lt_of_lt_of_le (World.block_lt_of_cell? _ _ x0) B0.out.size
  have y0 := cellA B0.out x0
  have y1 := cellA B0.out x1
  have y2 := cellA B0.out x2
  have y3 := cellA B0.out x3
  have y4 := cellA B0.out x4
  have y5 := cellA B0.out x5
  have y6 := cellA B0.out x6
  have y7 := cellA B0.out x7
  clear x0 x1 x2 x3 x4 x5 x6 x7
  go_enter Try.func63, Try.ntmps63
  go_wp2_with fail
  rw [Hw.out]
  clear Hw
  have HS : Hid (Below w0.heap.size w0 w0) := hidA (Below.refl _ _)
  obtain ⟨c0, c1, c2, c3, c4, c5, z0, z1, fr1⟩ := PK.out _ HS.out
  have l0 : 0 < len := by omega
  have l1 : 1 < len := by omega
  go_upto_region 5 with (fail)
  go_cut [4, 5] (fun s t W => ∃ g h : Nat, s = .pointer (some ⟨g, 0, none⟩) ∧ t = .pointer (some ⟨h, 0, none⟩) ∧ Below w0.heap.size w0 W ∧ W.cell? ⟨g, 0, none⟩ = some (.int .i64 ao) ∧ W.cell? ⟨g, 1, none⟩ = some (.int .i64 an) ∧ W.cell? ⟨g, 2, none⟩ = some (.int .i64 av) ∧ W.cell? ⟨h, 0, none⟩ = some (.int .i64 bo) ∧ W.cell? ⟨h, 1, none⟩ = some (.int .i64 bn) ∧ W.cell? ⟨h, 2, none⟩ = some (.int .i64 bv))
  case first =>
    go_region
    all_goals
      go_wp2_with fail
      go_meet
      exact ⟨_, _, rfl, rfl, (by repeat (first | with_reducible exact Below.refl _ _ | with_reducible exact HS.out | with_reducible refine Below.setCell ?_ (by first | omega | (dsimp only; omega) | (simp; done) | (simp; omega)) _ | with_reducible refine Below.alloc ?_ (by first | omega | (dsimp only; omega) | (simp; done) | (simp; omega)) _ | with_reducible refine Below.drew ?_ | with_reducible refine drewnA ?_ _ | with_reducible refine Below.trans ?_ (HS.out.mono (by first | omega | (dsimp only; omega) | (simp; done) | (simp; omega))))), (by simp [go_sem, *]; done), (by simp [go_sem, *]; done), (by simp [go_sem, *]; done), (by simp [go_sem, *]; done), (by simp [go_sem, *]; done), (by simp [go_sem, *]; done)⟩
  case rest =>
    obtain ⟨g, h, rfl, rfl, hs1, a0, a1, a2, b0, b1, b2⟩ := hcut
    clear y0 y1 y2 y3 y4 y5 y6 y7 q0 l0 l1
    have HS' := hidA hs1; clear HS hs1; clear c0 c1 c2 c3 c4 c5 z0 z1 fr1; have HS := HS'; clear HS'; obtain ⟨c0, c1, c2, c3, c4, c5, z0, z1, fr1⟩ := PK.out _ HS.out
    have E1 : ∀ w, (Op.equalIn 10000 87 (.agg #[.int .i64 op, .int .i64 ao, .int .i64 bo]) (.agg #[.int .i64 4, .int .i64 2, .int .i64 1])).run Try.prog w = .ok t1 w := fun w => by rw [equal_a3, h1.out]
    have E2 : ∀ w, (Op.equalIn 10000 87 (.agg #[.int .i64 op, .int .i64 ao, .int .i64 bo]) (.agg #[.int .i64 4, .int .i64 1, .int .i64 2])).run Try.prog w = .ok t2 w := fun w => by rw [equal_a3, h2.out]
    have E3 : ∀ w, (Op.equalIn 10000 87 (.agg #[.int .i64 op, .int .i64 ao, .int .i64 bo]) (.agg #[.int .i64 5, .int .i64 2, .int .i64 1])).run Try.prog w = .ok t3 w := fun w => by rw [equal_a3, h3.out]
    cases t1
    · cases t2
      · cases t3
        · go_wp2
          exact bodyPost_ret (v := .tuple #[.agg #[.int .i64 0, .int .i64 0], .bool false]) (by simp [results, Try.results63, go_sem, *]) rfl ⟨by obtain ⟨rfl, rfl, rfl⟩ : r1 = _ ∧ r2 = _ ∧ r3 = _ := (by simpa using hr.out); rfl, (by repeat (first | with_reducible exact Below.refl _ _ | with_reducible exact HS.out | with_reducible exact B0.out | with_reducible refine Below.setCell ?_ (by first | omega | (dsimp only; omega) | (simp; done) | (simp; omega)) _ | with_reducible refine Below.alloc ?_ (by first | omega | (dsimp only; omega) | (simp; done) | (simp; omega)) _ | with_reducible refine Below.drew ?_ | with_reducible refine drewnA ?_ _ | with_reducible refine Below.trans ?_ (HS.out.mono (by first | omega | (dsimp only; omega) | (simp; done) | (simp; omega))) | with_reducible refine Below.trans ?_ (B0.out.mono (by first | omega | (dsimp only; omega) | (simp; done) | (simp; omega)))))⟩
        · go_wp2
          exact bodyPost_ret (v := .tuple #[.agg #[.int .i64 an, .int .i64 (wrap64 (-bv))], .bool true]) (by simp [results, Try.results63, go_sem, *]) rfl ⟨by obtain ⟨rfl, rfl, rfl⟩ : r1 = _ ∧ r2 = _ ∧ r3 = _ := (by simpa using hr.out); rfl, (by repeat (first | with_reducible exact Below.refl _ _ | with_reducible exact HS.out | with_reducible exact B0.out | with_reducible refine Below.setCell ?_ (by first | omega | (dsimp only; omega) | (simp; done) | (simp; omega)) _ | with_reducible refine Below.alloc ?_ (by first | omega | (dsimp only; omega) | (simp; done) | (simp; omega)) _ | with_reducible refine Below.drew ?_ | with_reducible refine drewnA ?_ _ | with_reducible refine Below.trans ?_ (HS.out.mono (by first | omega | (dsimp only; omega) | (simp; done) | (simp; omega))) | with_reducible refine Below.trans ?_ (B0.out.mono (by first | omega | (dsimp only; omega) | (simp; done) | (simp; omega)))))⟩
      · go_wp2
        exact bodyPost_ret (v := .tuple #[.agg #[.int .i64 bn, .int .i64 av], .bool true]) (by simp [results, Try.results63, go_sem, *]) rfl ⟨by obtain ⟨rfl, rfl, rfl⟩ : r1 = _ ∧ r2 = _ ∧ r3 = _ := (by simpa using hr.out); rfl, (by repeat (first | with_reducible exact Below.refl _ _ | with_reducible exact HS.out | with_reducible exact B0.out | with_reducible refine Below.setCell ?_ (by first | omega | (dsimp only; omega) | (simp; done) | (simp; omega)) _ | with_reducible refine Below.alloc ?_ (by first | omega | (dsimp only; omega) | (simp; done) | (simp; omega)) _ | with_reducible refine Below.drew ?_ | with_reducible refine drewnA ?_ _ | with_reducible refine Below.trans ?_ (HS.out.mono (by first | omega | (dsimp only; omega) | (simp; done) | (simp; omega))) | with_reducible refine Below.trans ?_ (B0.out.mono (by first | omega | (dsimp only; omega) | (simp; done) | (simp; omega)))))⟩
    · go_wp2
      exact bodyPost_ret (v := .tuple #[.agg #[.int .i64 an, .int .i64 bv], .bool true]) (by simp [results, Try.results63, go_sem, *]) rfl ⟨by obtain ⟨rfl, rfl, rfl⟩ : r1 = _ ∧ r2 = _ ∧ r3 = _ := (by simpa using hr.out); rfl, (by repeat (first | with_reducible exact Below.refl _ _ | with_reducible exact HS.out | with_reducible exact B0.out | with_reducible refine Below.setCell ?_ (by first | omega | (dsimp only; omega) | (simp; done) | (simp; omega)) _ | with_reducible refine Below.alloc ?_ (by first | omega | (dsimp only; omega) | (simp; done) | (simp; omega)) _ | with_reducible refine Below.drew ?_ | with_reducible refine drewnA ?_ _ | with_reducible refine Below.trans ?_ (HS.out.mono (by first | omega | (dsimp only; omega) | (simp; done) | (simp; omega))) | with_reducible refine Below.trans ?_ (B0.out.mono (by first | omega | (dsimp only; omega) | (simp; done) | (simp; omega)))))⟩
end Go.Proofs.Ytdcaecpcofencaa

import Derived.Test.YtdcaecpcofencaaJy
namespace Go.Proofs.Ytdcaecpcofencaa
open Go.RowKit Go.Instr Go.Deep
set_option maxRecDepth 100000
set_option linter.unusedVariables false
set_option linter.unusedSimpArgs false

/-! whole. -/
theorem nil_in (w : World) : intsIn w [] (.slice none 0 0) := ⟨none, 0, rfl, Nat.le_refl _, by omega, fun i hi => absurd hi (by simp)⟩
/-- Whether an expression over values does not wrap around. -/
def wholeB (V : List Int) (n : Nat) (op nn v : Int) (l : List Ex) : Bool :=
  (shiftT n op nn l).2.2 && (decide (-2147483648 ≤ V.getD (shiftT n op nn l).1 0 + (shiftT n op nn l).2.1) && (decide (V.getD (shiftT n op nn l).1 0 + (shiftT n op nn l).2.1 ≤ 2147483647) && (evalE V [] (.mk op nn v l) == V.getD (shiftT n op nn l).1 0 + (shiftT n op nn l).2.1)))
set_option maxRecDepth 100000 in
set_option maxHeartbeats 4000000 in
theorem whole_any (w : World) (op nn v : Int) (l : List Ex) (hok : ExOk l) (oa : Option Addr) (len cap : Nat) (hlen : l.length = len) (hx : exIn w (.mk op nn v l) (.agg #[.int .i64 op, .int .i64 nn, .int .i64 v, .slice oa len cap])) (V : List Int) (n : Nat) (ov : Option Addr) (kv : Nat) (LV : V.length = n) (hV : intsIn w V (.slice ov n kv)) (hv32 : ∀ i, -2147483648 ≤ V.getD i 0 ∧ V.getD i 0 ≤ 2147483647) :
    Calls Try.prog 35 #[.agg #[.int .i64 op, .int .i64 nn, .int .i64 v, .slice oa len cap], .slice ov n kv] w fun e w' => e = .returned (.bool (wholeB V n op nn v l)) ∧ Below w.heap.size w w' := by
  obtain ⟨w0, hw0⟩ : ∃ w0, (w.alloc (.cells #[.int .i64 op, .int .i64 nn, .int .i64 v, .slice oa len cap] 34)) = w0 := ⟨_, rfl⟩
  have B0 : Hid (Below w.heap.size w w0) := hidA (by rw [← hw0]; exact ((Below.refl _ _).alloc (by first | exact Nat.le_refl _ | (simp; done) | (simp; omega) | omega) _))
  have hsz : w.heap.size < w0.heap.size := by rw [← hw0]; simp
  have PK : Hid (∀ W, Below w0.heap.size w0 W → W.cell? ⟨w.heap.size, 0, none⟩ = some (.int .i64 op) ∧ W.cell? ⟨w.heap.size, 1, none⟩ = some (.int .i64 nn) ∧ W.cell? ⟨w.heap.size, 2, none⟩ = some (.int .i64 v) ∧ W.cell? ⟨w.heap.size, 3, none⟩ = some (.slice oa len cap) ∧ w.heap.size < W.heap.size) := hidA (fun W hW => ⟨cellA hW (by rw [← hw0]; simp [go_sem]), cellA hW (by rw [← hw0]; simp [go_sem]), cellA hW (by rw [← hw0]; simp [go_sem]), cellA hW (by rw [← hw0]; simp [go_sem]), (by have h0 := hW.size; have h1 := hsz; omega)⟩)
  have Hw := hidA hw0; clear hw0
  have hx0 := exIn_below B0.out _ _ hx
  have CS := hidA (rshift_any w0 op nn v l hok oa len cap n hlen hx0)
  have CE : Hid (∀ W, Below w.heap.size w W → Calls Try.prog 36 #[.agg #[.int .i64 op, .int .i64 nn, .int .i64 v, .slice oa len cap], .slice ov n kv, .slice none 0 0] W fun e w' => e = .returned (.int .i64 (evalE V [] (.mk op nn v l))) ∧ Below W.heap.size W w') := hidA (fun W hW => reval_any V [] _ _ _ _ W (exIn_below hW _ _ hx) (intsIn_below hW hV) (nil_in W))
  have hlt := shiftT_lt (vars := n) (op := op) (n := nn) (l := l)
  have hcb := shiftT_bd n op nn l
  obtain ⟨r, hr⟩ : ∃ r, wholeB V n op nn v l = r := ⟨_, rfl⟩
  have HR := hidA hr
  rw [hr]
  clear hr hx0
  unfold wholeB at HR
  unfold shV at CS
  generalize shiftT n op nn l = sT at *
  obtain ⟨k, c, is⟩ := sT
  dsimp only at *
  cases is
  · have HR2 : Hid (false = r) := hidA (by simpa using HR.out)
    clear HR hlt
    go_enter Try.func35, Try.ntmps35
    go_upto_region 1 with (fail)
    rw [Hw.out]
    clear Hw
    obtain ⟨c0, c1, c2, c3, z0⟩ := PK.out _ (Below.refl _ _)
    go_upto_region 2 with ((go_at_call 49; refine (CS.out).mono ?_; rintro e w1 ⟨rfl, hb⟩; have HS := hidA hb; obtain ⟨c0, c1, c2, c3, z0⟩ := PK.out _ hb; clear hb))
    go_quiet (fail)
    go_wp2
    go_ret
    exact ⟨retB HR2.out, (by repeat (first | with_reducible exact Below.refl _ _ | with_reducible exact (drewnA (stepA B0.out HS.out) _) | with_reducible exact B0.out | with_reducible refine Below.setCell ?_ (by first | omega | (dsimp only; omega) | (simp; done) | (simp; omega)) _ | with_reducible refine Below.alloc ?_ (by first | omega | (dsimp only; omega) | (simp; done) | (simp; omega)) _ | with_reducible refine Below.drew ?_ | with_reducible refine drewnA ?_ _ | with_reducible refine Below.trans ?_ ((drewnA (stepA B0.out HS.out) _).mono (by first | omega | (dsimp only; omega) | (simp; done) | (simp; omega))) | with_reducible refine Below.trans ?_ (B0.out.mono (by first | omega | (dsimp only; omega) | (simp; done) | (simp; omega)))))⟩
  · have hkn : k < n := hlt rfl
    have hkz : (k : Int) < (n : Int) := by omega
    have HVw := hidA hV
    obtain ⟨vb, vo, rfl, y0⟩ := intsIn_at hV (k := k) (by omega)
    have xb := hv32 k
    obtain ⟨x, hx'⟩ : ∃ x, V.getD k 0 = x := ⟨_, rfl⟩
    rw [hx'] at y0 xb HR
    clear hx' hlt
    by_cases g1 : -2147483648 ≤ x + c
    · by_cases g2 : x + c ≤ 2147483647
      · obtain ⟨E, hE⟩ : ∃ E, evalE V [] (.mk op nn v l) = E := ⟨_, rfl⟩
        rw [hE] at CE HR
        have HR2 : Hid ((E == x + c) = r) := hidA (by have := HR.out; simpa [g1, g2] using this)
        clear HR hE
        obtain ⟨q, hq⟩ : ∃ q, (E == x + c) = q := ⟨_, rfl⟩
        have HQ : Hid (q = r) := hidA (by rw [← hq]; exact HR2.out)
        clear HR2
        go_enter Try.func35, Try.ntmps35
        go_upto_region 1 with (fail)
        rw [Hw.out]
        clear Hw
        obtain ⟨c0, c1, c2, c3, z0⟩ := PK.out _ (Below.refl _ _)
        go_upto_region 2 with ((go_at_call 49; refine (CS.out).mono ?_; rintro e w1 ⟨rfl, hb⟩; have HS := hidA hb; obtain ⟨c0, c1, c2, c3, z0⟩ := PK.out _ hb; clear hb))
        have y1 := cellA (stepA B0.out HS.out) y0
        clear y0
        have PKV : Hid (∀ W, Below w1.heap.size w1 W → W.cell? ⟨vb, vo + k, none⟩ = some (.int .i64 x) ∧ W.cell? ⟨w.heap.size, 0, none⟩ = some (.int .i64 op) ∧ W.cell? ⟨w.heap.size, 1, none⟩ = some (.int .i64 nn) ∧ W.cell? ⟨w.heap.size, 2, none⟩ = some (.int .i64 v) ∧ W.cell? ⟨w.heap.size, 3, none⟩ = some (.slice oa len cap)) := hidA (fun W hW => ⟨cellA hW y1, cellA hW c0, cellA hW c1, cellA hW c2, cellA hW c3⟩)
        have hsD := (Below.refl w1.heap.size w1).drew
        have hww : IntKind.i64.wrap (x + c) = x + c := IntWalk.i64_in _ (by omega)
        have hd1 : decide (-2147483648 ≤ x + c) = true := by simp; omega
        have hd2 : decide (x + c ≤ 2147483647) = true := by simp; omega
        have CE1 := hidA (fun W (hW : Below w1.heap.size w1 W) => CE.out W (stepA (stepA B0.out HS.out) hW))
        go_region_held3 (fun w' => w'.cell? ⟨vb, vo + k, none⟩ = some (.int .i64 x) ∧ w'.cell? ⟨w.heap.size, 0, none⟩ = some (.int .i64 op) ∧ w'.cell? ⟨w.heap.size, 1, none⟩ = some (.int .i64 nn) ∧ w'.cell? ⟨w.heap.size, 2, none⟩ = some (.int .i64 v) ∧ w'.cell? ⟨w.heap.size, 3, none⟩ = some (.slice oa len cap) ∧ Below w1.heap.size w1 w')
          (first | with_reducible exact ⟨cellD y1, cellD c0, cellD c1, cellD c2, cellD c3, hsD⟩ | with_reducible exact ⟨(PKV.out _ (by assumption)).1, (PKV.out _ (by assumption)).2.1, (PKV.out _ (by assumption)).2.2.1, (PKV.out _ (by assumption)).2.2.2.1, (PKV.out _ (by assumption)).2.2.2.2, by assumption⟩)
          (first | ((go_at_call 36; refine (CE1.out _ (by assumption)).mono ?_; rintro e w2 ⟨rfl, hb2⟩; have hs2 : Below w1.heap.size w1 w2 := stepA (by assumption) hb2)))
        go_wp2
        go_ret
        exact ⟨retB HQ.out, (by repeat (first | with_reducible exact Below.refl _ _ | with_reducible exact (stepA (stepA B0.out HS.out) hs2) | with_reducible refine Below.setCell ?_ (by first | omega | (dsimp only; omega) | (simp; done) | (simp; omega)) _ | with_reducible refine Below.alloc ?_ (by first | omega | (dsimp only; omega) | (simp; done) | (simp; omega)) _ | with_reducible refine Below.drew ?_ | with_reducible refine drewnA ?_ _ | with_reducible refine Below.trans ?_ ((stepA (stepA B0.out HS.out) hs2).mono (by first | omega | (dsimp only; omega) | (simp; done) | (simp; omega)))))⟩
      · have HR2 : Hid (false = r) := hidA (by have := HR.out; simpa [g2] using this)
        have g3 : 2147483647 < x + c := by omega
        clear HR g2
        go_enter Try.func35, Try.ntmps35
        go_upto_region 1 with (fail)
        rw [Hw.out]
        clear Hw
        obtain ⟨c0, c1, c2, c3, z0⟩ := PK.out _ (Below.refl _ _)
        go_upto_region 2 with ((go_at_call 49; refine (CS.out).mono ?_; rintro e w1 ⟨rfl, hb⟩; have HS := hidA hb; obtain ⟨c0, c1, c2, c3, z0⟩ := PK.out _ hb; clear hb))
        have y1 := cellA (stepA B0.out HS.out) y0
        clear y0
        have hww : IntKind.i64.wrap (x + c) = x + c := IntWalk.i64_in _ (by omega)
        have hd1 : decide (-2147483648 ≤ x + c) = true := by simp; omega
        have hd2 : decide (x + c ≤ 2147483647) = false := by simp; omega
        go_quiet (fail)
        go_wp2
        go_ret
        exact ⟨retB HR2.out, (by repeat (first | with_reducible exact Below.refl _ _ | with_reducible exact (drewnA (stepA B0.out HS.out) _) | with_reducible exact B0.out | with_reducible refine Below.setCell ?_ (by first | omega | (dsimp only; omega) | (simp; done) | (simp; omega)) _ | with_reducible refine Below.alloc ?_ (by first | omega | (dsimp only; omega) | (simp; done) | (simp; omega)) _ | with_reducible refine Below.drew ?_ | with_reducible refine drewnA ?_ _ | with_reducible refine Below.trans ?_ ((drewnA (stepA B0.out HS.out) _).mono (by first | omega | (dsimp only; omega) | (simp; done) | (simp; omega))) | with_reducible refine Below.trans ?_ (B0.out.mono (by first | omega | (dsimp only; omega) | (simp; done) | (simp; omega)))))⟩
    · have HR2 : Hid (false = r) := hidA (by have := HR.out; simpa [g1] using this)
      have g3 : x + c < -2147483648 := by omega
      clear HR g1
      go_enter Try.func35, Try.ntmps35
      go_upto_region 1 with (fail)
      rw [Hw.out]
      clear Hw
      obtain ⟨c0, c1, c2, c3, z0⟩ := PK.out _ (Below.refl _ _)
      go_upto_region 2 with ((go_at_call 49; refine (CS.out).mono ?_; rintro e w1 ⟨rfl, hb⟩; have HS := hidA hb; obtain ⟨c0, c1, c2, c3, z0⟩ := PK.out _ hb; clear hb))
      have y1 := cellA (stepA B0.out HS.out) y0
      clear y0
      have hww : IntKind.i64.wrap (x + c) = x + c := IntWalk.i64_in _ (by omega)
      have hd1 : decide (-2147483648 ≤ x + c) = false := by simp; omega
      go_quiet (fail)
      go_wp2
      go_ret
      exact ⟨retB HR2.out, (by repeat (first | with_reducible exact Below.refl _ _ | with_reducible exact (drewnA (stepA B0.out HS.out) _) | with_reducible exact B0.out | with_reducible refine Below.setCell ?_ (by first | omega | (dsimp only; omega) | (simp; done) | (simp; omega)) _ | with_reducible refine Below.alloc ?_ (by first | omega | (dsimp only; omega) | (simp; done) | (simp; omega)) _ | with_reducible refine Below.drew ?_ | with_reducible refine drewnA ?_ _ | with_reducible refine Below.trans ?_ ((drewnA (stepA B0.out HS.out) _).mono (by first | omega | (dsimp only; omega) | (simp; done) | (simp; omega))) | with_reducible refine Below.trans ?_ (B0.out.mono (by first | omega | (dsimp only; omega) | (simp; done) | (simp; omega)))))⟩
end Go.Proofs.Ytdcaecpcofencaa

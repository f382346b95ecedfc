import Derived.Test.YtdcaecpcofencaaJf
namespace Go.Proofs.Ytdcaecpcofencaa
open Go.RowKit Go.Instr Go.Deep
set_option maxRecDepth 100000
set_option linter.unusedVariables false
set_option linter.unusedSimpArgs false

/-! gap.shiftOf. -/
def shiftB (vars r1 r2 : Int) (r3 : Bool) : Bool := r3 && (decide (0 ≤ r1) && (decide (r1 < vars) && (decide (-2147483648 ≤ r2) && decide (r2 ≤ 2147483648))))
/-- What shiftOf returns. -/
def shiftV (vars r1 r2 : Int) (r3 : Bool) : Value := if shiftB vars r1 r2 r3 = true then .tuple #[.agg #[.int .i64 r1, .int .i64 r2], .bool true] else .tuple #[.agg #[.int .i64 0, .int .i64 0], .bool false]
theorem shiftV_no {vars r1 r2 : Int} {r3 : Bool} (h : shiftB vars r1 r2 r3 = false) : Ending.returned (.tuple #[.agg #[.int .i64 0, .int .i64 0], .bool false]) = .returned (shiftV vars r1 r2 r3) := by unfold shiftV; rw [h]; rfl
theorem shiftV_yes {vars r1 r2 : Int} {r3 : Bool} (h : shiftB vars r1 r2 r3 = true) : Ending.returned (.tuple #[.agg #[.int .i64 r1, .int .i64 r2], .bool true]) = .returned (shiftV vars r1 r2 r3) := by unfold shiftV; rw [h]; rfl
set_option maxRecDepth 100000 in
set_option maxHeartbeats 1000000 in
theorem shiftOf_any (w : World) (op n v : Int) (oa : Option Addr) (len cap : Nat) (vars r1 r2 : Int) (r3 : Bool) (HF : Hid (∀ W, Below w.heap.size w W → Calls Try.prog 63 #[.agg #[.int .i64 op, .int .i64 n, .int .i64 v, .slice oa len cap]] W fun e w' => e = .returned (.tuple #[.agg #[.int .i64 r1, .int .i64 r2], .bool r3]) ∧ Below W.heap.size W w')) :
    Calls Try.prog 45 #[.agg #[.int .i64 op, .int .i64 n, .int .i64 v, .slice oa len cap], .int .i64 vars] w fun e w' => e = .returned (shiftV vars r1 r2 r3) ∧ Below w.heap.size w w' := by
  obtain ⟨w0, hw0⟩ : ∃ w0, ((w.alloc (.cells #[.int .i64 op, .int .i64 n, .int .i64 v, .slice oa len cap] 34)).alloc (.cells #[.int .i64 0, .int .i64 0] 70)) = w0 := ⟨_, rfl⟩
  have B0 : Hid (Below w.heap.size w w0) := hidA (by rw [← hw0]; exact (((Below.refl _ _).alloc (by first | exact Nat.le_refl _ | (simp; done) | (simp; omega) | omega) _).alloc (by first | exact Nat.le_refl _ | (simp; done) | (simp; omega) | omega) _))
  have hsz : w.heap.size + 1 < w0.heap.size := by rw [← hw0]; simp
  have PK : Hid (∀ W, Below w0.heap.size w0 W → W.cell? ⟨w.heap.size, 0, none⟩ = some (.int .i64 op) ∧ W.cell? ⟨w.heap.size, 1, none⟩ = some (.int .i64 n) ∧ W.cell? ⟨w.heap.size, 2, none⟩ = some (.int .i64 v) ∧ W.cell? ⟨w.heap.size, 3, none⟩ = some (.slice oa len cap) ∧ W.cell? ⟨w.heap.size + 1, 0, none⟩ = some (.int .i64 0) ∧ W.cell? ⟨w.heap.size + 1, 1, none⟩ = some (.int .i64 0) ∧ w.heap.size < W.heap.size ∧ w.heap.size + 1 < W.heap.size ∧ (∀ i, W.frozen? ⟨w.heap.size + 1, i, none⟩ = false)) := hidA (fun W hW => ⟨cellA hW (by rw [← hw0]; simp [go_sem]), cellA hW (by rw [← hw0]; simp [go_sem]), cellA hW (by rw [← hw0]; simp [go_sem]), cellA hW (by rw [← hw0]; simp [go_sem]), cellA hW (by rw [← hw0]; simp [go_sem]), cellA hW (by rw [← hw0]; simp [go_sem]), (by have h0 := hW.size; have h1 := hsz; omega), (by have h0 := hW.size; have h1 := hsz; omega), (fun i => (hW.frozen (p := ⟨w.heap.size + 1, i, none⟩) (show w.heap.size + 1 < w0.heap.size by have h1 := hsz; omega)).trans (by rw [← hw0]; simp [go_sem]))⟩)
  have Hw := hidA hw0; clear hw0
  have CF := hidA (HF.out w0 B0.out)
  obtain ⟨t, ht⟩ : ∃ t, shiftB vars r1 r2 r3 = t := ⟨_, rfl⟩
  cases r3
  · have HR := hidA (shiftV_no (vars := vars) (r1 := r1) (r2 := r2) (r3 := false) (by simp [shiftB]))
    clear ht
    go_enter Try.func45, Try.ntmps45
    go_wp2_with fail
    rw [Hw.out]
    clear Hw
    have HS : Hid (Below w0.heap.size w0 w0) := hidA (Below.refl _ _)
    obtain ⟨c0, c1, c2, c3, c4, c5, z0, z1, fr1⟩ := PK.out _ HS.out
    go_wp2_with fail
    refine (CF.out).mono ?_; rintro e w1 ⟨rfl, hb⟩; have hs1 := stepA HS.out hb; clear hb; have HS' := hidA hs1; clear HS hs1; clear c0 c1 c2 c3 c4 c5 z0 z1 fr1; have HS := HS'; clear HS'; obtain ⟨c0, c1, c2, c3, c4, c5, z0, z1, fr1⟩ := PK.out _ HS.out
    go_wp2
    exact bodyPost_ret (v := .tuple #[.agg #[.int .i64 0, .int .i64 0], .bool false]) (by simp [results, Try.results45, go_sem, *]) rfl ⟨HR.out, (by repeat (first | with_reducible exact Below.refl _ _ | with_reducible exact HS.out | with_reducible exact B0.out | with_reducible refine Below.setCell ?_ (by first | omega | (dsimp only; omega) | (simp; done) | (simp; omega)) _ | with_reducible refine Below.alloc ?_ (by first | omega | (dsimp only; omega) | (simp; done) | (simp; omega)) _ | with_reducible refine Below.drew ?_ | with_reducible refine drewnA ?_ _ | with_reducible refine Below.trans ?_ (HS.out.mono (by first | omega | (dsimp only; omega) | (simp; done) | (simp; omega))) | with_reducible refine Below.trans ?_ (B0.out.mono (by first | omega | (dsimp only; omega) | (simp; done) | (simp; omega)))))⟩
  · by_cases h1 : 0 ≤ r1
    · by_cases h2 : r1 < vars
      · by_cases h3 : -2147483648 ≤ r2
        · by_cases h4 : r2 ≤ 2147483648
          · have HR := hidA (shiftV_yes (vars := vars) (r1 := r1) (r2 := r2) (r3 := true) (by simp [shiftB, h1, h2, h3, h4]))
            clear ht
            go_enter Try.func45, Try.ntmps45
            go_wp2_with fail
            rw [Hw.out]
            clear Hw
            have HS : Hid (Below w0.heap.size w0 w0) := hidA (Below.refl _ _)
            obtain ⟨c0, c1, c2, c3, c4, c5, z0, z1, fr1⟩ := PK.out _ HS.out
            go_wp2_with fail
            refine (CF.out).mono ?_; rintro e w1 ⟨rfl, hb⟩; have hs1 := stepA HS.out hb; clear hb; have HS' := hidA hs1; clear HS hs1; clear c0 c1 c2 c3 c4 c5 z0 z1 fr1; have HS := HS'; clear HS'; obtain ⟨c0, c1, c2, c3, c4, c5, z0, z1, fr1⟩ := PK.out _ HS.out
            go_wp2
            exact bodyPost_ret (v := .tuple #[.agg #[.int .i64 r1, .int .i64 r2], .bool true]) (by simp [results, Try.results45, go_sem, *]) rfl ⟨HR.out, (by repeat (first | with_reducible exact Below.refl _ _ | with_reducible exact HS.out | with_reducible exact B0.out | with_reducible refine Below.setCell ?_ (by first | omega | (dsimp only; omega) | (simp; done) | (simp; omega)) _ | with_reducible refine Below.alloc ?_ (by first | omega | (dsimp only; omega) | (simp; done) | (simp; omega)) _ | with_reducible refine Below.drew ?_ | with_reducible refine drewnA ?_ _ | with_reducible refine Below.trans ?_ (HS.out.mono (by first | omega | (dsimp only; omega) | (simp; done) | (simp; omega))) | with_reducible refine Below.trans ?_ (B0.out.mono (by first | omega | (dsimp only; omega) | (simp; done) | (simp; omega)))))⟩
          · have HR := hidA (shiftV_no (vars := vars) (r1 := r1) (r2 := r2) (r3 := true) (by simp [shiftB, h4]))
            have h4' : 2147483648 < r2 := by omega
            clear ht h4
            go_enter Try.func45, Try.ntmps45
            go_wp2_with fail
            rw [Hw.out]
            clear Hw
            have HS : Hid (Below w0.heap.size w0 w0) := hidA (Below.refl _ _)
            obtain ⟨c0, c1, c2, c3, c4, c5, z0, z1, fr1⟩ := PK.out _ HS.out
            go_wp2_with fail
            refine (CF.out).mono ?_; rintro e w1 ⟨rfl, hb⟩; have hs1 := stepA HS.out hb; clear hb; have HS' := hidA hs1; clear HS hs1; clear c0 c1 c2 c3 c4 c5 z0 z1 fr1; have HS := HS'; clear HS'; obtain ⟨c0, c1, c2, c3, c4, c5, z0, z1, fr1⟩ := PK.out _ HS.out
            go_wp2
            exact bodyPost_ret (v := .tuple #[.agg #[.int .i64 0, .int .i64 0], .bool false]) (by simp [results, Try.results45, go_sem, *]) rfl ⟨HR.out, (by repeat (first | with_reducible exact Below.refl _ _ | with_reducible exact HS.out | with_reducible exact B0.out | with_reducible refine Below.setCell ?_ (by first | omega | (dsimp only; omega) | (simp; done) | (simp; omega)) _ | with_reducible refine Below.alloc ?_ (by first | omega | (dsimp only; omega) | (simp; done) | (simp; omega)) _ | with_reducible refine Below.drew ?_ | with_reducible refine drewnA ?_ _ | with_reducible refine Below.trans ?_ (HS.out.mono (by first | omega | (dsimp only; omega) | (simp; done) | (simp; omega))) | with_reducible refine Below.trans ?_ (B0.out.mono (by first | omega | (dsimp only; omega) | (simp; done) | (simp; omega)))))⟩
        · have HR := hidA (shiftV_no (vars := vars) (r1 := r1) (r2 := r2) (r3 := true) (by simp [shiftB, h3]))
          have h3' : r2 < -2147483648 := by omega
          clear ht h3
          go_enter Try.func45, Try.ntmps45
          go_wp2_with fail
          rw [Hw.out]
          clear Hw
          have HS : Hid (Below w0.heap.size w0 w0) := hidA (Below.refl _ _)
          obtain ⟨c0, c1, c2, c3, c4, c5, z0, z1, fr1⟩ := PK.out _ HS.out
          go_wp2_with fail
          refine (CF.out).mono ?_; rintro e w1 ⟨rfl, hb⟩; have hs1 := stepA HS.out hb; clear hb; have HS' := hidA hs1; clear HS hs1; clear c0 c1 c2 c3 c4 c5 z0 z1 fr1; have HS := HS'; clear HS'; obtain ⟨c0, c1, c2, c3, c4, c5, z0, z1, fr1⟩ := PK.out _ HS.out
          go_wp2
          exact bodyPost_ret (v := .tuple #[.agg #[.int .i64 0, .int .i64 0], .bool false]) (by simp [results, Try.results45, go_sem, *]) rfl ⟨HR.out, (by repeat (first | with_reducible exact Below.refl _ _ | with_reducible exact HS.out | with_reducible exact B0.out | with_reducible refine Below.setCell ?_ (by first | omega | (dsimp only; omega) | (simp; done) | (simp; omega)) _ | with_reducible refine Below.alloc ?_ (by first | omega | (dsimp only; omega) | (simp; done) | (simp; omega)) _ | with_reducible refine Below.drew ?_ | with_reducible refine drewnA ?_ _ | with_reducible refine Below.trans ?_ (HS.out.mono (by first | omega | (dsimp only; omega) | (simp; done) | (simp; omega))) | with_reducible refine Below.trans ?_ (B0.out.mono (by first | omega | (dsimp only; omega) | (simp; done) | (simp; omega)))))⟩
      · have HR := hidA (shiftV_no (vars := vars) (r1 := r1) (r2 := r2) (r3 := true) (by simp [shiftB, h2]))
        have h2' : vars ≤ r1 := by omega
        clear ht h2
        go_enter Try.func45, Try.ntmps45
        go_wp2_with fail
        rw [Hw.out]
        clear Hw
        have HS : Hid (Below w0.heap.size w0 w0) := hidA (Below.refl _ _)
        obtain ⟨c0, c1, c2, c3, c4, c5, z0, z1, fr1⟩ := PK.out _ HS.out
        go_wp2_with fail
        refine (CF.out).mono ?_; rintro e w1 ⟨rfl, hb⟩; have hs1 := stepA HS.out hb; clear hb; have HS' := hidA hs1; clear HS hs1; clear c0 c1 c2 c3 c4 c5 z0 z1 fr1; have HS := HS'; clear HS'; obtain ⟨c0, c1, c2, c3, c4, c5, z0, z1, fr1⟩ := PK.out _ HS.out
        go_wp2
        exact bodyPost_ret (v := .tuple #[.agg #[.int .i64 0, .int .i64 0], .bool false]) (by simp [results, Try.results45, go_sem, *]) rfl ⟨HR.out, (by repeat (first | with_reducible exact Below.refl _ _ | with_reducible exact HS.out | with_reducible exact B0.out | with_reducible refine Below.setCell ?_ (by first | omega | (dsimp only; omega) | (simp; done) | (simp; omega)) _ | with_reducible refine Below.alloc ?_ (by first | omega | (dsimp only; omega) | (simp; done) | (simp; omega)) _ | with_reducible refine Below.drew ?_ | with_reducible refine drewnA ?_ _ | with_reducible refine Below.trans ?_ (HS.out.mono (by first | omega | (dsimp only; omega) | (simp; done) | (simp; omega))) | with_reducible refine Below.trans ?_ (B0.out.mono (by first | omega | (dsimp only; omega) | (simp; done) | (simp; omega)))))⟩
    · have HR := hidA (shiftV_no (vars := vars) (r1 := r1) (r2 := r2) (r3 := true) (by simp [shiftB, h1]))
      have h1' : r1 < 0 := by omega
      clear ht h1
      go_enter Try.func45, Try.ntmps45
      go_wp2_with fail
      rw [Hw.out]
      clear Hw
      have HS : Hid (Below w0.heap.size w0 w0) := hidA (Below.refl _ _)
      obtain ⟨c0, c1, c2, c3, c4, c5, z0, z1, fr1⟩ := PK.out _ HS.out
      go_wp2_with fail
      refine (CF.out).mono ?_; rintro e w1 ⟨rfl, hb⟩; have hs1 := stepA HS.out hb; clear hb; have HS' := hidA hs1; clear HS hs1; clear c0 c1 c2 c3 c4 c5 z0 z1 fr1; have HS := HS'; clear HS'; obtain ⟨c0, c1, c2, c3, c4, c5, z0, z1, fr1⟩ := PK.out _ HS.out
      go_wp2
      exact bodyPost_ret (v := .tuple #[.agg #[.int .i64 0, .int .i64 0], .bool false]) (by simp [results, Try.results45, go_sem, *]) rfl ⟨HR.out, (by repeat (first | with_reducible exact Below.refl _ _ | with_reducible exact HS.out | with_reducible exact B0.out | with_reducible refine Below.setCell ?_ (by first | omega | (dsimp only; omega) | (simp; done) | (simp; omega)) _ | with_reducible refine Below.alloc ?_ (by first | omega | (dsimp only; omega) | (simp; done) | (simp; omega)) _ | with_reducible refine Below.drew ?_ | with_reducible refine drewnA ?_ _ | with_reducible refine Below.trans ?_ (HS.out.mono (by first | omega | (dsimp only; omega) | (simp; done) | (simp; omega))) | with_reducible refine Below.trans ?_ (B0.out.mono (by first | omega | (dsimp only; omega) | (simp; done) | (simp; omega)))))⟩
end Go.Proofs.Ytdcaecpcofencaa

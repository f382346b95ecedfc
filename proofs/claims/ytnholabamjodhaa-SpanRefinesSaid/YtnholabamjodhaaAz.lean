import Derived.Test.YtnholabamjodhaaAy
import Derived.Test.YtnholabamjodhaaAhe
namespace Go.Proofs.Ytnholabamjodhaa
open Go.RowKit Go.Instr Sp
set_option linter.unusedVariables false
set_option linter.unusedSimpArgs false

/-! The fixed calls of span's statements. -/
/-- What the law's 'set' makes. -/
def setA (lo hi m : Int) : Ab := if lo = hi then ⟨lo, lo, 1, 0, 0⟩ else ⟨lo, hi, m, lo % m, 0⟩
set_option maxHeartbeats 400000 in
theorem set_same (lo hi m : Int) (h : (lo == hi) = true) (w : World) :
    Calls Try.prog 39 #[.int .i64 lo, .int .i64 hi, .int .i64 m] w fun e w' => e = .returned (.agg #[.int .i64 lo, .int .i64 lo, .int .i64 1, .int .i64 0, .int .i64 0]) ∧ Below w.heap.size w w' := by
  go_enter Try.func39, Try.ntmps39
  go_wp2
  exact bodyPost_ret (v := .agg #[.int .i64 lo, .int .i64 lo, .int .i64 1, .int .i64 0, .int .i64 0]) (by simp [results, Try.results39, go_sem]) rfl ⟨by rfl, (by repeat (first | with_reducible exact Below.refl _ _ | with_reducible refine Below.setCell ?_ (by first | omega | (dsimp only; omega) | (simp; done) | (simp; omega)) _ | with_reducible refine Below.alloc ?_ (by first | omega | (dsimp only; omega) | (simp; done) | (simp; omega)) _ | with_reducible refine Below.drew ?_ | with_reducible refine drewnA ?_ _))⟩
set_option maxHeartbeats 400000 in
theorem set_more (lo hi m : Int) (h : (lo == hi) = false) (hm : 1 ≤ m) (hm2 : m ≤ 4611686018427387904) (w : World) :
    Calls Try.prog 39 #[.int .i64 lo, .int .i64 hi, .int .i64 m] w fun e w' => e = .returned (.agg #[.int .i64 lo, .int .i64 hi, .int .i64 m, .int .i64 (lo % m), .int .i64 0]) ∧ Below w.heap.size w w' := by
  obtain ⟨h1, h2⟩ := tmod_in lo hm
  have hz : (m == 0) = false := by simp; omega
  have E : Hid ((lo.tmod m + m) % m = lo % m) := hidA (by rw [Int.add_emod_right]; exact tmod_emod lo m)
  have E2 : Hid (lo.tmod m % m = lo % m) := hidA (tmod_emod lo m)
  go_enter Try.func39, Try.ntmps39
  go_wp2
  exact bodyPost_ret (v := .agg #[.int .i64 lo, .int .i64 hi, .int .i64 m, .int .i64 (lo % m), .int .i64 0]) (by simp [results, Try.results39, go_sem, E.out, E2.out]) rfl ⟨by rfl, (by repeat (first | with_reducible exact Below.refl _ _ | with_reducible refine Below.setCell ?_ (by first | omega | (dsimp only; omega) | (simp; done) | (simp; omega)) _ | with_reducible refine Below.alloc ?_ (by first | omega | (dsimp only; omega) | (simp; done) | (simp; omega)) _ | with_reducible refine Below.drew ?_ | with_reducible refine drewnA ?_ _))⟩
theorem set_any (lo hi m : Int) (hm : 1 ≤ m) (hm2 : m ≤ 4611686018427387904) (w : World) :
    Calls Try.prog 39 #[.int .i64 lo, .int .i64 hi, .int .i64 m] w fun e w' => e = .returned (.agg #[.int .i64 (setA lo hi m).lo, .int .i64 (setA lo hi m).hi, .int .i64 (setA lo hi m).m, .int .i64 (setA lo hi m).r, .int .i64 (setA lo hi m).k]) ∧ Below w.heap.size w w' := by
  unfold setA
  by_cases h : lo = hi
  · rw [if_pos h]; exact set_same lo hi m (by simpa using h) w
  · rw [if_neg h]; exact set_more lo hi m (by simpa using h) hm hm2 w
set_option maxHeartbeats 1000000 in
theorem one_any (v : Int) (w : World) :
    Calls Try.prog 38 #[.int .i64 v] w fun e w' => e = .returned (.agg #[.int .i64 v, .int .i64 v, .int .i64 1, .int .i64 0, .int .i64 0]) ∧ Below w.heap.size w w' := by
  have C := hidA (fun w => set_any v v 1 (by omega) (by omega) w)
  have e : setA v v 1 = ⟨v, v, 1, 0, 0⟩ := if_pos rfl
  rw [e] at C
  clear e
  obtain ⟨w0, hw0⟩ : ∃ w0, (w.alloc (.cells #[.int .i64 0, .int .i64 0, .int .i64 0, .int .i64 0, .int .i64 0] 27)) = w0 := ⟨_, rfl⟩
  have B0 : Hid (Below w.heap.size w w0) := hidA (by rw [← hw0]; exact ((Below.refl _ _).alloc (by first | exact Nat.le_refl _ | (simp; done) | (simp; omega) | omega) _))
  have hsz : w.heap.size < w0.heap.size := by rw [← hw0]; simp
  have PK : Hid (∀ W, Below w0.heap.size w0 W → W.cell? ⟨w.heap.size, 0, none⟩ = some (.int .i64 0) ∧ W.cell? ⟨w.heap.size, 1, none⟩ = some (.int .i64 0) ∧ W.cell? ⟨w.heap.size, 2, none⟩ = some (.int .i64 0) ∧ W.cell? ⟨w.heap.size, 3, none⟩ = some (.int .i64 0) ∧ W.cell? ⟨w.heap.size, 4, none⟩ = some (.int .i64 0) ∧ w.heap.size < W.heap.size ∧ (∀ i, W.frozen? ⟨w.heap.size, i, none⟩ = false)) := hidA (fun W hW => ⟨cellA hW (by rw [← hw0]; simp [go_sem]), cellA hW (by rw [← hw0]; simp [go_sem]), cellA hW (by rw [← hw0]; simp [go_sem]), cellA hW (by rw [← hw0]; simp [go_sem]), cellA hW (by rw [← hw0]; simp [go_sem]), (by have h0 := hW.size; have h1 := hsz; omega), (fun i => (hW.frozen (p := ⟨w.heap.size, i, none⟩) (show w.heap.size < w0.heap.size by have h1 := hsz; omega)).trans (by rw [← hw0]; simp [go_sem]))⟩)
  have Hw := hidA hw0; clear hw0
  go_enter Try.func38, Try.ntmps38
  go_wp2_with fail
  rw [Hw.out]
  clear Hw
  have HS : Hid (Below w0.heap.size w0 w0) := hidA (Below.refl _ _)
  obtain ⟨c0, c1, c2, c3, c4, z0, fr0⟩ := PK.out _ HS.out
  go_wp2_with (go_at_call 39; (with_reducible refine (C.out _).mono ?_); rintro e w1 ⟨rfl, hb⟩; have hs1 := stepA HS.out hb; clear hb; have HS' := hidA hs1; clear HS hs1; clear c0 c1 c2 c3 c4 z0 fr0; have HS := HS'; clear HS'; obtain ⟨c0, c1, c2, c3, c4, z0, fr0⟩ := PK.out _ HS.out)
  exact bodyPost_ret (v := .agg #[.int .i64 v, .int .i64 v, .int .i64 1, .int .i64 0, .int .i64 0]) (by simp [results, Try.results38, go_sem, c0, c1, c2, c3, c4, z0]) rfl ⟨by rfl, (by repeat (first | with_reducible exact Below.refl _ _ | with_reducible exact HS.out | with_reducible exact B0.out | with_reducible refine Below.setCell ?_ (by first | omega | (dsimp only; omega) | (simp; done) | (simp; omega)) _ | with_reducible refine Below.alloc ?_ (by first | omega | (dsimp only; omega) | (simp; done) | (simp; omega)) _ | with_reducible refine Below.drew ?_ | with_reducible refine drewnA ?_ _ | with_reducible refine Below.trans ?_ (HS.out.mono (by first | omega | (dsimp only; omega) | (simp; done) | (simp; omega))) | with_reducible refine Below.trans ?_ (B0.out.mono (by first | omega | (dsimp only; omega) | (simp; done) | (simp; omega)))))⟩
set_option maxRecDepth 100000 in
set_option maxHeartbeats 4000000 in
theorem examples_any (w : World) :
    Calls Try.prog 9 #[] w fun e w' => e = .returned (.bool true) ∧ Below w.heap.size w w' := by
  have K1 : Hid (∀ w, Calls Try.prog 38 #[.int .i64 4] w fun e w' => e = .returned (.agg #[.int .i64 4, .int .i64 4, .int .i64 1, .int .i64 0, .int .i64 0]) ∧ Below w.heap.size w w') := hidA (fun w => by
    exact one_any 4 w)
  have K2 : Hid (∀ w, Calls Try.prog 38 #[.int .i64 10] w fun e w' => e = .returned (.agg #[.int .i64 10, .int .i64 10, .int .i64 1, .int .i64 0, .int .i64 0]) ∧ Below w.heap.size w w') := hidA (fun w => by
    exact one_any 10 w)
  have K3 : Hid (∀ w, Calls Try.prog 18 #[.agg #[.int .i64 4, .int .i64 4, .int .i64 1, .int .i64 0, .int .i64 0], .agg #[.int .i64 10, .int .i64 10, .int .i64 1, .int .i64 0, .int .i64 0]] w fun e w' => e = .returned (.agg #[.int .i64 4, .int .i64 10, .int .i64 6, .int .i64 4, .int .i64 0]) ∧ Below w.heap.size w w') := hidA (fun w => by
    have h := sjoin_any ⟨4, 4, 1, 0, 0⟩ ⟨10, 10, 1, 0, 0⟩ (⟨by decide, by decide, by decide, by decide, Or.inl ⟨rfl, rfl, rfl⟩⟩ : Val ⟨4, 4, 1, 0, 0⟩) (⟨by decide, by decide, by decide, by decide, Or.inl ⟨rfl, rfl, rfl⟩⟩ : Val ⟨10, 10, 1, 0, 0⟩) w; rw [show joinA ⟨4, 4, 1, 0, 0⟩ ⟨10, 10, 1, 0, 0⟩ = ⟨4, 10, 6, 4, 0⟩ from by decide +kernel] at h; exact h)
  have K4 : Hid (∀ w, Calls Try.prog 39 #[.int .i64 4, .int .i64 10, .int .i64 6] w fun e w' => e = .returned (.agg #[.int .i64 4, .int .i64 10, .int .i64 6, .int .i64 4, .int .i64 0]) ∧ Below w.heap.size w w') := hidA (fun w => by
    have h := set_any 4 10 6 (by decide) (by decide) w; rw [show setA 4 10 6 = ⟨4, 10, 6, 4, 0⟩ from by decide +kernel] at h; exact h)
  have K5 : Hid (∀ w, Calls Try.prog 38 #[.int .i64 7] w fun e w' => e = .returned (.agg #[.int .i64 7, .int .i64 7, .int .i64 1, .int .i64 0, .int .i64 0]) ∧ Below w.heap.size w w') := hidA (fun w => by
    exact one_any 7 w)
  have K6 : Hid (∀ w, Calls Try.prog 18 #[.agg #[.int .i64 4, .int .i64 10, .int .i64 6, .int .i64 4, .int .i64 0], .agg #[.int .i64 7, .int .i64 7, .int .i64 1, .int .i64 0, .int .i64 0]] w fun e w' => e = .returned (.agg #[.int .i64 4, .int .i64 10, .int .i64 3, .int .i64 1, .int .i64 0]) ∧ Below w.heap.size w w') := hidA (fun w => by
    have h := sjoin_any ⟨4, 10, 6, 4, 0⟩ ⟨7, 7, 1, 0, 0⟩ (⟨by decide, by decide, by decide, by decide, Or.inr ⟨by decide, by decide, by decide, by decide⟩⟩ : Val ⟨4, 10, 6, 4, 0⟩) (⟨by decide, by decide, by decide, by decide, Or.inl ⟨rfl, rfl, rfl⟩⟩ : Val ⟨7, 7, 1, 0, 0⟩) w; rw [show joinA ⟨4, 10, 6, 4, 0⟩ ⟨7, 7, 1, 0, 0⟩ = ⟨4, 10, 3, 1, 0⟩ from by decide +kernel] at h; exact h)
  have K7 : Hid (∀ w, Calls Try.prog 39 #[.int .i64 4, .int .i64 10, .int .i64 3] w fun e w' => e = .returned (.agg #[.int .i64 4, .int .i64 10, .int .i64 3, .int .i64 1, .int .i64 0]) ∧ Below w.heap.size w w') := hidA (fun w => by
    have h := set_any 4 10 3 (by decide) (by decide) w; rw [show setA 4 10 3 = ⟨4, 10, 3, 1, 0⟩ from by decide +kernel] at h; exact h)
  have K8 : Hid (∀ w, Calls Try.prog 39 #[.int .i64 0, .int .i64 8, .int .i64 4] w fun e w' => e = .returned (.agg #[.int .i64 0, .int .i64 8, .int .i64 4, .int .i64 0, .int .i64 0]) ∧ Below w.heap.size w w') := hidA (fun w => by
    have h := set_any 0 8 4 (by decide) (by decide) w; rw [show setA 0 8 4 = ⟨0, 8, 4, 0, 0⟩ from by decide +kernel] at h; exact h)
  have K9 : Hid (∀ w, Calls Try.prog 39 #[.int .i64 1, .int .i64 5, .int .i64 2] w fun e w' => e = .returned (.agg #[.int .i64 1, .int .i64 5, .int .i64 2, .int .i64 1, .int .i64 0]) ∧ Below w.heap.size w w') := hidA (fun w => by
    have h := set_any 1 5 2 (by decide) (by decide) w; rw [show setA 1 5 2 = ⟨1, 5, 2, 1, 0⟩ from by decide +kernel] at h; exact h)
  have K10 : Hid (∀ w, Calls Try.prog 30 #[.int .i64 4, .agg #[.int .i64 0, .int .i64 8, .int .i64 4, .int .i64 0, .int .i64 0], .agg #[.int .i64 1, .int .i64 5, .int .i64 2, .int .i64 1, .int .i64 0]] w fun e w' => e = .returned (.agg #[.int .i64 1, .int .i64 13, .int .i64 2, .int .i64 1, .int .i64 0]) ∧ Below w.heap.size w w') := hidA (fun w => by
    have h := sop_any 4 ⟨0, 8, 4, 0, 0⟩ ⟨1, 5, 2, 1, 0⟩ (⟨by decide, by decide, by decide, by decide, Or.inr ⟨by decide, by decide, by decide, by decide⟩⟩ : Val ⟨0, 8, 4, 0, 0⟩) (⟨by decide, by decide, by decide, by decide, Or.inr ⟨by decide, by decide, by decide, by decide⟩⟩ : Val ⟨1, 5, 2, 1, 0⟩) (by decide) w; rw [show opA 4 ⟨0, 8, 4, 0, 0⟩ ⟨1, 5, 2, 1, 0⟩ = ⟨1, 13, 2, 1, 0⟩ from by decide +kernel] at h; exact h)
  have K11 : Hid (∀ w, Calls Try.prog 39 #[.int .i64 1, .int .i64 13, .int .i64 2] w fun e w' => e = .returned (.agg #[.int .i64 1, .int .i64 13, .int .i64 2, .int .i64 1, .int .i64 0]) ∧ Below w.heap.size w w') := hidA (fun w => by
    have h := set_any 1 13 2 (by decide) (by decide) w; rw [show setA 1 13 2 = ⟨1, 13, 2, 1, 0⟩ from by decide +kernel] at h; exact h)
  have K12 : Hid (∀ w, Calls Try.prog 39 #[.int .i64 0, .int .i64 9, .int .i64 1] w fun e w' => e = .returned (.agg #[.int .i64 0, .int .i64 9, .int .i64 1, .int .i64 0, .int .i64 0]) ∧ Below w.heap.size w w') := hidA (fun w => by
    have h := set_any 0 9 1 (by decide) (by decide) w; rw [show setA 0 9 1 = ⟨0, 9, 1, 0, 0⟩ from by decide +kernel] at h; exact h)
  have K13 : Hid (∀ w, Calls Try.prog 30 #[.int .i64 8, .agg #[.int .i64 0, .int .i64 9, .int .i64 1, .int .i64 0, .int .i64 0], .agg #[.int .i64 4, .int .i64 4, .int .i64 1, .int .i64 0, .int .i64 0]] w fun e w' => e = .returned (.agg #[.int .i64 0, .int .i64 3, .int .i64 1, .int .i64 0, .int .i64 0]) ∧ Below w.heap.size w w') := hidA (fun w => by
    have h := sop_any 8 ⟨0, 9, 1, 0, 0⟩ ⟨4, 4, 1, 0, 0⟩ (⟨by decide, by decide, by decide, by decide, Or.inr ⟨by decide, by decide, by decide, by decide⟩⟩ : Val ⟨0, 9, 1, 0, 0⟩) (⟨by decide, by decide, by decide, by decide, Or.inl ⟨rfl, rfl, rfl⟩⟩ : Val ⟨4, 4, 1, 0, 0⟩) (by decide) w; rw [show opA 8 ⟨0, 9, 1, 0, 0⟩ ⟨4, 4, 1, 0, 0⟩ = ⟨0, 3, 1, 0, 0⟩ from by decide +kernel] at h; exact h)
  have K14 : Hid (∀ w, Calls Try.prog 39 #[.int .i64 0, .int .i64 3, .int .i64 1] w fun e w' => e = .returned (.agg #[.int .i64 0, .int .i64 3, .int .i64 1, .int .i64 0, .int .i64 0]) ∧ Below w.heap.size w w') := hidA (fun w => by
    have h := set_any 0 3 1 (by decide) (by decide) w; rw [show setA 0 3 1 = ⟨0, 3, 1, 0, 0⟩ from by decide +kernel] at h; exact h)
  have K15 : Hid (∀ w, Calls Try.prog 30 #[.int .i64 8, .agg #[.int .i64 0, .int .i64 8, .int .i64 4, .int .i64 0, .int .i64 0], .agg #[.int .i64 4, .int .i64 4, .int .i64 1, .int .i64 0, .int .i64 0]] w fun e w' => e = .returned (.agg #[.int .i64 0, .int .i64 0, .int .i64 1, .int .i64 0, .int .i64 0]) ∧ Below w.heap.size w w') := hidA (fun w => by
    have h := sop_any 8 ⟨0, 8, 4, 0, 0⟩ ⟨4, 4, 1, 0, 0⟩ (⟨by decide, by decide, by decide, by decide, Or.inr ⟨by decide, by decide, by decide, by decide⟩⟩ : Val ⟨0, 8, 4, 0, 0⟩) (⟨by decide, by decide, by decide, by decide, Or.inl ⟨rfl, rfl, rfl⟩⟩ : Val ⟨4, 4, 1, 0, 0⟩) (by decide) w; rw [show opA 8 ⟨0, 8, 4, 0, 0⟩ ⟨4, 4, 1, 0, 0⟩ = ⟨0, 0, 1, 0, 0⟩ from by decide +kernel] at h; exact h)
  have K16 : Hid (∀ w, Calls Try.prog 38 #[.int .i64 0] w fun e w' => e = .returned (.agg #[.int .i64 0, .int .i64 0, .int .i64 1, .int .i64 0, .int .i64 0]) ∧ Below w.heap.size w w') := hidA (fun w => by
    exact one_any 0 w)
  have K17 : Hid (∀ w, Calls Try.prog 38 #[.int .i64 2147483647] w fun e w' => e = .returned (.agg #[.int .i64 2147483647, .int .i64 2147483647, .int .i64 1, .int .i64 0, .int .i64 0]) ∧ Below w.heap.size w w') := hidA (fun w => by
    exact one_any 2147483647 w)
  have K18 : Hid (∀ w, Calls Try.prog 39 #[.int .i64 1, .int .i64 3, .int .i64 2] w fun e w' => e = .returned (.agg #[.int .i64 1, .int .i64 3, .int .i64 2, .int .i64 1, .int .i64 0]) ∧ Below w.heap.size w w') := hidA (fun w => by
    have h := set_any 1 3 2 (by decide) (by decide) w; rw [show setA 1 3 2 = ⟨1, 3, 2, 1, 0⟩ from by decide +kernel] at h; exact h)
  have K19 : Hid (∀ w, Calls Try.prog 30 #[.int .i64 4, .agg #[.int .i64 2147483647, .int .i64 2147483647, .int .i64 1, .int .i64 0, .int .i64 0], .agg #[.int .i64 1, .int .i64 3, .int .i64 2, .int .i64 1, .int .i64 0]] w fun e w' => e = .returned (.agg #[.int .i64 (-2147483648), .int .i64 2147483646, .int .i64 2, .int .i64 0, .int .i64 0]) ∧ Below w.heap.size w w') := hidA (fun w => by
    have h := sop_any 4 ⟨2147483647, 2147483647, 1, 0, 0⟩ ⟨1, 3, 2, 1, 0⟩ (⟨by decide, by decide, by decide, by decide, Or.inl ⟨rfl, rfl, rfl⟩⟩ : Val ⟨2147483647, 2147483647, 1, 0, 0⟩) (⟨by decide, by decide, by decide, by decide, Or.inr ⟨by decide, by decide, by decide, by decide⟩⟩ : Val ⟨1, 3, 2, 1, 0⟩) (by decide) w; rw [show opA 4 ⟨2147483647, 2147483647, 1, 0, 0⟩ ⟨1, 3, 2, 1, 0⟩ = ⟨(-2147483648), 2147483646, 2, 0, 0⟩ from by decide +kernel] at h; exact h)
  have K20 : Hid (∀ w, Calls Try.prog 39 #[.int .i64 (-2147483648), .int .i64 2147483646, .int .i64 2] w fun e w' => e = .returned (.agg #[.int .i64 (-2147483648), .int .i64 2147483646, .int .i64 2, .int .i64 0, .int .i64 0]) ∧ Below w.heap.size w w') := hidA (fun w => by
    have h := set_any (-2147483648) 2147483646 2 (by decide) (by decide) w; rw [show setA (-2147483648) 2147483646 2 = ⟨(-2147483648), 2147483646, 2, 0, 0⟩ from by decide +kernel] at h; exact h)
  have K21 : Hid (∀ w, Calls Try.prog 38 #[.int .i64 3] w fun e w' => e = .returned (.agg #[.int .i64 3, .int .i64 3, .int .i64 1, .int .i64 0, .int .i64 0]) ∧ Below w.heap.size w w') := hidA (fun w => by
    exact one_any 3 w)
  have K22 : Hid (∀ w, Calls Try.prog 12 #[.agg #[.int .i64 3, .int .i64 3, .int .i64 1, .int .i64 0, .int .i64 0]] w fun e w' => e = .returned (.bool true) ∧ Below w.heap.size w w') := hidA (fun w => by
    exact svalid_any ⟨3, 3, 1, 0, 0⟩ (⟨by decide, by decide, by decide, by decide, Or.inl ⟨rfl, rfl, rfl⟩⟩ : Val ⟨3, 3, 1, 0, 0⟩) w)
  have K23 : Hid (∀ w, Calls Try.prog 12 #[.agg #[.int .i64 0, .int .i64 0, .int .i64 0, .int .i64 0, .int .i64 0]] w fun e w' => e = .returned (.bool false) ∧ Below w.heap.size w w') := hidA (fun w => by
    exact svalid_zero w)
  have K24 : Hid (∀ w, Calls Try.prog 28 #[.int .i64 5] w fun e w' => e = .returned (.agg #[.int .i64 (-2147483648), .int .i64 2147483647, .int .i64 1, .int .i64 0, .int .i64 5]) ∧ Below w.heap.size w w') := hidA (fun w => by
    have h := sall_any 5 w; rw [show allA 5 = ⟨(-2147483648), 2147483647, 1, 0, 5⟩ from by decide +kernel] at h; exact h)
  have K25 : Hid (∀ w, Calls Try.prog 39 #[.int .i64 1, .int .i64 7, .int .i64 3] w fun e w' => e = .returned (.agg #[.int .i64 1, .int .i64 7, .int .i64 3, .int .i64 1, .int .i64 0]) ∧ Below w.heap.size w w') := hidA (fun w => by
    have h := set_any 1 7 3 (by decide) (by decide) w; rw [show setA 1 7 3 = ⟨1, 7, 3, 1, 0⟩ from by decide +kernel] at h; exact h)
  have K26 : Hid (∀ w, Calls Try.prog 14 #[.agg #[.int .i64 1, .int .i64 7, .int .i64 3, .int .i64 1, .int .i64 0], .agg #[.int .i64 4, .int .i64 0]] w fun e w' => e = .returned (.bool true) ∧ Below w.heap.size w w') := hidA (fun w => by
    have h := shas_any ⟨1, 7, 3, 1, 0⟩ (⟨by decide, by decide, by decide, by decide, Or.inr ⟨by decide, by decide, by decide, by decide⟩⟩ : Val ⟨1, 7, 3, 1, 0⟩) 4 0 (by decide) w; rw [show hasB ⟨1, 7, 3, 1, 0⟩ 4 0 = true from by decide +kernel] at h; exact h)
  have K27 : Hid (∀ w, Calls Try.prog 14 #[.agg #[.int .i64 1, .int .i64 7, .int .i64 3, .int .i64 1, .int .i64 0], .agg #[.int .i64 4, .int .i64 1]] w fun e w' => e = .returned (.bool false) ∧ Below w.heap.size w w') := hidA (fun w => by
    have h := shas_any ⟨1, 7, 3, 1, 0⟩ (⟨by decide, by decide, by decide, by decide, Or.inr ⟨by decide, by decide, by decide, by decide⟩⟩ : Val ⟨1, 7, 3, 1, 0⟩) 4 1 (by decide) w; rw [show hasB ⟨1, 7, 3, 1, 0⟩ 4 1 = false from by decide +kernel] at h; exact h)
  have HS : Hid (Below w.heap.size w w) := hidA (Below.refl _ _)
  go_enter Try.func9, Try.ntmps9
  go_wp2_with (first | (go_at_call 38; (with_reducible refine (K1.out _).mono ?_); rintro e w1 ⟨rfl, hb⟩; have HS' := hidA (stepA HS.out hb); clear HS hb; have HS := HS'; clear HS') | (go_at_call 38; (with_reducible refine (K2.out _).mono ?_); rintro e w1 ⟨rfl, hb⟩; have HS' := hidA (stepA HS.out hb); clear HS hb; have HS := HS'; clear HS') | (go_at_call 18; (with_reducible refine (K3.out _).mono ?_); rintro e w1 ⟨rfl, hb⟩; have HS' := hidA (stepA HS.out hb); clear HS hb; have HS := HS'; clear HS') | (go_at_call 39; (with_reducible refine (K4.out _).mono ?_); rintro e w1 ⟨rfl, hb⟩; have HS' := hidA (stepA HS.out hb); clear HS hb; have HS := HS'; clear HS') | (go_at_call 38; (with_reducible refine (K5.out _).mono ?_); rintro e w1 ⟨rfl, hb⟩; have HS' := hidA (stepA HS.out hb); clear HS hb; have HS := HS'; clear HS') | (go_at_call 18; (with_reducible refine (K6.out _).mono ?_); rintro e w1 ⟨rfl, hb⟩; have HS' := hidA (stepA HS.out hb); clear HS hb; have HS := HS'; clear HS') | (go_at_call 39; (with_reducible refine (K7.out _).mono ?_); rintro e w1 ⟨rfl, hb⟩; have HS' := hidA (stepA HS.out hb); clear HS hb; have HS := HS'; clear HS') | (go_at_call 39; (with_reducible refine (K8.out _).mono ?_); rintro e w1 ⟨rfl, hb⟩; have HS' := hidA (stepA HS.out hb); clear HS hb; have HS := HS'; clear HS') | (go_at_call 39; (with_reducible refine (K9.out _).mono ?_); rintro e w1 ⟨rfl, hb⟩; have HS' := hidA (stepA HS.out hb); clear HS hb; have HS := HS'; clear HS') | (go_at_call 30; (with_reducible refine (K10.out _).mono ?_); rintro e w1 ⟨rfl, hb⟩; have HS' := hidA (stepA HS.out hb); clear HS hb; have HS := HS'; clear HS') | (go_at_call 39; (with_reducible refine (K11.out _).mono ?_); rintro e w1 ⟨rfl, hb⟩; have HS' := hidA (stepA HS.out hb); clear HS hb; have HS := HS'; clear HS') | (go_at_call 39; (with_reducible refine (K12.out _).mono ?_); rintro e w1 ⟨rfl, hb⟩; have HS' := hidA (stepA HS.out hb); clear HS hb; have HS := HS'; clear HS') | (go_at_call 30; (with_reducible refine (K13.out _).mono ?_); rintro e w1 ⟨rfl, hb⟩; have HS' := hidA (stepA HS.out hb); clear HS hb; have HS := HS'; clear HS') | (go_at_call 39; (with_reducible refine (K14.out _).mono ?_); rintro e w1 ⟨rfl, hb⟩; have HS' := hidA (stepA HS.out hb); clear HS hb; have HS := HS'; clear HS') | (go_at_call 30; (with_reducible refine (K15.out _).mono ?_); rintro e w1 ⟨rfl, hb⟩; have HS' := hidA (stepA HS.out hb); clear HS hb; have HS := HS'; clear HS') | (go_at_call 38; (with_reducible refine (K16.out _).mono ?_); rintro e w1 ⟨rfl, hb⟩; have HS' := hidA (stepA HS.out hb); clear HS hb; have HS := HS'; clear HS') | (go_at_call 38; (with_reducible refine (K17.out _).mono ?_); rintro e w1 ⟨rfl, hb⟩; have HS' := hidA (stepA HS.out hb); clear HS hb; have HS := HS'; clear HS') | (go_at_call 39; (with_reducible refine (K18.out _).mono ?_); rintro e w1 ⟨rfl, hb⟩; have HS' := hidA (stepA HS.out hb); clear HS hb; have HS := HS'; clear HS') | (go_at_call 30; (with_reducible refine (K19.out _).mono ?_); rintro e w1 ⟨rfl, hb⟩; have HS' := hidA (stepA HS.out hb); clear HS hb; have HS := HS'; clear HS') | (go_at_call 39; (with_reducible refine (K20.out _).mono ?_); rintro e w1 ⟨rfl, hb⟩; have HS' := hidA (stepA HS.out hb); clear HS hb; have HS := HS'; clear HS') | (go_at_call 38; (with_reducible refine (K21.out _).mono ?_); rintro e w1 ⟨rfl, hb⟩; have HS' := hidA (stepA HS.out hb); clear HS hb; have HS := HS'; clear HS') | (go_at_call 12; (with_reducible refine (K22.out _).mono ?_); rintro e w1 ⟨rfl, hb⟩; have HS' := hidA (stepA HS.out hb); clear HS hb; have HS := HS'; clear HS') | (go_at_call 12; (with_reducible refine (K23.out _).mono ?_); rintro e w1 ⟨rfl, hb⟩; have HS' := hidA (stepA HS.out hb); clear HS hb; have HS := HS'; clear HS') | (go_at_call 28; (with_reducible refine (K24.out _).mono ?_); rintro e w1 ⟨rfl, hb⟩; have HS' := hidA (stepA HS.out hb); clear HS hb; have HS := HS'; clear HS') | (go_at_call 39; (with_reducible refine (K25.out _).mono ?_); rintro e w1 ⟨rfl, hb⟩; have HS' := hidA (stepA HS.out hb); clear HS hb; have HS := HS'; clear HS') | (go_at_call 14; (with_reducible refine (K26.out _).mono ?_); rintro e w1 ⟨rfl, hb⟩; have HS' := hidA (stepA HS.out hb); clear HS hb; have HS := HS'; clear HS') | (go_at_call 14; (with_reducible refine (K27.out _).mono ?_); rintro e w1 ⟨rfl, hb⟩; have HS' := hidA (stepA HS.out hb); clear HS hb; have HS := HS'; clear HS'))
  go_ret
  exact ⟨rfl, HS.out⟩
end Go.Proofs.Ytnholabamjodhaa

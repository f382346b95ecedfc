import Derived.Test.YtdopjadlbhacfaaBe
namespace Go.Proofs.Ytdopjadlbhacfaa
open Go.RowKit Go.Instr Sp
set_option linter.unusedVariables false
set_option linter.unusedSimpArgs false

/-! span's validity. -/
set_option maxRecDepth 100000 in
set_option maxHeartbeats 1000000 in
theorem vno_0 (l h m r k : Int)  (b0 : ¬ -2147483648 ≤ l) (w : World) :
    Calls Try.prog 12 #[.agg #[.int .i64 l, .int .i64 h, .int .i64 m, .int .i64 r, .int .i64 k]] w fun e w' => e = .returned (.bool false) ∧ Below w.heap.size w w' := by
  go_enter Try.func12, Try.ntmps12
  go_wp2
  go_ret
  exact ⟨rfl, (by repeat (first | with_reducible exact Below.refl _ _ | with_reducible refine Below.setCell ?_ (by first | omega | simp <;> omega) _ | with_reducible refine Below.alloc ?_ (by first | omega | simp <;> omega) _ | with_reducible refine Below.drew ?_ | with_reducible refine drewnA ?_ _))⟩
set_option maxRecDepth 100000 in
set_option maxHeartbeats 1000000 in
theorem vno_1 (l h m r k : Int) (g0 : -2147483648 ≤ l) (b1 : ¬ l ≤ h) (w : World) :
    Calls Try.prog 12 #[.agg #[.int .i64 l, .int .i64 h, .int .i64 m, .int .i64 r, .int .i64 k]] w fun e w' => e = .returned (.bool false) ∧ Below w.heap.size w w' := by
  go_enter Try.func12, Try.ntmps12
  go_wp2
  go_ret
  exact ⟨rfl, (by repeat (first | with_reducible exact Below.refl _ _ | with_reducible refine Below.setCell ?_ (by first | omega | simp <;> omega) _ | with_reducible refine Below.alloc ?_ (by first | omega | simp <;> omega) _ | with_reducible refine Below.drew ?_ | with_reducible refine drewnA ?_ _))⟩
set_option maxRecDepth 100000 in
set_option maxHeartbeats 1000000 in
theorem vno_2 (l h m r k : Int) (g0 : -2147483648 ≤ l) (g1 : l ≤ h) (b2 : ¬ h ≤ 2147483647) (w : World) :
    Calls Try.prog 12 #[.agg #[.int .i64 l, .int .i64 h, .int .i64 m, .int .i64 r, .int .i64 k]] w fun e w' => e = .returned (.bool false) ∧ Below w.heap.size w w' := by
  go_enter Try.func12, Try.ntmps12
  go_wp2
  go_ret
  exact ⟨rfl, (by repeat (first | with_reducible exact Below.refl _ _ | with_reducible refine Below.setCell ?_ (by first | omega | simp <;> omega) _ | with_reducible refine Below.alloc ?_ (by first | omega | simp <;> omega) _ | with_reducible refine Below.drew ?_ | with_reducible refine drewnA ?_ _))⟩
set_option maxRecDepth 100000 in
set_option maxHeartbeats 1000000 in
theorem vno_3 (l h m r k : Int) (g0 : -2147483648 ≤ l) (g1 : l ≤ h) (g2 : h ≤ 2147483647) (b3 : ¬ 1 ≤ m) (w : World) :
    Calls Try.prog 12 #[.agg #[.int .i64 l, .int .i64 h, .int .i64 m, .int .i64 r, .int .i64 k]] w fun e w' => e = .returned (.bool false) ∧ Below w.heap.size w w' := by
  go_enter Try.func12, Try.ntmps12
  go_wp2
  go_ret
  exact ⟨rfl, (by repeat (first | with_reducible exact Below.refl _ _ | with_reducible refine Below.setCell ?_ (by first | omega | simp <;> omega) _ | with_reducible refine Below.alloc ?_ (by first | omega | simp <;> omega) _ | with_reducible refine Below.drew ?_ | with_reducible refine drewnA ?_ _))⟩
set_option maxRecDepth 100000 in
set_option maxHeartbeats 1000000 in
theorem vno_4 (l h m r k : Int) (g0 : -2147483648 ≤ l) (g1 : l ≤ h) (g2 : h ≤ 2147483647) (g3 : 1 ≤ m) (b4 : ¬ 0 ≤ k) (w : World) :
    Calls Try.prog 12 #[.agg #[.int .i64 l, .int .i64 h, .int .i64 m, .int .i64 r, .int .i64 k]] w fun e w' => e = .returned (.bool false) ∧ Below w.heap.size w w' := by
  go_enter Try.func12, Try.ntmps12
  go_wp2
  go_ret
  exact ⟨rfl, (by repeat (first | with_reducible exact Below.refl _ _ | with_reducible refine Below.setCell ?_ (by first | omega | simp <;> omega) _ | with_reducible refine Below.alloc ?_ (by first | omega | simp <;> omega) _ | with_reducible refine Below.drew ?_ | with_reducible refine drewnA ?_ _))⟩
set_option maxRecDepth 100000 in
set_option maxHeartbeats 1000000 in
theorem vno_5 (l h m r k : Int) (g0 : -2147483648 ≤ l) (g1 : l ≤ h) (g2 : h ≤ 2147483647) (g3 : 1 ≤ m) (g4 : 0 ≤ k) (b5 : ¬ k ≤ 255) (w : World) :
    Calls Try.prog 12 #[.agg #[.int .i64 l, .int .i64 h, .int .i64 m, .int .i64 r, .int .i64 k]] w fun e w' => e = .returned (.bool false) ∧ Below w.heap.size w w' := by
  go_enter Try.func12, Try.ntmps12
  go_wp2
  go_ret
  exact ⟨rfl, (by repeat (first | with_reducible exact Below.refl _ _ | with_reducible refine Below.setCell ?_ (by first | omega | simp <;> omega) _ | with_reducible refine Below.alloc ?_ (by first | omega | simp <;> omega) _ | with_reducible refine Below.drew ?_ | with_reducible refine drewnA ?_ _))⟩
set_option maxRecDepth 100000 in
set_option maxHeartbeats 2000000 in
theorem vyes_t (l h m r k : Int) (g0 : -2147483648 ≤ l) (g1 : l ≤ h) (g2 : h ≤ 2147483647) (g3 : 1 ≤ m) (g4 : 0 ≤ k) (g5 : k ≤ 255) (CW : Hid (∀ w, Calls Try.prog 41 #[.agg #[.int .i64 l, .int .i64 m], .int .i64 l, .int .i64 h] w fun e w' => e = .returned (.tuple #[.agg #[.int .i64 l, .int .i64 h, .int .i64 m, .int .i64 r, .int .i64 0], .bool true]) ∧ Below w.heap.size w w')) (w : World) :
    Calls Try.prog 12 #[.agg #[.int .i64 l, .int .i64 h, .int .i64 m, .int .i64 r, .int .i64 k]] w fun e w' => e = .returned (.bool true) ∧ Below w.heap.size w w' := by
  obtain ⟨w0, hw0⟩ : ∃ w0, (w.alloc (.cells #[.int .i64 l, .int .i64 h, .int .i64 m, .int .i64 r, .int .i64 k] 27)) = w0 := ⟨_, rfl⟩
  have B0 : Hid (Below w.heap.size w w0) := hidA (by rw [← hw0]; exact (alA (Below.refl _ _) _))
  have hsz : w.heap.size < w0.heap.size := by rw [← hw0]; simp
  have PK : Hid (∀ W, Below w0.heap.size w0 W → W.cell? ⟨w.heap.size, 0, none⟩ = some (.int .i64 l) ∧ W.cell? ⟨w.heap.size, 1, none⟩ = some (.int .i64 h) ∧ W.cell? ⟨w.heap.size, 2, none⟩ = some (.int .i64 m) ∧ W.cell? ⟨w.heap.size, 3, none⟩ = some (.int .i64 r) ∧ W.cell? ⟨w.heap.size, 4, none⟩ = some (.int .i64 k) ∧ w.heap.size < W.heap.size) := hidA (fun W hW => by and_intros <;> first | exact cellA hW (by rw [← hw0]; simp [go_sem]) | exact (by have h0 := hW.size; have h1 := hsz; omega))
  have Hw := hidA hw0; clear hw0
  go_enter Try.func12, Try.ntmps12
  go_wp2_with fail
  rw [Hw.out]
  clear Hw
  have HS : Hid (Below w0.heap.size w0 w0) := hidA (Below.refl _ _)
  obtain ⟨c0, c1, c2, c3, c4, z0⟩ := PK.out _ HS.out
  go_wp2_with (go_at_call 41; (with_reducible refine (CW.out _).mono ?_); rintro e w1 ⟨rfl, hb⟩; have hs1 := stepA HS.out hb; clear hb; clear HS; have HS := hidA hs1; clear hs1 c0 c1 c2 c3 c4 z0; obtain ⟨c0, c1, c2, c3, c4, z0⟩ := PK.out _ HS.out)
  go_ret
  exact ⟨rfl, (by repeat (first | with_reducible exact Below.refl _ _ | with_reducible exact HS.out | with_reducible exact B0.out | with_reducible refine Below.setCell ?_ (by first | omega | simp <;> omega) _ | with_reducible refine Below.alloc ?_ (by first | omega | simp <;> omega) _ | with_reducible refine Below.drew ?_ | with_reducible refine drewnA ?_ _ | with_reducible refine Below.trans ?_ (HS.out.mono (by first | omega | simp <;> omega)) | with_reducible refine Below.trans ?_ (B0.out.mono (by first | omega | simp <;> omega))))⟩
set_option maxRecDepth 100000 in
set_option maxHeartbeats 2000000 in
theorem vyes_f (l h m r k : Int) (jl jh jm jr : Int) (hne : ¬ (jl = l ∧ jh = h ∧ jm = m ∧ jr = r)) (g0 : -2147483648 ≤ l) (g1 : l ≤ h) (g2 : h ≤ 2147483647) (g3 : 1 ≤ m) (g4 : 0 ≤ k) (g5 : k ≤ 255) (CW : Hid (∀ w, Calls Try.prog 41 #[.agg #[.int .i64 l, .int .i64 m], .int .i64 l, .int .i64 h] w fun e w' => e = .returned (.tuple #[.agg #[.int .i64 jl, .int .i64 jh, .int .i64 jm, .int .i64 jr, .int .i64 0], .bool true]) ∧ Below w.heap.size w w')) (w : World) :
    Calls Try.prog 12 #[.agg #[.int .i64 l, .int .i64 h, .int .i64 m, .int .i64 r, .int .i64 k]] w fun e w' => e = .returned (.bool false) ∧ Below w.heap.size w w' := by
  obtain ⟨w0, hw0⟩ : ∃ w0, (w.alloc (.cells #[.int .i64 l, .int .i64 h, .int .i64 m, .int .i64 r, .int .i64 k] 27)) = w0 := ⟨_, rfl⟩
  have B0 : Hid (Below w.heap.size w w0) := hidA (by rw [← hw0]; exact (alA (Below.refl _ _) _))
  have hsz : w.heap.size < w0.heap.size := by rw [← hw0]; simp
  have PK : Hid (∀ W, Below w0.heap.size w0 W → W.cell? ⟨w.heap.size, 0, none⟩ = some (.int .i64 l) ∧ W.cell? ⟨w.heap.size, 1, none⟩ = some (.int .i64 h) ∧ W.cell? ⟨w.heap.size, 2, none⟩ = some (.int .i64 m) ∧ W.cell? ⟨w.heap.size, 3, none⟩ = some (.int .i64 r) ∧ W.cell? ⟨w.heap.size, 4, none⟩ = some (.int .i64 k) ∧ w.heap.size < W.heap.size) := hidA (fun W hW => by and_intros <;> first | exact cellA hW (by rw [← hw0]; simp [go_sem]) | exact (by have h0 := hW.size; have h1 := hsz; omega))
  have Hw := hidA hw0; clear hw0
  go_enter Try.func12, Try.ntmps12
  go_wp2_with fail
  rw [Hw.out]
  clear Hw
  have HS : Hid (Below w0.heap.size w0 w0) := hidA (Below.refl _ _)
  obtain ⟨c0, c1, c2, c3, c4, z0⟩ := PK.out _ HS.out
  go_wp2_with (go_at_call 41; (with_reducible refine (CW.out _).mono ?_); rintro e w1 ⟨rfl, hb⟩; have hs1 := stepA HS.out hb; clear hb; clear HS; have HS := hidA hs1; clear hs1 c0 c1 c2 c3 c4 z0; obtain ⟨c0, c1, c2, c3, c4, z0⟩ := PK.out _ HS.out)
  all_goals first | (go_ret; exact ⟨rfl, (by repeat (first | with_reducible exact Below.refl _ _ | with_reducible exact HS.out | with_reducible exact B0.out | with_reducible refine Below.setCell ?_ (by first | omega | simp <;> omega) _ | with_reducible refine Below.alloc ?_ (by first | omega | simp <;> omega) _ | with_reducible refine Below.drew ?_ | with_reducible refine drewnA ?_ _ | with_reducible refine Below.trans ?_ (HS.out.mono (by first | omega | simp <;> omega)) | with_reducible refine Below.trans ?_ (B0.out.mono (by first | omega | simp <;> omega))))⟩) | exact absurd ⟨by assumption, by assumption, by assumption, by assumption⟩ hne
/-- Validity of any five numbers. -/
def VP (l h m r k : Int) : Prop := -2147483648 ≤ l ∧ l ≤ h ∧ h ≤ 2147483647 ∧ 1 ≤ m ∧ 0 ≤ k ∧ k ≤ 255 ∧ ((l = h ∧ m = 1 ∧ r = 0) ∨ (l < h ∧ m ∣ h - l ∧ r = l % m))
theorem vp_by (l h m r : Int) (g1 : l ≤ h) (g3 : 1 ≤ m) : ((byA l h m 0).lo = l ∧ (byA l h m 0).hi = h ∧ (byA l h m 0).m = m ∧ (byA l h m 0).r = r) ↔ ((l = h ∧ m = 1 ∧ r = 0) ∨ (l < h ∧ m ∣ h - l ∧ r = l % m)) := by
  obtain ⟨t1, t2, t3, t4⟩ := top_le (lo := l) (hi := h) (m := m) ⟨g1, by omega, by omega⟩
  unfold byA
  by_cases c : l = topOf l h m
  · rw [if_pos c]
    constructor
    · rintro ⟨_, x2, x3, x4⟩
      exact Or.inl ⟨x2, x3.symm, x4.symm⟩
    · rintro (⟨x1, x2, x3⟩ | ⟨x1, x2, x3⟩)
      · exact ⟨rfl, x1, x2.symm, x3.symm⟩
      · have := t4 h (Int.le_refl _) x2
        omega
  · rw [if_neg c]
    constructor
    · rintro ⟨_, x2, x3, x4⟩
      have x2' : topOf l h m = h := x2
      exact Or.inr ⟨by omega, x2' ▸ t3, x4.symm⟩
    · rintro (⟨x1, x2, x3⟩ | ⟨x1, x2, x3⟩)
      · omega
      · have := t4 h (Int.le_refl _) x2
        exact ⟨rfl, by show topOf l h m = h; omega, rfl, x3.symm⟩
theorem svalid_all (l h m r k : Int) (hm : m ≤ 9223372036854775807) (b : Bool) (hb : b = true ↔ VP l h m r k) (w : World) :
    Calls Try.prog 12 #[.agg #[.int .i64 l, .int .i64 h, .int .i64 m, .int .i64 r, .int .i64 k]] w fun e w' => e = .returned (.bool b) ∧ Below w.heap.size w w' := by
  have no : ¬ VP l h m r k → b = false := fun x => by
    cases b with
    | false => rfl
    | true => exact absurd (hb.1 rfl) x
  by_cases g0 : -2147483648 ≤ l
  · by_cases g1 : l ≤ h
    · by_cases g2 : h ≤ 2147483647
      · by_cases g3 : 1 ≤ m
        · by_cases g4 : 0 ≤ k
          · by_cases g5 : k ≤ 255
            · have B : ByOk l h m := ⟨g1, by omega, by omega⟩
              have V := by_val (k := 0) B g0 g2 (by omega)
              have CW := hidA (fun w => within_some (byA l h m 0) V l m l h ⟨⟨by omega, by omega⟩, by omega, by omega, by omega, by omega, by omega, Or.inr ⟨hm, Int.le_refl _, g1⟩⟩ (fun v => by_mem 0 B v) w)
              by_cases c : (byA l h m 0).lo = l ∧ (byA l h m 0).hi = h ∧ (byA l h m 0).m = m ∧ (byA l h m 0).r = r
              · have e : b = true := hb.2 ⟨g0, g1, g2, g3, g4, g5, (vp_by l h m r g1 g3).1 c⟩
                obtain ⟨c1, c2, c3, c4⟩ := c
                rw [c1, c2, c3, c4] at CW
                rw [e]
                exact vyes_t l h m r k g0 g1 g2 g3 g4 g5 CW w
              · rw [no (fun x => c ((vp_by l h m r g1 g3).2 x.2.2.2.2.2.2))]
                exact vyes_f l h m r k _ _ _ _ c g0 g1 g2 g3 g4 g5 CW w
            · rw [no (fun x => g5 x.2.2.2.2.2.1)]
              exact vno_5 l h m r k g0 g1 g2 g3 g4 g5 w
          · rw [no (fun x => g4 x.2.2.2.2.1)]
            exact vno_4 l h m r k g0 g1 g2 g3 g4 w
        · rw [no (fun x => g3 x.2.2.2.1)]
          exact vno_3 l h m r k g0 g1 g2 g3 w
      · rw [no (fun x => g2 x.2.2.1)]
        exact vno_2 l h m r k g0 g1 g2 w
    · rw [no (fun x => g1 x.2.1)]
      exact vno_1 l h m r k g0 g1 w
  · rw [no (fun x => g0 x.1)]
    exact vno_0 l h m r k g0 w
theorem val_vp {a : Ab} (A : Val a) : VP a.lo a.hi a.m a.r a.k := by
  have := A.l; have := A.h; have := A.o; have := A.k
  refine ⟨A.l, A.o, A.h, ?_, by omega, by omega, ?_⟩
  · rcases A.s with s | s <;> omega
  · rcases A.s with s | ⟨s1, s2, s3, s4⟩
    · exact Or.inl s
    · exact Or.inr ⟨s1, s3, s4⟩
theorem svalid_any (a : Ab) (A : Val a) (w : World) :
    Calls Try.prog 12 #[.agg #[.int .i64 a.lo, .int .i64 a.hi, .int .i64 a.m, .int .i64 a.r, .int .i64 a.k]] w fun e w' => e = .returned (.bool true) ∧ Below w.heap.size w w' :=
  svalid_all _ _ _ _ _ (by have := (val_wb A).m2; omega) true ⟨fun _ => val_vp A, fun _ => rfl⟩ w
theorem svalid_zero (w : World) :
    Calls Try.prog 12 #[.agg #[.int .i64 0, .int .i64 0, .int .i64 0, .int .i64 0, .int .i64 0]] w fun e w' => e = .returned (.bool false) ∧ Below w.heap.size w w' :=
  svalid_all 0 0 0 0 0 (by omega) false ⟨fun h => (by cases h), fun h => (by have := h.2.2.2.1; omega)⟩ w
end Go.Proofs.Ytdopjadlbhacfaa

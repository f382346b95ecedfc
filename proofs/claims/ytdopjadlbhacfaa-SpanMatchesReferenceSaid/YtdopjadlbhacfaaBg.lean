import Derived.Test.YtdopjadlbhacfaaBf
import Derived.Test.YtdopjadlbhacfaaBm
import Derived.Deep.Cut
import Derived.Deep.DeepCutAuto
namespace Go.Proofs.Ytdopjadlbhacfaa
open Go.RowKit Go.Instr Sp
set_option linter.unusedVariables false
set_option linter.unusedSimpArgs false

/-! span's sets of results, which wrap around. -/
set_option maxRecDepth 100000 in
set_option maxHeartbeats 2000000 in
theorem wrap_in (lo hi m : Int) (J : Ab) (h1 : -2147483648 ≤ lo) (h2 : hi ≤ 2147483647) (CW : Hid (∀ w, Calls Try.prog 41 #[.agg #[.int .i64 lo, .int .i64 m], .int .i64 lo, .int .i64 hi] w fun e w' => e = .returned (.tuple #[.agg #[.int .i64 J.lo, .int .i64 J.hi, .int .i64 J.m, .int .i64 J.r, .int .i64 0], .bool true]) ∧ Below w.heap.size w w')) (w : World) :
    Calls Try.prog 95 #[.int .i64 lo, .int .i64 hi, .int .i64 m] w fun e w' => e = .returned (.agg #[.int .i64 J.lo, .int .i64 J.hi, .int .i64 J.m, .int .i64 J.r, .int .i64 0]) ∧ Below w.heap.size w w' := by
  obtain ⟨w0, hw0⟩ : ∃ w0, ((w.alloc (.cells #[.int .i64 0, .int .i64 0, .int .i64 0, .int .i64 0, .int .i64 0] 27)).alloc (.cells #[.int .i64 lo, .int .i64 m] 69)) = w0 := ⟨_, rfl⟩
  have B0 : Hid (Below w.heap.size w w0) := hidA (by rw [← hw0]; exact (alA (alA (Below.refl _ _) _) _))
  have hsz : w.heap.size + 1 < w0.heap.size := by rw [← hw0]; simp
  have PK : Hid (∀ W, Below w0.heap.size w0 W → W.cell? ⟨w.heap.size, 0, none⟩ = some (.int .i64 0) ∧ W.cell? ⟨w.heap.size, 1, none⟩ = some (.int .i64 0) ∧ W.cell? ⟨w.heap.size, 2, none⟩ = some (.int .i64 0) ∧ W.cell? ⟨w.heap.size, 3, none⟩ = some (.int .i64 0) ∧ W.cell? ⟨w.heap.size, 4, none⟩ = some (.int .i64 0) ∧ W.cell? ⟨w.heap.size + 1, 0, none⟩ = some (.int .i64 lo) ∧ W.cell? ⟨w.heap.size + 1, 1, none⟩ = some (.int .i64 m) ∧ w.heap.size < W.heap.size ∧ w.heap.size + 1 < W.heap.size ∧ (∀ i, W.frozen? ⟨w.heap.size, i, none⟩ = false)) := hidA (fun W hW => by and_intros <;> first | exact cellA hW (by rw [← hw0]; simp [go_sem]) | exact (by have h0 := hW.size; have h1 := hsz; omega) | exact (fun i => (hW.frozen (p := ⟨w.heap.size, i, none⟩) (show w.heap.size < w0.heap.size by have h1 := hsz; omega)).trans (by rw [← hw0]; simp [go_sem])))
  have Hw := hidA hw0; clear hw0
  go_enter Try.func95, Try.ntmps95
  go_wp2_with fail
  rw [Hw.out]
  clear Hw
  have HS : Hid (Below w0.heap.size w0 w0) := hidA (Below.refl _ _)
  obtain ⟨c0, c1, c2, c3, c4, c5, c6, z0, z1, fr0⟩ := PK.out _ HS.out
  go_wp2_with (go_at_call 41; (with_reducible refine (CW.out _).mono ?_); rintro e w1 ⟨rfl, hb⟩; have hs1 := stepA HS.out hb; clear hb; clear HS; have HS := hidA hs1; clear hs1 c0 c1 c2 c3 c4 c5 c6 z0 z1 fr0; obtain ⟨c0, c1, c2, c3, c4, c5, c6, z0, z1, fr0⟩ := PK.out _ HS.out)
  exact bodyPost_ret (v := .agg #[.int .i64 J.lo, .int .i64 J.hi, .int .i64 J.m, .int .i64 J.r, .int .i64 0]) (by simp [results, Try.results95, go_sem, c0, c1, c2, c3, c4, z0, z1]) rfl ⟨by rfl, (by repeat (first | with_reducible exact Below.refl _ _ | with_reducible exact HS.out | with_reducible exact B0.out | with_reducible refine Below.setCell ?_ (by first | omega | simp <;> omega) _ | with_reducible refine Below.alloc ?_ (by first | omega | simp <;> omega) _ | with_reducible refine Below.drew ?_ | with_reducible refine drewnA ?_ _ | with_reducible refine Below.trans ?_ (HS.out.mono (by first | omega | simp <;> omega)) | with_reducible refine Below.trans ?_ (B0.out.mono (by first | omega | simp <;> omega))))⟩
set_option maxRecDepth 100000 in
set_option maxHeartbeats 2000000 in
theorem core_wrap_out1 (lo hi m p n x : Int) (J : Ab) (hn : IntKind.i64.wrap (-m) = n) (hx : bits .and .i64 m n = x) (hp : (if 4294967296 < x then 4294967296 else x) = p) (CW : Hid (∀ w, Calls Try.prog 41 #[.agg #[.int .i64 lo, .int .i64 p], .int .i64 (-2147483648), .int .i64 2147483647] w fun e w' => e = .returned (.tuple #[.agg #[.int .i64 J.lo, .int .i64 J.hi, .int .i64 J.m, .int .i64 J.r, .int .i64 0], .bool true]) ∧ Below w.heap.size w w')) (HH : ((¬ -2147483648 ≤ lo)) ∨ ((-2147483648 ≤ lo) ∧ (¬ hi ≤ 2147483647))) (w : World) :
    Calls Try.prog 95 #[.int .i64 lo, .int .i64 hi, .int .i64 m] w fun e w' => e = .returned (.agg #[.int .i64 J.lo, .int .i64 J.hi, .int .i64 J.m, .int .i64 J.r, .int .i64 0]) ∧ Below w.heap.size w w' := by
  rcases HH with h1 | ⟨h1, h2⟩
  all_goals
    obtain ⟨w0, hw0⟩ : ∃ w0, ((w.alloc (.cells #[.int .i64 0, .int .i64 0, .int .i64 0, .int .i64 0, .int .i64 0] 27)).alloc (.cells #[.int .i64 lo, .int .i64 p] 69)) = w0 := ⟨_, rfl⟩
    have B0 : Hid (Below w.heap.size w w0) := hidA (by rw [← hw0]; exact (alA (alA (Below.refl _ _) _) _))
    have hsz : w.heap.size + 1 < w0.heap.size := by rw [← hw0]; simp
    have PK : Hid (∀ W, Below w0.heap.size w0 W → W.cell? ⟨w.heap.size, 0, none⟩ = some (.int .i64 0) ∧ W.cell? ⟨w.heap.size, 1, none⟩ = some (.int .i64 0) ∧ W.cell? ⟨w.heap.size, 2, none⟩ = some (.int .i64 0) ∧ W.cell? ⟨w.heap.size, 3, none⟩ = some (.int .i64 0) ∧ W.cell? ⟨w.heap.size, 4, none⟩ = some (.int .i64 0) ∧ W.cell? ⟨w.heap.size + 1, 0, none⟩ = some (.int .i64 lo) ∧ W.cell? ⟨w.heap.size + 1, 1, none⟩ = some (.int .i64 p) ∧ w.heap.size < W.heap.size ∧ w.heap.size + 1 < W.heap.size ∧ (∀ i, W.frozen? ⟨w.heap.size, i, none⟩ = false)) := hidA (fun W hW => by and_intros <;> first | exact cellA hW (by rw [← hw0]; simp [go_sem]) | exact (by have h0 := hW.size; have h1 := hsz; omega) | exact (fun i => (hW.frozen (p := ⟨w.heap.size, i, none⟩) (show w.heap.size < w0.heap.size by have h1 := hsz; omega)).trans (by rw [← hw0]; simp [go_sem])))
    have Hw := hidA hw0; clear hw0
    go_enter Try.func95, Try.ntmps95
    go_wp2_with fail
    rw [Hw.out]
    clear Hw
    have HS : Hid (Below w0.heap.size w0 w0) := hidA (Below.refl _ _)
    obtain ⟨c0, c1, c2, c3, c4, c5, c6, z0, z1, fr0⟩ := PK.out _ HS.out
    go_wp2_with (go_at_call 41; (with_reducible refine (CW.out _).mono ?_); rintro e w1 ⟨rfl, hb⟩; have hs1 := stepA HS.out hb; clear hb; clear HS; have HS := hidA hs1; clear hs1 c0 c1 c2 c3 c4 c5 c6 z0 z1 fr0; obtain ⟨c0, c1, c2, c3, c4, c5, c6, z0, z1, fr0⟩ := PK.out _ HS.out)
    exact bodyPost_ret (v := .agg #[.int .i64 J.lo, .int .i64 J.hi, .int .i64 J.m, .int .i64 J.r, .int .i64 0]) (by simp [results, Try.results95, go_sem, c0, c1, c2, c3, c4, z0, z1]) rfl ⟨by rfl, (by repeat (first | with_reducible exact Below.refl _ _ | with_reducible exact HS.out | with_reducible exact B0.out | with_reducible refine Below.setCell ?_ (by first | omega | simp <;> omega) _ | with_reducible refine Below.alloc ?_ (by first | omega | simp <;> omega) _ | with_reducible refine Below.drew ?_ | with_reducible refine drewnA ?_ _ | with_reducible refine Below.trans ?_ (HS.out.mono (by first | omega | simp <;> omega)) | with_reducible refine Below.trans ?_ (B0.out.mono (by first | omega | simp <;> omega))))⟩
theorem wrap_out1 (lo hi m p n x : Int) (J : Ab) (hn : IntKind.i64.wrap (-m) = n) (hx : bits .and .i64 m n = x) (hp : (if 4294967296 < x then 4294967296 else x) = p) (h1 : ¬ -2147483648 ≤ lo) (CW : Hid (∀ w, Calls Try.prog 41 #[.agg #[.int .i64 lo, .int .i64 p], .int .i64 (-2147483648), .int .i64 2147483647] w fun e w' => e = .returned (.tuple #[.agg #[.int .i64 J.lo, .int .i64 J.hi, .int .i64 J.m, .int .i64 J.r, .int .i64 0], .bool true]) ∧ Below w.heap.size w w')) (w : World) :
    Calls Try.prog 95 #[.int .i64 lo, .int .i64 hi, .int .i64 m] w fun e w' => e = .returned (.agg #[.int .i64 J.lo, .int .i64 J.hi, .int .i64 J.m, .int .i64 J.r, .int .i64 0]) ∧ Below w.heap.size w w' :=
  core_wrap_out1 lo hi m p n x J hn hx hp CW (Or.inl h1) w
set_option maxRecDepth 100000 in
set_option maxHeartbeats 2000000 in
theorem wrap_out2 (lo hi m p n x : Int) (J : Ab) (hn : IntKind.i64.wrap (-m) = n) (hx : bits .and .i64 m n = x) (hp : (if 4294967296 < x then 4294967296 else x) = p) (h1 : -2147483648 ≤ lo) (h2 : ¬ hi ≤ 2147483647) (CW : Hid (∀ w, Calls Try.prog 41 #[.agg #[.int .i64 lo, .int .i64 p], .int .i64 (-2147483648), .int .i64 2147483647] w fun e w' => e = .returned (.tuple #[.agg #[.int .i64 J.lo, .int .i64 J.hi, .int .i64 J.m, .int .i64 J.r, .int .i64 0], .bool true]) ∧ Below w.heap.size w w')) (w : World) :
    Calls Try.prog 95 #[.int .i64 lo, .int .i64 hi, .int .i64 m] w fun e w' => e = .returned (.agg #[.int .i64 J.lo, .int .i64 J.hi, .int .i64 J.m, .int .i64 J.r, .int .i64 0]) ∧ Below w.heap.size w w' :=
  core_wrap_out1 lo hi m p n x J hn hx hp CW (Or.inr ⟨h1, h2⟩) w
theorem swrapped_any (lo hi m : Int) (B : ByOk lo hi m) (hl : Far lo) (hh : hi ≤ 4611686018427387904) (hm : m ≤ 9223372036854775807) (hz : m = 0 → inV lo ∧ inV hi) (w : World) :
    Calls Try.prog 95 #[.int .i64 lo, .int .i64 hi, .int .i64 m] w fun e w' => e = .returned (.agg #[.int .i64 ((bdA lo hi m 0).lo), .int .i64 ((bdA lo hi m 0).hi), .int .i64 ((bdA lo hi m 0).m), .int .i64 ((bdA lo hi m 0).r), .int .i64 0]) ∧ Below w.heap.size w w' := by
  by_cases c : inV lo ∧ inV hi
  · have e : bdA lo hi m 0 = byA lo hi m 0 := if_pos c
    rw [e]
    have h1 := c.1.1; have h2 := c.2.2; have h3 := B.o
    exact wrap_in lo hi m _ h1 h2 (hidA (fun w => within_some (byA lo hi m 0) (by_val B h1 h2 (by omega)) lo m lo hi ⟨hl, by omega, by omega, by omega, by omega, B.m0, Or.inr ⟨hm, Int.le_refl _, h3⟩⟩ (fun v => by_mem 0 B v) w)) w
  · have e : bdA lo hi m 0 = likeA lo (pw m) (-2147483648) 2147483647 0 := if_neg c
    rw [e]
    have m0 : 0 < m := by
      have := B.m0
      rcases Int.lt_or_le 0 m with g | g
      · exact g
      · exact absurd (hz (by omega)) c
    obtain ⟨p1, p2, p3⟩ := pw_ok m
    have ps := like_some lo m
    have p4 := Int.le_of_dvd (by omega) p2
    have CW := hidA (fun w => within_some (likeA lo (pw m) (-2147483648) 2147483647 0) (like_val p1 ps (by omega) (by omega) (by omega)) lo (pw m) (-2147483648) 2147483647 ⟨hl, by omega, by omega, by omega, by omega, by omega, Or.inl (by omega)⟩ (fun v => like_mem 0 p1 ps v) w)
    have hn : IntKind.i64.wrap (-m) = -m := IntWalk.i64_in _ (by omega)
    by_cases h1 : -2147483648 ≤ lo
    · have h2 : ¬ hi ≤ 2147483647 := fun h => c ⟨⟨h1, by have := B.o; omega⟩, ⟨by have := B.o; omega, h⟩⟩
      exact wrap_out2 lo hi m _ _ _ _ hn rfl (low_bit m m0 hm) h1 h2 CW w
    · exact wrap_out1 lo hi m _ _ _ _ hn rfl (low_bit m m0 hm) h1 CW w
end Go.Proofs.Ytdopjadlbhacfaa

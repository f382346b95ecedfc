import Derived.Test.YtdopjadlbhacfaaBt
import Derived.Deep.Cut
import Derived.Deep.DeepCutAuto
namespace Go.Proofs.Ytdopjadlbhacfaa
open Go.RowKit Go.Instr Sp
set_option linter.unusedVariables false
set_option linter.unusedSimpArgs false

/-! What two sets have in common. -/
set_option maxRecDepth 100000 in
set_option maxHeartbeats 4000000 in
theorem com_no (a b : Ab) (h1 : ¬ a.lo < b.lo) (s t g d : Int) (es : (if a.m < 1 then 1 else a.m) = s) (et : (if b.m < 1 then 1 else b.m) = t) (ed : IntKind.i64.wrap (b.lo - a.lo) = d) (g0 : (g == 0) = false) (g1 : ¬ g = 0) (CD : Hid (∀ w b, w.cell? ⟨b, 0, none⟩ = some (.int .i64 s) → w.cell? ⟨b, 1, none⟩ = some (.int .i64 t) → Calls Try.prog 47 #[.slice (some ⟨b, 0, none⟩) 2 2] w fun e w' => e = .returned (.int .i64 g) ∧ Below w.heap.size w w')) (h3 : (d.tmod g == 0) = false) (h4 : (d.tmod g != 0) = true) (w : World) :
    Calls Try.prog 78 #[.agg #[.int .i64 a.lo, .int .i64 a.hi, .int .i64 a.m, .int .i64 a.r, .int .i64 a.k], .agg #[.int .i64 b.lo, .int .i64 b.hi, .int .i64 b.m, .int .i64 b.r, .int .i64 b.k]] w fun e w' => e = .returned (.tuple #[.agg #[.int .i64 0, .int .i64 0], .bool false]) ∧ Below w.heap.size w w' := by
  obtain ⟨w0, hw0⟩ : ∃ w0, (((w.alloc (.cells #[.int .i64 a.lo, .int .i64 a.hi, .int .i64 a.m, .int .i64 a.r, .int .i64 a.k] 27)).alloc (.cells #[.int .i64 b.lo, .int .i64 b.hi, .int .i64 b.m, .int .i64 b.r, .int .i64 b.k] 27)).alloc (.cells #[.int .i64 0, .int .i64 0] 69)) = w0 := ⟨_, rfl⟩
  have B0 : Hid (Below w.heap.size w w0) := hidA (by rw [← hw0]; exact (alA (alA (alA (Below.refl _ _) _) _) _))
  have hsz : w.heap.size + 1 + 1 < w0.heap.size := by rw [← hw0]; simp
  have PK : Hid (∀ W, Below w0.heap.size w0 W → abF W (w.heap.size) a (abF W (w.heap.size + 1) b (W.cell? ⟨w.heap.size + 1 + 1, 0, none⟩ = some (.int .i64 0) ∧ W.cell? ⟨w.heap.size + 1 + 1, 1, none⟩ = some (.int .i64 0) ∧ w.heap.size < W.heap.size ∧ w.heap.size + 1 < W.heap.size ∧ w.heap.size + 1 + 1 < W.heap.size ∧ (∀ i, W.frozen? ⟨w.heap.size + 1 + 1, i, none⟩ = false)))) := hidA (fun W hW => by and_intros <;> first | exact cellA hW (by rw [← hw0]; simp [go_sem]) | exact (by have h0 := hW.size; have h1 := hsz; omega) | exact (fun i => (hW.frozen (p := ⟨w.heap.size + 1 + 1, i, none⟩) (show w.heap.size + 1 + 1 < w0.heap.size by have h1 := hsz; omega)).trans (by rw [← hw0]; simp [go_sem])))
  have Hw := hidA hw0; clear hw0
  go_enter Try.func78, Try.ntmps78
  go_wp2_with fail
  rw [Hw.out]
  clear Hw
  have HS : Hid (Below w0.heap.size w0 w0) := hidA (Below.refl _ _)
  obtain ⟨c0, c1, c2, c3, c4, c5, c6, c7, c8, c9, c10, c11, z0, z1, z2, fr2⟩ := PK.out _ HS.out
  go_quiet (fail)
  have hs1 := drewnA HS.out nq
  generalize w0.drewN nq = wd at *
  clear HS; have HS := hidA hs1; clear hs1 c0 c1 c2 c3 c4 c5 c6 c7 c8 c9 c10 c11 z0 z1 z2 fr2; obtain ⟨c0, c1, c2, c3, c4, c5, c6, c7, c8, c9, c10, c11, z0, z1, z2, fr2⟩ := PK.out _ HS.out
  have PN : Hid (∀ V, Below wd.heap.size wd V → _) := hidA (fun V hV => PK.out V (stepA HS.out hV))
  have BN : Hid (Below w.heap.size w wd) := hidA (B0.out.trans (HS.out.mono B0.out.size))
  have hszN : w.heap.size + 1 + 1 < wd.heap.size := by first | assumption | omega
  clear B0 PK HS hsz
  clear c0 c1 c2 c3 c4 c5 c6 c7 c8 c9 c10 c11 z0 z1 z2 fr2
  have PK := PN
  have B0 := BN
  have hsz := hszN
  clear PN BN hszN
  have HS : Hid (Below wd.heap.size wd wd) := hidA (Below.refl _ _)
  generalize wd = w0 at *
  obtain ⟨c0, c1, c2, c3, c4, c5, c6, c7, c8, c9, c10, c11, z0, z1, z2, fr2⟩ := PK.out _ HS.out
  go_wp2_with ((go_at_call 47; (with_reducible refine (CD.out _ _ ?_ ?_ ).mono ?_); (focus (simp [go_sem]; done)); (focus (simp [go_sem]; done)); rintro e w1 ⟨rfl, hb⟩; have hs1 : Below w0.heap.size w0 w1 := stepA (by repeat (first | with_reducible assumption | with_reducible exact Below.refl _ _ | with_reducible refine Below.setCell ?_ (by first | omega | (dsimp only; omega) | (simp; done) | (simp; omega)) _ | with_reducible refine Below.alloc ?_ (by first | omega | (dsimp only; omega) | (simp; done) | (simp; omega)) _ | with_reducible refine Below.drew ?_)) hb; clear hb; clear HS; have HS := hidA hs1; clear hs1 c0 c1 c2 c3 c4 c5 c6 c7 c8 c9 c10 c11 z0 z1 z2 fr2; obtain ⟨c0, c1, c2, c3, c4, c5, c6, c7, c8, c9, c10, c11, z0, z1, z2, fr2⟩ := PK.out _ HS.out))
  exact bodyPost_ret (v := .tuple #[.agg #[.int .i64 0, .int .i64 0], .bool false]) (by simp [results, Try.results78, go_sem, c10, c11, z2, fr2]) rfl ⟨by rfl, (by repeat (first | with_reducible exact Below.refl _ _ | with_reducible exact HS.out | with_reducible exact B0.out | with_reducible refine Below.setCell ?_ (by first | omega | (dsimp only; omega) | (simp; done) | (simp; omega)) _ | with_reducible refine Below.alloc ?_ (by first | omega | (dsimp only; omega) | (simp; done) | (simp; omega)) _ | with_reducible refine Below.drew ?_ | with_reducible refine drewnA ?_ _ | with_reducible refine Below.trans ?_ (HS.out.mono (by first | omega | (dsimp only; omega) | (simp; done) | (simp; omega))) | with_reducible refine Below.trans ?_ (B0.out.mono (by first | omega | (dsimp only; omega) | (simp; done) | (simp; omega)))))⟩
set_option maxRecDepth 100000 in
set_option maxHeartbeats 4000000 in
theorem com_nos (a b : Ab) (h1 : a.lo < b.lo) (s t g d : Int) (es : (if b.m < 1 then 1 else b.m) = s) (et : (if a.m < 1 then 1 else a.m) = t) (ed : IntKind.i64.wrap (a.lo - b.lo) = d) (g0 : (g == 0) = false) (g1 : ¬ g = 0) (CD : Hid (∀ w b, w.cell? ⟨b, 0, none⟩ = some (.int .i64 s) → w.cell? ⟨b, 1, none⟩ = some (.int .i64 t) → Calls Try.prog 47 #[.slice (some ⟨b, 0, none⟩) 2 2] w fun e w' => e = .returned (.int .i64 g) ∧ Below w.heap.size w w')) (h3 : (d.tmod g == 0) = false) (h4 : (d.tmod g != 0) = true) (w : World) :
    Calls Try.prog 78 #[.agg #[.int .i64 a.lo, .int .i64 a.hi, .int .i64 a.m, .int .i64 a.r, .int .i64 a.k], .agg #[.int .i64 b.lo, .int .i64 b.hi, .int .i64 b.m, .int .i64 b.r, .int .i64 b.k]] w fun e w' => e = .returned (.tuple #[.agg #[.int .i64 0, .int .i64 0], .bool false]) ∧ Below w.heap.size w w' := by
  obtain ⟨w0, hw0⟩ : ∃ w0, (((w.alloc (.cells #[.int .i64 b.lo, .int .i64 b.hi, .int .i64 b.m, .int .i64 b.r, .int .i64 b.k] 27)).alloc (.cells #[.int .i64 a.lo, .int .i64 a.hi, .int .i64 a.m, .int .i64 a.r, .int .i64 a.k] 27)).alloc (.cells #[.int .i64 0, .int .i64 0] 69)) = w0 := ⟨_, rfl⟩
  have B0 : Hid (Below w.heap.size w w0) := hidA (by rw [← hw0]; exact (alA (alA (alA (Below.refl _ _) _) _) _))
  have hsz : w.heap.size + 1 + 1 < w0.heap.size := by rw [← hw0]; simp
  have PK : Hid (∀ W, Below w0.heap.size w0 W → abF W (w.heap.size) b (abF W (w.heap.size + 1) a (W.cell? ⟨w.heap.size + 1 + 1, 0, none⟩ = some (.int .i64 0) ∧ W.cell? ⟨w.heap.size + 1 + 1, 1, none⟩ = some (.int .i64 0) ∧ w.heap.size < W.heap.size ∧ w.heap.size + 1 < W.heap.size ∧ w.heap.size + 1 + 1 < W.heap.size ∧ (∀ i, W.frozen? ⟨w.heap.size + 1 + 1, i, none⟩ = false)))) := hidA (fun W hW => by and_intros <;> first | exact cellA hW (by rw [← hw0]; simp [go_sem]) | exact (by have h0 := hW.size; have h1 := hsz; omega) | exact (fun i => (hW.frozen (p := ⟨w.heap.size + 1 + 1, i, none⟩) (show w.heap.size + 1 + 1 < w0.heap.size by have h1 := hsz; omega)).trans (by rw [← hw0]; simp [go_sem])))
  have Hw := hidA hw0; clear hw0
  go_enter Try.func78, Try.ntmps78
  go_wp2_with fail
  rw [Hw.out]
  clear Hw
  have HS : Hid (Below w0.heap.size w0 w0) := hidA (Below.refl _ _)
  obtain ⟨c0, c1, c2, c3, c4, c5, c6, c7, c8, c9, c10, c11, z0, z1, z2, fr2⟩ := PK.out _ HS.out
  go_quiet (fail)
  have hs1 := drewnA HS.out nq
  generalize w0.drewN nq = wd at *
  clear HS; have HS := hidA hs1; clear hs1 c0 c1 c2 c3 c4 c5 c6 c7 c8 c9 c10 c11 z0 z1 z2 fr2; obtain ⟨c0, c1, c2, c3, c4, c5, c6, c7, c8, c9, c10, c11, z0, z1, z2, fr2⟩ := PK.out _ HS.out
  have PN : Hid (∀ V, Below wd.heap.size wd V → _) := hidA (fun V hV => PK.out V (stepA HS.out hV))
  have BN : Hid (Below w.heap.size w wd) := hidA (B0.out.trans (HS.out.mono B0.out.size))
  have hszN : w.heap.size + 1 + 1 < wd.heap.size := by first | assumption | omega
  clear B0 PK HS hsz
  clear c0 c1 c2 c3 c4 c5 c6 c7 c8 c9 c10 c11 z0 z1 z2 fr2
  have PK := PN
  have B0 := BN
  have hsz := hszN
  clear PN BN hszN
  have HS : Hid (Below wd.heap.size wd wd) := hidA (Below.refl _ _)
  generalize wd = w0 at *
  obtain ⟨c0, c1, c2, c3, c4, c5, c6, c7, c8, c9, c10, c11, z0, z1, z2, fr2⟩ := PK.out _ HS.out
  go_wp2_with ((go_at_call 47; (with_reducible refine (CD.out _ _ ?_ ?_ ).mono ?_); (focus (simp [go_sem]; done)); (focus (simp [go_sem]; done)); rintro e w1 ⟨rfl, hb⟩; have hs1 : Below w0.heap.size w0 w1 := stepA (by repeat (first | with_reducible assumption | with_reducible exact Below.refl _ _ | with_reducible refine Below.setCell ?_ (by first | omega | (dsimp only; omega) | (simp; done) | (simp; omega)) _ | with_reducible refine Below.alloc ?_ (by first | omega | (dsimp only; omega) | (simp; done) | (simp; omega)) _ | with_reducible refine Below.drew ?_)) hb; clear hb; clear HS; have HS := hidA hs1; clear hs1 c0 c1 c2 c3 c4 c5 c6 c7 c8 c9 c10 c11 z0 z1 z2 fr2; obtain ⟨c0, c1, c2, c3, c4, c5, c6, c7, c8, c9, c10, c11, z0, z1, z2, fr2⟩ := PK.out _ HS.out))
  exact bodyPost_ret (v := .tuple #[.agg #[.int .i64 0, .int .i64 0], .bool false]) (by simp [results, Try.results78, go_sem, c10, c11, z2, fr2]) rfl ⟨by rfl, (by repeat (first | with_reducible exact Below.refl _ _ | with_reducible exact HS.out | with_reducible exact B0.out | with_reducible refine Below.setCell ?_ (by first | omega | (dsimp only; omega) | (simp; done) | (simp; omega)) _ | with_reducible refine Below.alloc ?_ (by first | omega | (dsimp only; omega) | (simp; done) | (simp; omega)) _ | with_reducible refine Below.drew ?_ | with_reducible refine drewnA ?_ _ | with_reducible refine Below.trans ?_ (HS.out.mono (by first | omega | (dsimp only; omega) | (simp; done) | (simp; omega))) | with_reducible refine Below.trans ?_ (B0.out.mono (by first | omega | (dsimp only; omega) | (simp; done) | (simp; omega)))))⟩
set_option maxRecDepth 100000 in
set_option maxHeartbeats 4000000 in
theorem com_yes (a b : Ab) (h1 : ¬ a.lo < b.lo) (s t g d : Int) (es : (if a.m < 1 then 1 else a.m) = s) (et : (if b.m < 1 then 1 else b.m) = t) (ed : IntKind.i64.wrap (b.lo - a.lo) = d) (g0 : (g == 0) = false) (g1 : ¬ g = 0) (CD : Hid (∀ w b, w.cell? ⟨b, 0, none⟩ = some (.int .i64 s) → w.cell? ⟨b, 1, none⟩ = some (.int .i64 t) → Calls Try.prog 47 #[.slice (some ⟨b, 0, none⟩) 2 2] w fun e w' => e = .returned (.int .i64 g) ∧ Below w.heap.size w w')) (h3 : (d.tmod g == 0) = true) (h4 : (d.tmod g != 0) = false) (n q sg u v k f1 r m : Int) (en : IntKind.i64.wrap (t.tdiv g) = n) (eq : IntKind.i64.wrap (d.tdiv g) = q) (esg : IntKind.i64.wrap (s.tdiv g) = sg) (CM : Hid (∀ w, Calls Try.prog 76 #[.int .i64 q, .int .i64 n] w fun e w' => e = .returned (.int .i64 u) ∧ w = w')) (CI : Hid (∀ w, Calls Try.prog 93 #[.int .i64 sg, .int .i64 n] w fun e w' => e = .returned (.int .i64 v) ∧ w = w')) (eu : IntKind.u64.wrap u = u) (ev : IntKind.u64.wrap v = v) (enu : IntKind.u64.wrap n = n) (n0 : (n == 0) = false) (n1 : ¬ n = 0) (x1 : Int) (euv : IntKind.u64.wrap (u * v) = x1) (ek : x1.tmod n = k) (eki : IntKind.i64.wrap k = k) (CF1 : Hid (∀ w, Calls Try.prog 94 #[.int .i64 s, .int .i64 k] w fun e w' => e = .returned (.int .i64 f1) ∧ Below w.heap.size w w')) (CF2 : Hid (∀ w, Calls Try.prog 94 #[.int .i64 s, .int .i64 n] w fun e w' => e = .returned (.int .i64 m) ∧ Below w.heap.size w w')) (er : IntKind.i64.wrap (a.lo + f1) = r) (w : World) :
    Calls Try.prog 78 #[.agg #[.int .i64 a.lo, .int .i64 a.hi, .int .i64 a.m, .int .i64 a.r, .int .i64 a.k], .agg #[.int .i64 b.lo, .int .i64 b.hi, .int .i64 b.m, .int .i64 b.r, .int .i64 b.k]] w fun e w' => e = .returned (.tuple #[.agg #[.int .i64 r, .int .i64 m], .bool true]) ∧ Below w.heap.size w w' := by
  obtain ⟨w0, hw0⟩ : ∃ w0, (((w.alloc (.cells #[.int .i64 a.lo, .int .i64 a.hi, .int .i64 a.m, .int .i64 a.r, .int .i64 a.k] 27)).alloc (.cells #[.int .i64 b.lo, .int .i64 b.hi, .int .i64 b.m, .int .i64 b.r, .int .i64 b.k] 27)).alloc (.cells #[.int .i64 0, .int .i64 0] 69)) = w0 := ⟨_, rfl⟩
  have B0 : Hid (Below w.heap.size w w0) := hidA (by rw [← hw0]; exact (alA (alA (alA (Below.refl _ _) _) _) _))
  have hsz : w.heap.size + 1 + 1 < w0.heap.size := by rw [← hw0]; simp
  have PK : Hid (∀ W, Below w0.heap.size w0 W → abF W (w.heap.size) a (abF W (w.heap.size + 1) b (W.cell? ⟨w.heap.size + 1 + 1, 0, none⟩ = some (.int .i64 0) ∧ W.cell? ⟨w.heap.size + 1 + 1, 1, none⟩ = some (.int .i64 0) ∧ w.heap.size < W.heap.size ∧ w.heap.size + 1 < W.heap.size ∧ w.heap.size + 1 + 1 < W.heap.size ∧ (∀ i, W.frozen? ⟨w.heap.size + 1 + 1, i, none⟩ = false)))) := hidA (fun W hW => by and_intros <;> first | exact cellA hW (by rw [← hw0]; simp [go_sem]) | exact (by have h0 := hW.size; have h1 := hsz; omega) | exact (fun i => (hW.frozen (p := ⟨w.heap.size + 1 + 1, i, none⟩) (show w.heap.size + 1 + 1 < w0.heap.size by have h1 := hsz; omega)).trans (by rw [← hw0]; simp [go_sem])))
  have Hw := hidA hw0; clear hw0
  go_enter Try.func78, Try.ntmps78
  go_wp2_with fail
  rw [Hw.out]
  clear Hw
  have HS : Hid (Below w0.heap.size w0 w0) := hidA (Below.refl _ _)
  obtain ⟨c0, c1, c2, c3, c4, c5, c6, c7, c8, c9, c10, c11, z0, z1, z2, fr2⟩ := PK.out _ HS.out
  go_quiet (fail)
  have hs1 := drewnA HS.out nq
  generalize w0.drewN nq = wd at *
  clear HS; have HS := hidA hs1; clear hs1 c0 c1 c2 c3 c4 c5 c6 c7 c8 c9 c10 c11 z0 z1 z2 fr2; obtain ⟨c0, c1, c2, c3, c4, c5, c6, c7, c8, c9, c10, c11, z0, z1, z2, fr2⟩ := PK.out _ HS.out
  have PN : Hid (∀ V, Below wd.heap.size wd V → _) := hidA (fun V hV => PK.out V (stepA HS.out hV))
  have BN : Hid (Below w.heap.size w wd) := hidA (B0.out.trans (HS.out.mono B0.out.size))
  have hszN : w.heap.size + 1 + 1 < wd.heap.size := by first | assumption | omega
  clear B0 PK HS hsz
  clear c0 c1 c2 c3 c4 c5 c6 c7 c8 c9 c10 c11 z0 z1 z2 fr2
  have PK := PN
  have B0 := BN
  have hsz := hszN
  clear PN BN hszN
  have HS : Hid (Below wd.heap.size wd wd) := hidA (Below.refl _ _)
  generalize wd = w0 at *
  obtain ⟨c0, c1, c2, c3, c4, c5, c6, c7, c8, c9, c10, c11, z0, z1, z2, fr2⟩ := PK.out _ HS.out
  go_wp2_with ((go_at_call 47; (with_reducible refine (CD.out _ _ ?_ ?_ ).mono ?_); (focus (simp [go_sem]; done)); (focus (simp [go_sem]; done)); rintro e w1 ⟨rfl, hb⟩; have hs1 : Below w0.heap.size w0 w1 := stepA (by repeat (first | with_reducible assumption | with_reducible exact Below.refl _ _ | with_reducible refine Below.setCell ?_ (by first | omega | (dsimp only; omega) | (simp; done) | (simp; omega)) _ | with_reducible refine Below.alloc ?_ (by first | omega | (dsimp only; omega) | (simp; done) | (simp; omega)) _ | with_reducible refine Below.drew ?_)) hb; clear hb; clear HS; have HS := hidA hs1; clear hs1 c0 c1 c2 c3 c4 c5 c6 c7 c8 c9 c10 c11 z0 z1 z2 fr2; obtain ⟨c0, c1, c2, c3, c4, c5, c6, c7, c8, c9, c10, c11, z0, z1, z2, fr2⟩ := PK.out _ HS.out))
  have PN : Hid (∀ V, Below w1.heap.size w1 V → _) := hidA (fun V hV => PK.out V (stepA HS.out hV))
  have BN : Hid (Below w.heap.size w w1) := hidA (B0.out.trans (HS.out.mono B0.out.size))
  have hszN : w.heap.size + 1 + 1 < w1.heap.size := by first | assumption | omega
  clear B0 PK HS hsz
  clear c0 c1 c2 c3 c4 c5 c6 c7 c8 c9 c10 c11 z0 z1 z2 fr2
  have PK := PN
  have B0 := BN
  have hsz := hszN
  clear PN BN hszN
  have HS : Hid (Below w1.heap.size w1 w1) := hidA (Below.refl _ _)
  generalize w1 = w0 at *
  obtain ⟨c0, c1, c2, c3, c4, c5, c6, c7, c8, c9, c10, c11, z0, z1, z2, fr2⟩ := PK.out _ HS.out
  refine' wp_region_det (by kernel_rfl) [_, _, _, _, _, _, _, _, _, _, _, _, _, _, _, _, _, _, _, _, _] (fun W => Below w0.heap.size w0 W) (by kernel_rfl) HS.out.drew ?steps1 ?rest1
  case steps1 =>
    simp only [putAll, Act.put, List.setIfInBounds_toArray, List.set_cons_zero, List.set_cons_succ]
    refine detSteps_cons ?_ ?_
    · (refine det_run [3] (by kernel_rfl) (by rfl) (fun a ha W hW => ?_); have g3 : a.tmps[3]? = some _ := (ha 3 rfl).trans rfl; clear ha; go_simp; first  | (refine yield1_value ?_ hW; exact rfl))
    refine detSteps_cons ?_ ?_
    · (refine det_run [40] (by kernel_rfl) (by rfl) (fun a ha W hW => ?_); have g40 : a.tmps[40]? = some _ := (ha 40 rfl).trans rfl; clear ha; obtain ⟨c0, c1, c2, c3, c4, c5, c6, c7, c8, c9, c10, c11, z0, z1, z2, fr2⟩ := PK.out _ hW; go_simp; first  | (refine yield1_value ?_ hW; exact rfl))
    refine detSteps_cons ?_ ?_
    · (refine det_run [2] (by kernel_rfl) (by rfl) (fun a ha W hW => ?_); have g2 : a.tmps[2]? = some _ := (ha 2 rfl).trans rfl; clear ha; go_simp; first  | (refine yield1_value ?_ hW; exact rfl))
    refine detSteps_cons ?_ ?_
    · (refine det_run [42] (by kernel_rfl) (by rfl) (fun a ha W hW => ?_); have g42 : a.tmps[42]? = some _ := (ha 42 rfl).trans rfl; clear ha; obtain ⟨c0, c1, c2, c3, c4, c5, c6, c7, c8, c9, c10, c11, z0, z1, z2, fr2⟩ := PK.out _ hW; go_simp; first  | (refine yield1_value ?_ hW; exact rfl))
    refine detSteps_cons ?_ ?_
    · (refine det_run [41, 43] (by kernel_rfl) (by rfl) (fun a ha W hW => ?_); have g41 : a.tmps[41]? = some _ := (ha 41 rfl).trans rfl; have g43 : a.tmps[43]? = some _ := (ha 43 rfl).trans rfl; clear ha; go_simp; first  | (refine yield1_value ?_ hW; exact rfl))
    refine detSteps_cons ?_ ?_
    · (refine det_run [8] (by kernel_rfl) (by rfl) (fun a ha W hW => ?_); have g8 : a.tmps[8]? = some _ := (ha 8 rfl).trans rfl; clear ha; go_simp; first  | (refine yield1_value ?_ hW; exact rfl))
    refine detSteps_cons ?_ ?_
    · (refine det_run [44, 45] (by kernel_rfl) (by rfl) (fun a ha W hW => ?_); have g44 : a.tmps[44]? = some _ := (ha 44 rfl).trans rfl; have g45 : a.tmps[45]? = some _ := (ha 45 rfl).trans rfl; clear ha; go_simp; first  | (refine yield1_value ?_ hW; exact rfl))
    refine detSteps_cons ?_ ?_
    · (refine det_run [9] (by kernel_rfl) (by rfl) (fun a ha W hW => ?_); have g9 : a.tmps[9]? = some _ := (ha 9 rfl).trans rfl; clear ha; go_simp; first  | (refine yield1_value ?_ hW; exact rfl))
    refine detSteps_cons ?_ ?_
    · (refine det_run [46, 47] (by kernel_rfl) (by rfl) (fun a ha W hW => ?_); have g46 : a.tmps[46]? = some _ := (ha 46 rfl).trans rfl; have g47 : a.tmps[47]? = some _ := (ha 47 rfl).trans rfl; clear ha; go_simp; first  | (refine yield1_enter ?_; go_at_call 76; (with_reducible refine (CM.out _).mono ?_); rintro e w1 ⟨rfl, rfl⟩; (refine And.intro ?_ hW); exact rfl) | (refine yield1_enter ?_; go_at_call 93; (with_reducible refine (CI.out _).mono ?_); rintro e w1 ⟨rfl, rfl⟩; (refine And.intro ?_ hW); exact rfl) | (refine yield1_value ?_ hW; exact rfl))
    refine detSteps_cons ?_ ?_
    · (refine det_run [48] (by kernel_rfl) (by rfl) (fun a ha W hW => ?_); have g48 : a.tmps[48]? = some _ := (ha 48 rfl).trans rfl; clear ha; go_simp; first  | (refine yield1_value ?_ hW; exact rfl))
    refine detSteps_cons ?_ ?_
    · (refine det_run [6] (by kernel_rfl) (by rfl) (fun a ha W hW => ?_); have g6 : a.tmps[6]? = some _ := (ha 6 rfl).trans rfl; clear ha; go_simp; first  | (refine yield1_value ?_ hW; exact rfl))
    refine detSteps_cons ?_ ?_
    · (refine det_run [8] (by kernel_rfl) (by rfl) (fun a ha W hW => ?_); have g8 : a.tmps[8]? = some _ := (ha 8 rfl).trans rfl; clear ha; go_simp; first  | (refine yield1_value ?_ hW; exact rfl))
    refine detSteps_cons ?_ ?_
    · (refine det_run [50, 51] (by kernel_rfl) (by rfl) (fun a ha W hW => ?_); have g50 : a.tmps[50]? = some _ := (ha 50 rfl).trans rfl; have g51 : a.tmps[51]? = some _ := (ha 51 rfl).trans rfl; clear ha; go_simp; first  | (refine yield1_value ?_ hW; exact rfl))
    refine detSteps_cons ?_ ?_
    · (refine det_run [9] (by kernel_rfl) (by rfl) (fun a ha W hW => ?_); have g9 : a.tmps[9]? = some _ := (ha 9 rfl).trans rfl; clear ha; go_simp; first  | (refine yield1_value ?_ hW; exact rfl))
    refine detSteps_cons ?_ ?_
    · (refine det_run [52, 53] (by kernel_rfl) (by rfl) (fun a ha W hW => ?_); have g52 : a.tmps[52]? = some _ := (ha 52 rfl).trans rfl; have g53 : a.tmps[53]? = some _ := (ha 53 rfl).trans rfl; clear ha; go_simp; first  | (refine yield1_enter ?_; go_at_call 76; (with_reducible refine (CM.out _).mono ?_); rintro e w1 ⟨rfl, rfl⟩; (refine And.intro ?_ hW); exact rfl) | (refine yield1_enter ?_; go_at_call 93; (with_reducible refine (CI.out _).mono ?_); rintro e w1 ⟨rfl, rfl⟩; (refine And.intro ?_ hW); exact rfl) | (refine yield1_value ?_ hW; exact rfl))
    refine detSteps_cons ?_ ?_
    · (refine det_run [54] (by kernel_rfl) (by rfl) (fun a ha W hW => ?_); have g54 : a.tmps[54]? = some _ := (ha 54 rfl).trans rfl; clear ha; go_simp; first  | (refine yield1_value ?_ hW; exact rfl))
    refine detSteps_cons ?_ ?_
    · (refine det_run [49, 55] (by kernel_rfl) (by rfl) (fun a ha W hW => ?_); have g49 : a.tmps[49]? = some _ := (ha 49 rfl).trans rfl; have g55 : a.tmps[55]? = some _ := (ha 55 rfl).trans rfl; clear ha; go_simp; first  | (refine yield1_value ?_ hW; exact rfl))
    refine detSteps_cons ?_ ?_
    · (refine det_run [9] (by kernel_rfl) (by rfl) (fun a ha W hW => ?_); have g9 : a.tmps[9]? = some _ := (ha 9 rfl).trans rfl; clear ha; go_simp; first  | (refine yield1_value ?_ hW; exact rfl))
    refine detSteps_cons ?_ ?_
    · (refine det_run [57] (by kernel_rfl) (by rfl) (fun a ha W hW => ?_); have g57 : a.tmps[57]? = some _ := (ha 57 rfl).trans rfl; clear ha; go_simp; first  | (refine yield1_value ?_ hW; exact rfl))
    refine detSteps_cons ?_ ?_
    · (refine det_run [56, 58] (by kernel_rfl) (by rfl) (fun a ha W hW => ?_); have g56 : a.tmps[56]? = some _ := (ha 56 rfl).trans rfl; have g58 : a.tmps[58]? = some _ := (ha 58 rfl).trans rfl; clear ha; go_simp; first  | (refine yield1_value ?_ hW; exact rfl))
    refine detSteps_cons ?_ ?_
    · (refine det_run [59] (by kernel_rfl) (by rfl) (fun a ha W hW => ?_); have g59 : a.tmps[59]? = some _ := (ha 59 rfl).trans rfl; clear ha; go_simp; first  | (refine yield1_value ?_ hW; exact rfl))
    exact detSteps_nil
  case rest1 =>
    intro w1 hs1
    simp only [putAll, Act.put, List.setIfInBounds_toArray, List.set_cons_zero, List.set_cons_succ]
    try rw [ek]
    clear HS; have HS := hidA hs1; clear hs1 c0 c1 c2 c3 c4 c5 c6 c7 c8 c9 c10 c11 z0 z1 z2 fr2; obtain ⟨c0, c1, c2, c3, c4, c5, c6, c7, c8, c9, c10, c11, z0, z1, z2, fr2⟩ := PK.out _ HS.out
    have PN : Hid (∀ V, Below w1.heap.size w1 V → _) := hidA (fun V hV => PK.out V (stepA HS.out hV))
    have BN : Hid (Below w.heap.size w w1) := hidA (B0.out.trans (HS.out.mono B0.out.size))
    have hszN : w.heap.size + 1 + 1 < w1.heap.size := by first | assumption | omega
    clear B0 PK HS hsz
    clear c0 c1 c2 c3 c4 c5 c6 c7 c8 c9 c10 c11 z0 z1 z2 fr2
    have PK := PN
    have B0 := BN
    have hsz := hszN
    clear PN BN hszN
    have HS : Hid (Below w1.heap.size w1 w1) := hidA (Below.refl _ _)
    generalize w1 = w0 at *
    obtain ⟨c0, c1, c2, c3, c4, c5, c6, c7, c8, c9, c10, c11, z0, z1, z2, fr2⟩ := PK.out _ HS.out
    go_wp2_with fail
    have hsE := HS.out
    have hsD := HS.out.drew
    have leD : w0.heap.size ≤ _ := HS.out.size
    go_region_held3 (fun w' => w'.cell? ⟨w.heap.size, 0, none⟩ = some (.int .i64 a.lo) ∧ Below (w.heap.size + 1 + 1) w0 w')
      (first | with_reducible exact ⟨cellD c0, Below.mono hsD (by omega)⟩ | (refine (fun hB => ⟨(PK.out _ hB).1, Below.mono hB (by omega)⟩) (?_ : Below w0.heap.size w0 _); (repeat (first | with_reducible assumption | with_reducible exact Below.refl _ _ | with_reducible refine Below.setCell ?_ (by first | omega | (dsimp only; omega) | (simp; done) | (simp; omega)) _ | with_reducible refine Below.alloc ?_ (by first | omega | (dsimp only; omega) | (simp; done) | (simp; omega)) _ | with_reducible refine Below.drew ?_)); done) | exact ⟨by simpa [go_sem] using (PK.out _ hs1).1, (((Below.mono hs1 (by omega)).setCell (by first | exact Nat.le_refl _ | (simp; done) | (simp; omega) | omega) _).setCell (by first | exact Nat.le_refl _ | (simp; done) | (simp; omega) | omega) _)⟩)
      (first
        | ((go_at_call 94; (with_reducible refine (CF1.out _).mono ?_); rintro e w1 ⟨rfl, hb1⟩; have hs1 : Below w0.heap.size w0 w1 := stepA (by repeat (first | with_reducible assumption | with_reducible exact Below.refl _ _ | with_reducible refine Below.setCell ?_ (by first | omega | (dsimp only; omega) | (simp; done) | (simp; omega)) _ | with_reducible refine Below.alloc ?_ (by first | omega | (dsimp only; omega) | (simp; done) | (simp; omega)) _ | with_reducible refine Below.drew ?_)) hb1; obtain ⟨dc0, dc1, dc2, dc3, dc4, dc5, dc6, dc7, dc8, dc9, dc10, dc11, dz0, dz1, dz2, dfr2⟩ := PK.out _ hs1))
        | ((go_at_call 94; (with_reducible refine (CF2.out _).mono ?_); rintro e w1 ⟨rfl, hb1⟩; have hs1 : Below w0.heap.size w0 w1 := stepA (by repeat (first | with_reducible assumption | with_reducible exact Below.refl _ _ | with_reducible refine Below.setCell ?_ (by first | omega | (dsimp only; omega) | (simp; done) | (simp; omega)) _ | with_reducible refine Below.alloc ?_ (by first | omega | (dsimp only; omega) | (simp; done) | (simp; omega)) _ | with_reducible refine Below.drew ?_)) hb1; obtain ⟨dc0, dc1, dc2, dc3, dc4, dc5, dc6, dc7, dc8, dc9, dc10, dc11, dz0, dz1, dz2, dfr2⟩ := PK.out _ hs1)))
    all_goals
      go_wp2
      exact bodyPost_ret (v := .tuple #[.agg #[.int .i64 r, .int .i64 m], .bool true]) (by simp [results, Try.results78, go_sem, dc10, dc11, dz2]) rfl ⟨by rfl, (by repeat (first | with_reducible exact Below.refl _ _ | with_reducible exact hs1 | with_reducible exact B0.out | with_reducible refine Below.setCell ?_ (by first | omega | (dsimp only; omega) | (simp; done) | (simp; omega)) _ | with_reducible refine Below.alloc ?_ (by first | omega | (dsimp only; omega) | (simp; done) | (simp; omega)) _ | with_reducible refine Below.drew ?_ | with_reducible refine drewnA ?_ _ | with_reducible refine Below.trans ?_ (hs1.mono (by first | omega | (dsimp only; omega) | (simp; done) | (simp; omega))) | with_reducible refine Below.trans ?_ (B0.out.mono (by first | omega | (dsimp only; omega) | (simp; done) | (simp; omega)))))⟩
set_option maxRecDepth 100000 in
set_option maxHeartbeats 4000000 in
theorem com_yess (a b : Ab) (h1 : a.lo < b.lo) (s t g d : Int) (es : (if b.m < 1 then 1 else b.m) = s) (et : (if a.m < 1 then 1 else a.m) = t) (ed : IntKind.i64.wrap (a.lo - b.lo) = d) (g0 : (g == 0) = false) (g1 : ¬ g = 0) (CD : Hid (∀ w b, w.cell? ⟨b, 0, none⟩ = some (.int .i64 s) → w.cell? ⟨b, 1, none⟩ = some (.int .i64 t) → Calls Try.prog 47 #[.slice (some ⟨b, 0, none⟩) 2 2] w fun e w' => e = .returned (.int .i64 g) ∧ Below w.heap.size w w')) (h3 : (d.tmod g == 0) = true) (h4 : (d.tmod g != 0) = false) (n q sg u v k f1 r m : Int) (en : IntKind.i64.wrap (t.tdiv g) = n) (eq : IntKind.i64.wrap (d.tdiv g) = q) (esg : IntKind.i64.wrap (s.tdiv g) = sg) (CM : Hid (∀ w, Calls Try.prog 76 #[.int .i64 q, .int .i64 n] w fun e w' => e = .returned (.int .i64 u) ∧ w = w')) (CI : Hid (∀ w, Calls Try.prog 93 #[.int .i64 sg, .int .i64 n] w fun e w' => e = .returned (.int .i64 v) ∧ w = w')) (eu : IntKind.u64.wrap u = u) (ev : IntKind.u64.wrap v = v) (enu : IntKind.u64.wrap n = n) (n0 : (n == 0) = false) (n1 : ¬ n = 0) (x1 : Int) (euv : IntKind.u64.wrap (u * v) = x1) (ek : x1.tmod n = k) (eki : IntKind.i64.wrap k = k) (CF1 : Hid (∀ w, Calls Try.prog 94 #[.int .i64 s, .int .i64 k] w fun e w' => e = .returned (.int .i64 f1) ∧ Below w.heap.size w w')) (CF2 : Hid (∀ w, Calls Try.prog 94 #[.int .i64 s, .int .i64 n] w fun e w' => e = .returned (.int .i64 m) ∧ Below w.heap.size w w')) (er : IntKind.i64.wrap (b.lo + f1) = r) (w : World) :
    Calls Try.prog 78 #[.agg #[.int .i64 a.lo, .int .i64 a.hi, .int .i64 a.m, .int .i64 a.r, .int .i64 a.k], .agg #[.int .i64 b.lo, .int .i64 b.hi, .int .i64 b.m, .int .i64 b.r, .int .i64 b.k]] w fun e w' => e = .returned (.tuple #[.agg #[.int .i64 r, .int .i64 m], .bool true]) ∧ Below w.heap.size w w' := by
  obtain ⟨w0, hw0⟩ : ∃ w0, (((w.alloc (.cells #[.int .i64 b.lo, .int .i64 b.hi, .int .i64 b.m, .int .i64 b.r, .int .i64 b.k] 27)).alloc (.cells #[.int .i64 a.lo, .int .i64 a.hi, .int .i64 a.m, .int .i64 a.r, .int .i64 a.k] 27)).alloc (.cells #[.int .i64 0, .int .i64 0] 69)) = w0 := ⟨_, rfl⟩
  have B0 : Hid (Below w.heap.size w w0) := hidA (by rw [← hw0]; exact (alA (alA (alA (Below.refl _ _) _) _) _))
  have hsz : w.heap.size + 1 + 1 < w0.heap.size := by rw [← hw0]; simp
  have PK : Hid (∀ W, Below w0.heap.size w0 W → abF W (w.heap.size) b (abF W (w.heap.size + 1) a (W.cell? ⟨w.heap.size + 1 + 1, 0, none⟩ = some (.int .i64 0) ∧ W.cell? ⟨w.heap.size + 1 + 1, 1, none⟩ = some (.int .i64 0) ∧ w.heap.size < W.heap.size ∧ w.heap.size + 1 < W.heap.size ∧ w.heap.size + 1 + 1 < W.heap.size ∧ (∀ i, W.frozen? ⟨w.heap.size + 1 + 1, i, none⟩ = false)))) := hidA (fun W hW => by and_intros <;> first | exact cellA hW (by rw [← hw0]; simp [go_sem]) | exact (by have h0 := hW.size; have h1 := hsz; omega) | exact (fun i => (hW.frozen (p := ⟨w.heap.size + 1 + 1, i, none⟩) (show w.heap.size + 1 + 1 < w0.heap.size by have h1 := hsz; omega)).trans (by rw [← hw0]; simp [go_sem])))
  have Hw := hidA hw0; clear hw0
  go_enter Try.func78, Try.ntmps78
  go_wp2_with fail
  rw [Hw.out]
  clear Hw
  have HS : Hid (Below w0.heap.size w0 w0) := hidA (Below.refl _ _)
  obtain ⟨c0, c1, c2, c3, c4, c5, c6, c7, c8, c9, c10, c11, z0, z1, z2, fr2⟩ := PK.out _ HS.out
  go_quiet (fail)
  have hs1 := drewnA HS.out nq
  generalize w0.drewN nq = wd at *
  clear HS; have HS := hidA hs1; clear hs1 c0 c1 c2 c3 c4 c5 c6 c7 c8 c9 c10 c11 z0 z1 z2 fr2; obtain ⟨c0, c1, c2, c3, c4, c5, c6, c7, c8, c9, c10, c11, z0, z1, z2, fr2⟩ := PK.out _ HS.out
  have PN : Hid (∀ V, Below wd.heap.size wd V → _) := hidA (fun V hV => PK.out V (stepA HS.out hV))
  have BN : Hid (Below w.heap.size w wd) := hidA (B0.out.trans (HS.out.mono B0.out.size))
  have hszN : w.heap.size + 1 + 1 < wd.heap.size := by first | assumption | omega
  clear B0 PK HS hsz
  clear c0 c1 c2 c3 c4 c5 c6 c7 c8 c9 c10 c11 z0 z1 z2 fr2
  have PK := PN
  have B0 := BN
  have hsz := hszN
  clear PN BN hszN
  have HS : Hid (Below wd.heap.size wd wd) := hidA (Below.refl _ _)
  generalize wd = w0 at *
  obtain ⟨c0, c1, c2, c3, c4, c5, c6, c7, c8, c9, c10, c11, z0, z1, z2, fr2⟩ := PK.out _ HS.out
  go_wp2_with ((go_at_call 47; (with_reducible refine (CD.out _ _ ?_ ?_ ).mono ?_); (focus (simp [go_sem]; done)); (focus (simp [go_sem]; done)); rintro e w1 ⟨rfl, hb⟩; have hs1 : Below w0.heap.size w0 w1 := stepA (by repeat (first | with_reducible assumption | with_reducible exact Below.refl _ _ | with_reducible refine Below.setCell ?_ (by first | omega | (dsimp only; omega) | (simp; done) | (simp; omega)) _ | with_reducible refine Below.alloc ?_ (by first | omega | (dsimp only; omega) | (simp; done) | (simp; omega)) _ | with_reducible refine Below.drew ?_)) hb; clear hb; clear HS; have HS := hidA hs1; clear hs1 c0 c1 c2 c3 c4 c5 c6 c7 c8 c9 c10 c11 z0 z1 z2 fr2; obtain ⟨c0, c1, c2, c3, c4, c5, c6, c7, c8, c9, c10, c11, z0, z1, z2, fr2⟩ := PK.out _ HS.out))
  have PN : Hid (∀ V, Below w1.heap.size w1 V → _) := hidA (fun V hV => PK.out V (stepA HS.out hV))
  have BN : Hid (Below w.heap.size w w1) := hidA (B0.out.trans (HS.out.mono B0.out.size))
  have hszN : w.heap.size + 1 + 1 < w1.heap.size := by first | assumption | omega
  clear B0 PK HS hsz
  clear c0 c1 c2 c3 c4 c5 c6 c7 c8 c9 c10 c11 z0 z1 z2 fr2
  have PK := PN
  have B0 := BN
  have hsz := hszN
  clear PN BN hszN
  have HS : Hid (Below w1.heap.size w1 w1) := hidA (Below.refl _ _)
  generalize w1 = w0 at *
  obtain ⟨c0, c1, c2, c3, c4, c5, c6, c7, c8, c9, c10, c11, z0, z1, z2, fr2⟩ := PK.out _ HS.out
  refine' wp_region_det (by kernel_rfl) [_, _, _, _, _, _, _, _, _, _, _, _, _, _, _, _, _, _, _, _, _] (fun W => Below w0.heap.size w0 W) (by kernel_rfl) HS.out.drew ?steps2 ?rest2
  case steps2 =>
    simp only [putAll, Act.put, List.setIfInBounds_toArray, List.set_cons_zero, List.set_cons_succ]
    refine detSteps_cons ?_ ?_
    · (refine det_run [3] (by kernel_rfl) (by rfl) (fun a ha W hW => ?_); have g3 : a.tmps[3]? = some _ := (ha 3 rfl).trans rfl; clear ha; go_simp; first  | (refine yield1_value ?_ hW; exact rfl))
    refine detSteps_cons ?_ ?_
    · (refine det_run [40] (by kernel_rfl) (by rfl) (fun a ha W hW => ?_); have g40 : a.tmps[40]? = some _ := (ha 40 rfl).trans rfl; clear ha; obtain ⟨c0, c1, c2, c3, c4, c5, c6, c7, c8, c9, c10, c11, z0, z1, z2, fr2⟩ := PK.out _ hW; go_simp; first  | (refine yield1_value ?_ hW; exact rfl))
    refine detSteps_cons ?_ ?_
    · (refine det_run [2] (by kernel_rfl) (by rfl) (fun a ha W hW => ?_); have g2 : a.tmps[2]? = some _ := (ha 2 rfl).trans rfl; clear ha; go_simp; first  | (refine yield1_value ?_ hW; exact rfl))
    refine detSteps_cons ?_ ?_
    · (refine det_run [42] (by kernel_rfl) (by rfl) (fun a ha W hW => ?_); have g42 : a.tmps[42]? = some _ := (ha 42 rfl).trans rfl; clear ha; obtain ⟨c0, c1, c2, c3, c4, c5, c6, c7, c8, c9, c10, c11, z0, z1, z2, fr2⟩ := PK.out _ hW; go_simp; first  | (refine yield1_value ?_ hW; exact rfl))
    refine detSteps_cons ?_ ?_
    · (refine det_run [41, 43] (by kernel_rfl) (by rfl) (fun a ha W hW => ?_); have g41 : a.tmps[41]? = some _ := (ha 41 rfl).trans rfl; have g43 : a.tmps[43]? = some _ := (ha 43 rfl).trans rfl; clear ha; go_simp; first  | (refine yield1_value ?_ hW; exact rfl))
    refine detSteps_cons ?_ ?_
    · (refine det_run [8] (by kernel_rfl) (by rfl) (fun a ha W hW => ?_); have g8 : a.tmps[8]? = some _ := (ha 8 rfl).trans rfl; clear ha; go_simp; first  | (refine yield1_value ?_ hW; exact rfl))
    refine detSteps_cons ?_ ?_
    · (refine det_run [44, 45] (by kernel_rfl) (by rfl) (fun a ha W hW => ?_); have g44 : a.tmps[44]? = some _ := (ha 44 rfl).trans rfl; have g45 : a.tmps[45]? = some _ := (ha 45 rfl).trans rfl; clear ha; go_simp; first  | (refine yield1_value ?_ hW; exact rfl))
    refine detSteps_cons ?_ ?_
    · (refine det_run [9] (by kernel_rfl) (by rfl) (fun a ha W hW => ?_); have g9 : a.tmps[9]? = some _ := (ha 9 rfl).trans rfl; clear ha; go_simp; first  | (refine yield1_value ?_ hW; exact rfl))
    refine detSteps_cons ?_ ?_
    · (refine det_run [46, 47] (by kernel_rfl) (by rfl) (fun a ha W hW => ?_); have g46 : a.tmps[46]? = some _ := (ha 46 rfl).trans rfl; have g47 : a.tmps[47]? = some _ := (ha 47 rfl).trans rfl; clear ha; go_simp; first  | (refine yield1_enter ?_; go_at_call 76; (with_reducible refine (CM.out _).mono ?_); rintro e w1 ⟨rfl, rfl⟩; (refine And.intro ?_ hW); exact rfl) | (refine yield1_enter ?_; go_at_call 93; (with_reducible refine (CI.out _).mono ?_); rintro e w1 ⟨rfl, rfl⟩; (refine And.intro ?_ hW); exact rfl) | (refine yield1_value ?_ hW; exact rfl))
    refine detSteps_cons ?_ ?_
    · (refine det_run [48] (by kernel_rfl) (by rfl) (fun a ha W hW => ?_); have g48 : a.tmps[48]? = some _ := (ha 48 rfl).trans rfl; clear ha; go_simp; first  | (refine yield1_value ?_ hW; exact rfl))
    refine detSteps_cons ?_ ?_
    · (refine det_run [6] (by kernel_rfl) (by rfl) (fun a ha W hW => ?_); have g6 : a.tmps[6]? = some _ := (ha 6 rfl).trans rfl; clear ha; go_simp; first  | (refine yield1_value ?_ hW; exact rfl))
    refine detSteps_cons ?_ ?_
    · (refine det_run [8] (by kernel_rfl) (by rfl) (fun a ha W hW => ?_); have g8 : a.tmps[8]? = some _ := (ha 8 rfl).trans rfl; clear ha; go_simp; first  | (refine yield1_value ?_ hW; exact rfl))
    refine detSteps_cons ?_ ?_
    · (refine det_run [50, 51] (by kernel_rfl) (by rfl) (fun a ha W hW => ?_); have g50 : a.tmps[50]? = some _ := (ha 50 rfl).trans rfl; have g51 : a.tmps[51]? = some _ := (ha 51 rfl).trans rfl; clear ha; go_simp; first  | (refine yield1_value ?_ hW; exact rfl))
    refine detSteps_cons ?_ ?_
    · (refine det_run [9] (by kernel_rfl) (by rfl) (fun a ha W hW => ?_); have g9 : a.tmps[9]? = some _ := (ha 9 rfl).trans rfl; clear ha; go_simp; first  | (refine yield1_value ?_ hW; exact rfl))
    refine detSteps_cons ?_ ?_
    · (refine det_run [52, 53] (by kernel_rfl) (by rfl) (fun a ha W hW => ?_); have g52 : a.tmps[52]? = some _ := (ha 52 rfl).trans rfl; have g53 : a.tmps[53]? = some _ := (ha 53 rfl).trans rfl; clear ha; go_simp; first  | (refine yield1_enter ?_; go_at_call 76; (with_reducible refine (CM.out _).mono ?_); rintro e w1 ⟨rfl, rfl⟩; (refine And.intro ?_ hW); exact rfl) | (refine yield1_enter ?_; go_at_call 93; (with_reducible refine (CI.out _).mono ?_); rintro e w1 ⟨rfl, rfl⟩; (refine And.intro ?_ hW); exact rfl) | (refine yield1_value ?_ hW; exact rfl))
    refine detSteps_cons ?_ ?_
    · (refine det_run [54] (by kernel_rfl) (by rfl) (fun a ha W hW => ?_); have g54 : a.tmps[54]? = some _ := (ha 54 rfl).trans rfl; clear ha; go_simp; first  | (refine yield1_value ?_ hW; exact rfl))
    refine detSteps_cons ?_ ?_
    · (refine det_run [49, 55] (by kernel_rfl) (by rfl) (fun a ha W hW => ?_); have g49 : a.tmps[49]? = some _ := (ha 49 rfl).trans rfl; have g55 : a.tmps[55]? = some _ := (ha 55 rfl).trans rfl; clear ha; go_simp; first  | (refine yield1_value ?_ hW; exact rfl))
    refine detSteps_cons ?_ ?_
    · (refine det_run [9] (by kernel_rfl) (by rfl) (fun a ha W hW => ?_); have g9 : a.tmps[9]? = some _ := (ha 9 rfl).trans rfl; clear ha; go_simp; first  | (refine yield1_value ?_ hW; exact rfl))
    refine detSteps_cons ?_ ?_
    · (refine det_run [57] (by kernel_rfl) (by rfl) (fun a ha W hW => ?_); have g57 : a.tmps[57]? = some _ := (ha 57 rfl).trans rfl; clear ha; go_simp; first  | (refine yield1_value ?_ hW; exact rfl))
    refine detSteps_cons ?_ ?_
    · (refine det_run [56, 58] (by kernel_rfl) (by rfl) (fun a ha W hW => ?_); have g56 : a.tmps[56]? = some _ := (ha 56 rfl).trans rfl; have g58 : a.tmps[58]? = some _ := (ha 58 rfl).trans rfl; clear ha; go_simp; first  | (refine yield1_value ?_ hW; exact rfl))
    refine detSteps_cons ?_ ?_
    · (refine det_run [59] (by kernel_rfl) (by rfl) (fun a ha W hW => ?_); have g59 : a.tmps[59]? = some _ := (ha 59 rfl).trans rfl; clear ha; go_simp; first  | (refine yield1_value ?_ hW; exact rfl))
    exact detSteps_nil
  case rest2 =>
    intro w1 hs1
    simp only [putAll, Act.put, List.setIfInBounds_toArray, List.set_cons_zero, List.set_cons_succ]
    try rw [ek]
    clear HS; have HS := hidA hs1; clear hs1 c0 c1 c2 c3 c4 c5 c6 c7 c8 c9 c10 c11 z0 z1 z2 fr2; obtain ⟨c0, c1, c2, c3, c4, c5, c6, c7, c8, c9, c10, c11, z0, z1, z2, fr2⟩ := PK.out _ HS.out
    have PN : Hid (∀ V, Below w1.heap.size w1 V → _) := hidA (fun V hV => PK.out V (stepA HS.out hV))
    have BN : Hid (Below w.heap.size w w1) := hidA (B0.out.trans (HS.out.mono B0.out.size))
    have hszN : w.heap.size + 1 + 1 < w1.heap.size := by first | assumption | omega
    clear B0 PK HS hsz
    clear c0 c1 c2 c3 c4 c5 c6 c7 c8 c9 c10 c11 z0 z1 z2 fr2
    have PK := PN
    have B0 := BN
    have hsz := hszN
    clear PN BN hszN
    have HS : Hid (Below w1.heap.size w1 w1) := hidA (Below.refl _ _)
    generalize w1 = w0 at *
    obtain ⟨c0, c1, c2, c3, c4, c5, c6, c7, c8, c9, c10, c11, z0, z1, z2, fr2⟩ := PK.out _ HS.out
    go_wp2_with fail
    have hsE := HS.out
    have hsD := HS.out.drew
    have leD : w0.heap.size ≤ _ := HS.out.size
    go_region_held3 (fun w' => w'.cell? ⟨w.heap.size, 0, none⟩ = some (.int .i64 b.lo) ∧ Below (w.heap.size + 1 + 1) w0 w')
      (first | with_reducible exact ⟨cellD c0, Below.mono hsD (by omega)⟩ | (refine (fun hB => ⟨(PK.out _ hB).1, Below.mono hB (by omega)⟩) (?_ : Below w0.heap.size w0 _); (repeat (first | with_reducible assumption | with_reducible exact Below.refl _ _ | with_reducible refine Below.setCell ?_ (by first | omega | (dsimp only; omega) | (simp; done) | (simp; omega)) _ | with_reducible refine Below.alloc ?_ (by first | omega | (dsimp only; omega) | (simp; done) | (simp; omega)) _ | with_reducible refine Below.drew ?_)); done) | exact ⟨by simpa [go_sem] using (PK.out _ hs1).1, (((Below.mono hs1 (by omega)).setCell (by first | exact Nat.le_refl _ | (simp; done) | (simp; omega) | omega) _).setCell (by first | exact Nat.le_refl _ | (simp; done) | (simp; omega) | omega) _)⟩)
      (first
        | ((go_at_call 94; (with_reducible refine (CF1.out _).mono ?_); rintro e w1 ⟨rfl, hb1⟩; have hs1 : Below w0.heap.size w0 w1 := stepA (by repeat (first | with_reducible assumption | with_reducible exact Below.refl _ _ | with_reducible refine Below.setCell ?_ (by first | omega | (dsimp only; omega) | (simp; done) | (simp; omega)) _ | with_reducible refine Below.alloc ?_ (by first | omega | (dsimp only; omega) | (simp; done) | (simp; omega)) _ | with_reducible refine Below.drew ?_)) hb1; obtain ⟨dc0, dc1, dc2, dc3, dc4, dc5, dc6, dc7, dc8, dc9, dc10, dc11, dz0, dz1, dz2, dfr2⟩ := PK.out _ hs1))
        | ((go_at_call 94; (with_reducible refine (CF2.out _).mono ?_); rintro e w1 ⟨rfl, hb1⟩; have hs1 : Below w0.heap.size w0 w1 := stepA (by repeat (first | with_reducible assumption | with_reducible exact Below.refl _ _ | with_reducible refine Below.setCell ?_ (by first | omega | (dsimp only; omega) | (simp; done) | (simp; omega)) _ | with_reducible refine Below.alloc ?_ (by first | omega | (dsimp only; omega) | (simp; done) | (simp; omega)) _ | with_reducible refine Below.drew ?_)) hb1; obtain ⟨dc0, dc1, dc2, dc3, dc4, dc5, dc6, dc7, dc8, dc9, dc10, dc11, dz0, dz1, dz2, dfr2⟩ := PK.out _ hs1)))
    all_goals
      go_wp2
      exact bodyPost_ret (v := .tuple #[.agg #[.int .i64 r, .int .i64 m], .bool true]) (by simp [results, Try.results78, go_sem, dc10, dc11, dz2]) rfl ⟨by rfl, (by repeat (first | with_reducible exact Below.refl _ _ | with_reducible exact hs1 | with_reducible exact B0.out | with_reducible refine Below.setCell ?_ (by first | omega | (dsimp only; omega) | (simp; done) | (simp; omega)) _ | with_reducible refine Below.alloc ?_ (by first | omega | (dsimp only; omega) | (simp; done) | (simp; omega)) _ | with_reducible refine Below.drew ?_ | with_reducible refine drewnA ?_ _ | with_reducible refine Below.trans ?_ (hs1.mono (by first | omega | (dsimp only; omega) | (simp; done) | (simp; omega))) | with_reducible refine Below.trans ?_ (B0.out.mono (by first | omega | (dsimp only; omega) | (simp; done) | (simp; omega)))))⟩
/-- What two sets have in common, up to both ends. -/
structure ComR (a b : Ab) (is : Bool) (r m : Int) : Prop where
  no : is = false → ∀ v, ¬ (Mem a v ∧ Mem b v)
  yes : is = true → 1 ≤ m ∧ m ≤ 4294967296 ∧ -2147483648 ≤ r ∧ r ≤ 6442450943 ∧ ∀ v, v ≤ min a.hi b.hi → ((Mem a v ∧ Mem b v) ↔ (r ≤ v ∧ m ∣ v - r))
theorem com_swap {a b : Ab} {is : Bool} {r m : Int} (C : ComR a b is r m) : ComR b a is r m := by
  refine ⟨fun h v x => C.no h v x.symm, fun h => ?_⟩
  obtain ⟨h1, h2, h3, h4, h5⟩ := C.yes h
  refine ⟨h1, h2, h3, h4, fun v hv => ?_⟩
  rw [And.comm]
  exact h5 v (by omega)
theorem m_le {a : Ab} (A : Val a) : 1 ≤ a.m ∧ a.m ≤ 4294967295 := by
  refine ⟨m_pos A, ?_⟩
  rcases A.s with ⟨_, e, _⟩ | ⟨l, m1, d, _⟩
  · omega
  · have := Int.le_of_dvd (by omega) d
    have := A.l; have := A.h
    omega
def comN (s t : Int) : Int := t / gc s t
def comK (s t d : Int) : Int := (d / gc s t % comN s t * inv2 (s / gc s t) (comN s t)) % comN s t
theorem com_n {s t : Int} (hs : 1 ≤ s) (ht : 1 ≤ t) : 1 ≤ gc s t ∧ gc s t ≤ t ∧ gc s t ≤ s ∧ 1 ≤ comN s t ∧ comN s t ≤ t ∧ comN s t * gc s t = t := by
  have g0 := gc_nn s t
  have g1 : gc s t ≠ 0 := fun h => by have := (gc_zero h).2; omega
  have l1 := Int.le_of_dvd (by omega) (gc_r s t)
  have l2 := Int.le_of_dvd (by omega) (gc_l s t)
  have e : comN s t * gc s t = t := Int.ediv_mul_cancel (gc_r s t)
  have p : 0 ≤ comN s t := Int.ediv_nonneg (by omega) g0
  have p1 : comN s t ≤ t := Int.ediv_le_self _ (by omega)
  refine ⟨by omega, l1, l2, ?_, p1, e⟩
  rcases Int.lt_or_le 0 (comN s t) with c | c
  · omega
  · have : comN s t = 0 := by omega
    rw [this, Int.zero_mul] at e
    omega
theorem com_inv {s t : Int} (hs : 1 ≤ s) (ht : 1 ≤ t) : comN s t ∣ s / gc s t * inv2 (s / gc s t) (comN s t) - 1 := by
  obtain ⟨n1, _, _, n4, _⟩ := com_n hs ht
  refine inv2_ok (Int.ediv_nonneg (by omega) (by omega)) n4 ?_
  show gc (s / gc s t) (t / gc s t) = 1
  unfold gc at n1 ⊢
  rw [Int.gcd_ediv_gcd_ediv_gcd (by omega)]
  rfl
theorem com_math {x y : Ab} (X : Val x) (Y : Val y) (h : y.lo ≤ x.lo) (hd : gc x.m y.m ∣ y.lo - x.lo) :
    ComR x y true (x.lo + min (x.m * comK x.m y.m (y.lo - x.lo)) 4294967296) (min (x.m * comN x.m y.m) 4294967296) := by
  have ms := m_le X
  have mt := m_le Y
  obtain ⟨n1, n2, n3, n4, n5, n6⟩ := com_n ms.1 mt.1
  have F := first_ok (s := x.m) (t := y.m) (x := x.lo) (y := y.lo) mt.1 hd (com_inv ms.1 mt.1)
  change x.m ∣ x.lo + x.m * comK x.m y.m (y.lo - x.lo) - x.lo ∧ y.m ∣ x.lo + x.m * comK x.m y.m (y.lo - x.lo) - y.lo at F
  have k0 : 0 ≤ comK x.m y.m (y.lo - x.lo) := Int.emod_nonneg _ (by omega)
  have k1 : comK x.m y.m (y.lo - x.lo) < comN x.m y.m := Int.emod_lt_of_pos _ (by omega)
  generalize comK x.m y.m (y.lo - x.lo) = k at *
  have p0 := Int.mul_nonneg (show 0 ≤ x.m by omega) k0
  have p1 : x.m * k + x.m ≤ x.m * comN x.m y.m := by
    have := Int.mul_le_mul_of_nonneg_left (show k + 1 ≤ comN x.m y.m by omega) (show 0 ≤ x.m by omega)
    rw [Int.mul_add, Int.mul_one] at this
    exact this
  have L1 : y.m ∣ x.m * comN x.m y.m := by
    obtain ⟨c, hc⟩ := gc_l x.m y.m
    refine ⟨c, ?_⟩
    generalize comN x.m y.m = n at n6 ⊢
    generalize gc x.m y.m = g at hc n6
    rw [← n6, hc, Int.mul_comm g c, Int.mul_assoc, Int.mul_comm g n, Int.mul_comm]
  have L2 : ∀ z, x.m ∣ z → y.m ∣ z → x.m * comN x.m y.m ∣ z := by
    intro z h1 h2
    have := lcm_dvd' h1 h2
    have e : x.m / gc x.m y.m * y.m = x.m * comN x.m y.m := by
      have e1 : x.m / gc x.m y.m * gc x.m y.m = x.m := Int.ediv_mul_cancel (gc_l x.m y.m)
      generalize comN x.m y.m = n at n6 ⊢
      generalize gc x.m y.m = g at e1 n6 ⊢
      generalize x.m / g = q at e1 ⊢
      rw [← n6, ← e1, Int.mul_assoc, Int.mul_comm g n]
    rwa [e] at this
  generalize comN x.m y.m = n at *
  obtain ⟨P, hP⟩ : ∃ P, x.m * k = P := ⟨_, rfl⟩
  obtain ⟨L, hL⟩ : ∃ L, x.m * n = L := ⟨_, rfl⟩
  rw [hP] at F p0 p1 ⊢
  rw [hL] at p1 L1 L2 ⊢
  have xl := X.l; have xh := X.h; have xo := X.o; have yl := Y.l; have yh := Y.h; have yo := Y.o
  refine ⟨fun h => (by cases h), fun _ => ⟨by omega, by omega, by omega, by omega, fun v hv => ?_⟩⟩
  rw [mem_m X, mem_m Y]
  constructor
  · rintro ⟨⟨a1, a2, a3⟩, ⟨b1, b2, b3⟩⟩
    have d1 : x.m ∣ v - (x.lo + P) := by
      have := Int.dvd_sub a3 F.1
      rwa [show v - x.lo - (x.lo + P - x.lo) = v - (x.lo + P) by omega] at this
    have d2 : y.m ∣ v - (x.lo + P) := by
      have := Int.dvd_sub b3 F.2
      rwa [show v - y.lo - (x.lo + P - y.lo) = v - (x.lo + P) by omega] at this
    have d := L2 _ d1 d2
    have ge : x.lo + P ≤ v := by
      rcases Int.lt_or_le v (x.lo + P) with c | c
      · exfalso
        have d' : L ∣ x.lo + P - v := by
          have := Int.dvd_neg.2 d
          rwa [show -(v - (x.lo + P)) = x.lo + P - v by omega] at this
        have := dvd_le_zero d' (by omega) (by omega)
        omega
      · exact c
    have eP : min P 4294967296 = P := by omega
    rw [eP]
    refine ⟨ge, ?_⟩
    by_cases c : L ≤ 4294967296
    · rw [show min L 4294967296 = L by omega]; exact d
    · have z := dvd_le_zero d (by omega) (by omega)
      rw [z]; exact Int.dvd_zero _
  · rintro ⟨c1, c2⟩
    have eP : min P 4294967296 = P := by omega
    rw [eP] at c1 c2
    have d : L ∣ v - (x.lo + P) := by
      by_cases c : L ≤ 4294967296
      · rwa [show min L 4294967296 = L by omega] at c2
      · rw [show min L 4294967296 = 4294967296 by omega] at c2
        have z := dvd_le_zero c2 (by omega) (by omega)
        rw [z]; exact Int.dvd_zero _
    have sL : x.m ∣ L := ⟨n, hL.symm⟩
    refine ⟨⟨by omega, by omega, ?_⟩, ⟨by omega, by omega, ?_⟩⟩
    · have := Int.dvd_add (Int.dvd_trans sL d) F.1
      rwa [show v - (x.lo + P) + (x.lo + P - x.lo) = v - x.lo by omega] at this
    · have := Int.dvd_add (Int.dvd_trans L1 d) F.2
      rwa [show v - (x.lo + P) + (x.lo + P - y.lo) = v - y.lo by omega] at this
theorem com_none {x y : Ab} (X : Val x) (Y : Val y) (hd : ¬ gc x.m y.m ∣ y.lo - x.lo) (r m : Int) : ComR x y false r m := by
  refine ⟨fun _ v ⟨h1, h2⟩ => hd ?_, fun h => by cases h⟩
  rw [mem_m X] at h1
  rw [mem_m Y] at h2
  have := Int.dvd_sub (Int.dvd_trans (gc_l x.m y.m) h1.2.2) (Int.dvd_trans (gc_r x.m y.m) h2.2.2)
  rwa [show v - x.lo - (v - y.lo) = y.lo - x.lo by omega] at this
theorem bz {x : Int} (h : x ≠ 0) : (x == 0) = false := by simpa using h
theorem tmod_dvd (d g : Int) : (d.tmod g == 0) = true ↔ g ∣ d := by
  rw [beq_iff_eq]
  exact ⟨fun h => Int.dvd_of_tmod_eq_zero h, fun h => Int.tmod_eq_zero_of_dvd h⟩
theorem com_ex (a b : Ab) (A : Val a) (B : Val b) : ∃ (is : Bool) (r m : Int), ComR a b is r m ∧ ((is = true ∧ ∀ w, Calls Try.prog 78 #[.agg #[.int .i64 a.lo, .int .i64 a.hi, .int .i64 a.m, .int .i64 a.r, .int .i64 a.k], .agg #[.int .i64 b.lo, .int .i64 b.hi, .int .i64 b.m, .int .i64 b.r, .int .i64 b.k]] w fun e w' => e = .returned (.tuple #[.agg #[.int .i64 r, .int .i64 m], .bool true]) ∧ Below w.heap.size w w') ∨ (is = false ∧ ∀ w, Calls Try.prog 78 #[.agg #[.int .i64 a.lo, .int .i64 a.hi, .int .i64 a.m, .int .i64 a.r, .int .i64 a.k], .agg #[.int .i64 b.lo, .int .i64 b.hi, .int .i64 b.m, .int .i64 b.r, .int .i64 b.k]] w fun e w' => e = .returned (.tuple #[.agg #[.int .i64 0, .int .i64 0], .bool false]) ∧ Below w.heap.size w w')) := by
  have ms := m_le A
  have mt := m_le B
  have al := A.l; have ah := A.h; have ao := A.o; have bl := B.l; have bh := B.h; have bo := B.o
  have mx : ∀ z : Int, 1 ≤ z → (if z < 1 then 1 else z) = z := fun z h => if_neg (by omega)
  by_cases h : a.lo < b.lo
  · have D := hidA (sdiv2_any b.m a.m (small_big (by omega) (by omega)) (small_big (by omega) (by omega)))
    obtain ⟨n1, n2, n3, n4, n5, n6⟩ := com_n mt.1 ms.1
    by_cases hd : gc b.m a.m ∣ a.lo - b.lo
    · refine ⟨true, _, _, com_swap (com_math B A (by omega) hd), Or.inl ⟨rfl, fun w => ?_⟩⟩
      have i1 := inv2_range (a := b.m / gc b.m a.m) n4
      have u0 := Int.emod_nonneg ((a.lo - b.lo) / gc b.m a.m) (show comN b.m a.m ≠ 0 by omega)
      have u1 := Int.emod_lt_of_pos ((a.lo - b.lo) / gc b.m a.m) (show 0 < comN b.m a.m by omega)
      have q0 := Int.ediv_nonneg (show 0 ≤ b.m by omega) (show 0 ≤ gc b.m a.m by omega)
      have q1 : b.m / gc b.m a.m ≤ b.m := Int.ediv_le_self _ (by omega)
      have td : (a.lo - b.lo).tdiv (gc b.m a.m) = (a.lo - b.lo) / gc b.m a.m := Int.tdiv_eq_ediv_of_dvd hd
      have tn : a.m.tdiv (gc b.m a.m) = comN b.m a.m := Int.tdiv_eq_ediv_of_nonneg (by omega)
      have tsg : b.m.tdiv (gc b.m a.m) = b.m / gc b.m a.m := Int.tdiv_eq_ediv_of_nonneg (by omega)
      have qb : -4294967295 ≤ (a.lo - b.lo) / gc b.m a.m ∧ (a.lo - b.lo) / gc b.m a.m ≤ 0 := by
        have e := Int.ediv_mul_cancel hd
        generalize (a.lo - b.lo) / gc b.m a.m = z at e ⊢
        constructor
        · rcases Int.lt_or_le z (-4294967295) with c | c
          · exfalso
            have h1 := Int.mul_le_mul_of_nonneg_left n1 (show 0 ≤ -z by omega)
            have h2 := Int.neg_mul z (gc b.m a.m)
            have h3 := Int.neg_mul z (gc a.m b.m)
            omega
          · exact c
        · rcases Int.lt_or_le 0 z with c | c
          · exfalso
            have := Int.mul_le_mul_of_nonneg_left n1 (show 0 ≤ z by omega)
            omega
          · exact c
      have uv0 := Int.mul_nonneg u0 i1.1
      have uv1 : (a.lo - b.lo) / gc b.m a.m % comN b.m a.m * inv2 (b.m / gc b.m a.m) (comN b.m a.m) ≤ 4294967295 * 4294967295 := by
        have u := Int.mul_le_mul_of_nonneg_right (show (a.lo - b.lo) / gc b.m a.m % comN b.m a.m ≤ 4294967295 by omega) i1.1
        have v := Int.mul_le_mul_of_nonneg_left (show inv2 (b.m / gc b.m a.m) (comN b.m a.m) ≤ 4294967295 by omega) (show (0 : Int) ≤ 4294967295 by omega)
        omega
      have k0 : 0 ≤ comK b.m a.m (a.lo - b.lo) := Int.emod_nonneg _ (by omega)
      have k1 : comK b.m a.m (a.lo - b.lo) < comN b.m a.m := Int.emod_lt_of_pos _ (by omega)
      have ek : ((a.lo - b.lo) / gc b.m a.m % comN b.m a.m * inv2 (b.m / gc b.m a.m) (comN b.m a.m)).tmod (comN b.m a.m) = comK b.m a.m (a.lo - b.lo) := Int.tmod_eq_emod_of_nonneg uv0
      have f0 : 0 ≤ b.m * comK b.m a.m (a.lo - b.lo) := Int.mul_nonneg (by omega) k0
      exact com_yess a b h _ _ _ _ (mx _ mt.1) (mx _ ms.1) (IntWalk.i64_in _ (by omega)) (bz (by omega)) (by omega) D ((tmod_dvd _ _).2 hd) (by simpa using (tmod_dvd _ _).2 hd) _ _ _ _ _ _ _ _ _ (by rw [tn]; exact IntWalk.i64_in _ (by omega)) (by rw [td]; exact IntWalk.i64_in _ (by omega)) (by rw [tsg]; exact IntWalk.i64_in _ (by omega))
        (hidA (fun w => smod_any ((a.lo - b.lo) / gc b.m a.m) (comN b.m a.m) ⟨by omega, by omega⟩ n4 (by omega) w)) (hidA (fun w => sinverse_any (b.m / gc b.m a.m) (comN b.m a.m) q0 (by omega) n4 (by omega) w))
        (by rw [IntKind.wrap_u64]; omega) (by rw [IntKind.wrap_u64]; omega) (by rw [IntKind.wrap_u64]; omega) (bz (by omega)) (by omega) _ (by rw [IntKind.wrap_u64]; omega) ek (IntWalk.i64_in _ (by omega))
        (hidA (fun w => far_any b.m (comK b.m a.m (a.lo - b.lo)) (by omega) (by omega) k0 (by omega) w)) (hidA (fun w => far_any b.m (comN b.m a.m) (by omega) (by omega) (by omega) (by omega) w)) (IntWalk.i64_in _ (by omega)) w
    · refine ⟨false, 0, 0, com_swap (com_none B A hd 0 0), Or.inr ⟨rfl, fun w => ?_⟩⟩
      have hf : ((a.lo - b.lo).tmod (gc b.m a.m) == 0) = false := by
        cases hh : ((a.lo - b.lo).tmod (gc b.m a.m) == 0) with
        | false => rfl
        | true => exact absurd ((tmod_dvd _ _).1 hh) hd
      exact com_nos a b h _ _ _ _ (mx _ mt.1) (mx _ ms.1) (IntWalk.i64_in _ (by omega)) (bz (by omega)) (by omega) D hf (by simpa using hf) w
  · have D := hidA (sdiv2_any a.m b.m (small_big (by omega) (by omega)) (small_big (by omega) (by omega)))
    obtain ⟨n1, n2, n3, n4, n5, n6⟩ := com_n ms.1 mt.1
    by_cases hd : gc a.m b.m ∣ b.lo - a.lo
    · refine ⟨true, _, _, com_math A B (by omega) hd, Or.inl ⟨rfl, fun w => ?_⟩⟩
      have i1 := inv2_range (a := a.m / gc a.m b.m) n4
      have u0 := Int.emod_nonneg ((b.lo - a.lo) / gc a.m b.m) (show comN a.m b.m ≠ 0 by omega)
      have u1 := Int.emod_lt_of_pos ((b.lo - a.lo) / gc a.m b.m) (show 0 < comN a.m b.m by omega)
      have q0 := Int.ediv_nonneg (show 0 ≤ a.m by omega) (show 0 ≤ gc a.m b.m by omega)
      have q1 : a.m / gc a.m b.m ≤ a.m := Int.ediv_le_self _ (by omega)
      have td : (b.lo - a.lo).tdiv (gc a.m b.m) = (b.lo - a.lo) / gc a.m b.m := Int.tdiv_eq_ediv_of_dvd hd
      have tn : b.m.tdiv (gc a.m b.m) = comN a.m b.m := Int.tdiv_eq_ediv_of_nonneg (by omega)
      have tsg : a.m.tdiv (gc a.m b.m) = a.m / gc a.m b.m := Int.tdiv_eq_ediv_of_nonneg (by omega)
      have qb : -4294967295 ≤ (b.lo - a.lo) / gc a.m b.m ∧ (b.lo - a.lo) / gc a.m b.m ≤ 0 := by
        have e := Int.ediv_mul_cancel hd
        generalize (b.lo - a.lo) / gc a.m b.m = z at e ⊢
        constructor
        · rcases Int.lt_or_le z (-4294967295) with c | c
          · exfalso
            have h1 := Int.mul_le_mul_of_nonneg_left n1 (show 0 ≤ -z by omega)
            have h2 := Int.neg_mul z (gc b.m a.m)
            have h3 := Int.neg_mul z (gc a.m b.m)
            omega
          · exact c
        · rcases Int.lt_or_le 0 z with c | c
          · exfalso
            have := Int.mul_le_mul_of_nonneg_left n1 (show 0 ≤ z by omega)
            omega
          · exact c
      have uv0 := Int.mul_nonneg u0 i1.1
      have uv1 : (b.lo - a.lo) / gc a.m b.m % comN a.m b.m * inv2 (a.m / gc a.m b.m) (comN a.m b.m) ≤ 4294967295 * 4294967295 := by
        have u := Int.mul_le_mul_of_nonneg_right (show (b.lo - a.lo) / gc a.m b.m % comN a.m b.m ≤ 4294967295 by omega) i1.1
        have v := Int.mul_le_mul_of_nonneg_left (show inv2 (a.m / gc a.m b.m) (comN a.m b.m) ≤ 4294967295 by omega) (show (0 : Int) ≤ 4294967295 by omega)
        omega
      have k0 : 0 ≤ comK a.m b.m (b.lo - a.lo) := Int.emod_nonneg _ (by omega)
      have k1 : comK a.m b.m (b.lo - a.lo) < comN a.m b.m := Int.emod_lt_of_pos _ (by omega)
      have ek : ((b.lo - a.lo) / gc a.m b.m % comN a.m b.m * inv2 (a.m / gc a.m b.m) (comN a.m b.m)).tmod (comN a.m b.m) = comK a.m b.m (b.lo - a.lo) := Int.tmod_eq_emod_of_nonneg uv0
      have f0 : 0 ≤ a.m * comK a.m b.m (b.lo - a.lo) := Int.mul_nonneg (by omega) k0
      exact com_yes a b h _ _ _ _ (mx _ ms.1) (mx _ mt.1) (IntWalk.i64_in _ (by omega)) (bz (by omega)) (by omega) D ((tmod_dvd _ _).2 hd) (by simpa using (tmod_dvd _ _).2 hd) _ _ _ _ _ _ _ _ _ (by rw [tn]; exact IntWalk.i64_in _ (by omega)) (by rw [td]; exact IntWalk.i64_in _ (by omega)) (by rw [tsg]; exact IntWalk.i64_in _ (by omega))
        (hidA (fun w => smod_any ((b.lo - a.lo) / gc a.m b.m) (comN a.m b.m) ⟨by omega, by omega⟩ n4 (by omega) w)) (hidA (fun w => sinverse_any (a.m / gc a.m b.m) (comN a.m b.m) q0 (by omega) n4 (by omega) w))
        (by rw [IntKind.wrap_u64]; omega) (by rw [IntKind.wrap_u64]; omega) (by rw [IntKind.wrap_u64]; omega) (bz (by omega)) (by omega) _ (by rw [IntKind.wrap_u64]; omega) ek (IntWalk.i64_in _ (by omega))
        (hidA (fun w => far_any a.m (comK a.m b.m (b.lo - a.lo)) (by omega) (by omega) k0 (by omega) w)) (hidA (fun w => far_any a.m (comN a.m b.m) (by omega) (by omega) (by omega) (by omega) w)) (IntWalk.i64_in _ (by omega)) w
    · refine ⟨false, 0, 0, com_none A B hd 0 0, Or.inr ⟨rfl, fun w => ?_⟩⟩
      have hf : ((b.lo - a.lo).tmod (gc a.m b.m) == 0) = false := by
        cases hh : ((b.lo - a.lo).tmod (gc a.m b.m) == 0) with
        | false => rfl
        | true => exact absurd ((tmod_dvd _ _).1 hh) hd
      exact com_no a b h _ _ _ _ (mx _ ms.1) (mx _ mt.1) (IntWalk.i64_in _ (by omega)) (bz (by omega)) (by omega) D hf (by simpa using hf) w
end Go.Proofs.Ytdopjadlbhacfaa

import Derived.Test.YtdopjadlbhacfaaBc
import Derived.Deep.Cut
import Derived.Deep.DeepCutAuto
namespace Go.Proofs.Ytdopjadlbhacfaa
open Go.RowKit Go.Instr Sp
set_option linter.unusedVariables false
set_option linter.unusedSimpArgs false

/-! span's joins and order. -/
set_option maxRecDepth 100000 in
set_option maxHeartbeats 2000000 in
theorem sjoin_walk (a b J : Ab) (s t d e lo hi : Int) (mk : bits .or .i64 (a.k : Int) (b.k : Int) = (J.k : Int)) (ew : IntKind.i64.wrap (a.lo - b.lo) = e) (el : (if b.lo < a.lo then b.lo else a.lo) = lo) (eh : (if a.hi < b.hi then b.hi else a.hi) = hi) (C1 : Hid (∀ w, Calls Try.prog 48 #[.agg #[.int .i64 a.lo, .int .i64 a.hi, .int .i64 a.m, .int .i64 a.r, .int .i64 a.k]] w fun e w' => e = .returned (.int .i64 s) ∧ Below w.heap.size w w')) (C2 : Hid (∀ w, Calls Try.prog 48 #[.agg #[.int .i64 b.lo, .int .i64 b.hi, .int .i64 b.m, .int .i64 b.r, .int .i64 b.k]] w fun e w' => e = .returned (.int .i64 t) ∧ Below w.heap.size w w')) (C3 : Hid (∀ w b, w.cell? ⟨b, 0, none⟩ = some (.int .i64 s) → w.cell? ⟨b, 1, none⟩ = some (.int .i64 t) → w.cell? ⟨b, 2, none⟩ = some (.int .i64 e) → Calls Try.prog 47 #[.slice (some ⟨b, 0, none⟩) 3 3] w fun e w' => e = .returned (.int .i64 d) ∧ Below w.heap.size w w')) (CW : Hid (∀ w, Calls Try.prog 41 #[.agg #[.int .i64 a.lo, .int .i64 d], .int .i64 lo, .int .i64 hi] w fun e w' => e = .returned (.tuple #[.agg #[.int .i64 J.lo, .int .i64 J.hi, .int .i64 J.m, .int .i64 J.r, .int .i64 0], .bool true]) ∧ Below w.heap.size w w')) (w : World) :
    Calls Try.prog 18 #[.agg #[.int .i64 a.lo, .int .i64 a.hi, .int .i64 a.m, .int .i64 a.r, .int .i64 a.k], .agg #[.int .i64 b.lo, .int .i64 b.hi, .int .i64 b.m, .int .i64 b.r, .int .i64 b.k]] w fun e w' => e = .returned (.agg #[.int .i64 J.lo, .int .i64 J.hi, .int .i64 J.m, .int .i64 J.r, .int .i64 J.k]) ∧ Below w.heap.size w w' := by
  obtain ⟨w0, hw0⟩ : ∃ w0, (((w.alloc (.cells #[.int .i64 a.lo, .int .i64 a.hi, .int .i64 a.m, .int .i64 a.r, .int .i64 a.k] 27)).alloc (.cells #[.int .i64 b.lo, .int .i64 b.hi, .int .i64 b.m, .int .i64 b.r, .int .i64 b.k] 27)).alloc (.cells #[.int .i64 0, .int .i64 0, .int .i64 0, .int .i64 0, .int .i64 0] 27)) = w0 := ⟨_, rfl⟩
  have B0 : Hid (Below w.heap.size w w0) := hidA (by rw [← hw0]; exact (alA (alA (alA (Below.refl _ _) _) _) _))
  have hsz : w.heap.size + 1 + 1 < w0.heap.size := by rw [← hw0]; simp
  have PK : Hid (∀ W, Below w0.heap.size w0 W → abF W (w.heap.size) a (abF W (w.heap.size + 1) b (W.cell? ⟨w.heap.size + 1 + 1, 0, none⟩ = some (.int .i64 0) ∧ W.cell? ⟨w.heap.size + 1 + 1, 1, none⟩ = some (.int .i64 0) ∧ W.cell? ⟨w.heap.size + 1 + 1, 2, none⟩ = some (.int .i64 0) ∧ W.cell? ⟨w.heap.size + 1 + 1, 3, none⟩ = some (.int .i64 0) ∧ W.cell? ⟨w.heap.size + 1 + 1, 4, none⟩ = some (.int .i64 0) ∧ w.heap.size < W.heap.size ∧ w.heap.size + 1 < W.heap.size ∧ w.heap.size + 1 + 1 < W.heap.size ∧ (∀ i, W.frozen? ⟨w.heap.size + 1 + 1, i, none⟩ = false)))) := hidA (fun W hW => by and_intros <;> first | exact cellA hW (by rw [← hw0]; simp [go_sem]) | exact (by have h0 := hW.size; have h1 := hsz; omega) | exact (fun i => (hW.frozen (p := ⟨w.heap.size + 1 + 1, i, none⟩) (show w.heap.size + 1 + 1 < w0.heap.size by have h1 := hsz; omega)).trans (by rw [← hw0]; simp [go_sem])))
  have Hw := hidA hw0; clear hw0
  go_enter Try.func18, Try.ntmps18
  go_wp2_with fail
  rw [Hw.out]
  clear Hw
  have HS : Hid (Below w0.heap.size w0 w0) := hidA (Below.refl _ _)
  obtain ⟨c0, c1, c2, c3, c4, c5, c6, c7, c8, c9, c10, c11, c12, c13, c14, z0, z1, z2, fr2⟩ := PK.out _ HS.out
  go_cut [5] (fun s W => ∃ g : Nat, s = .pointer (some ⟨g, 0, none⟩) ∧ Below w0.heap.size w0 W ∧ W.cell? ⟨g, 0, none⟩ = some (.int .i64 a.lo) ∧ W.cell? ⟨g, 1, none⟩ = some (.int .i64 d))
  case first =>
    have hsD := HS.out.drew
    have leD : w0.heap.size ≤ w0.heap.size := Nat.le_refl _
    go_region_held3 (fun w' => w'.cell? ⟨w.heap.size, 0, none⟩ = some (.int .i64 a.lo) ∧ w'.cell? ⟨w.heap.size, 1, none⟩ = some (.int .i64 a.hi) ∧ w'.cell? ⟨w.heap.size, 2, none⟩ = some (.int .i64 a.m) ∧ w'.cell? ⟨w.heap.size, 3, none⟩ = some (.int .i64 a.r) ∧ w'.cell? ⟨w.heap.size, 4, none⟩ = some (.int .i64 a.k) ∧ w'.cell? ⟨w.heap.size + 1, 0, none⟩ = some (.int .i64 b.lo) ∧ w'.cell? ⟨w.heap.size + 1, 1, none⟩ = some (.int .i64 b.hi) ∧ w'.cell? ⟨w.heap.size + 1, 2, none⟩ = some (.int .i64 b.m) ∧ w'.cell? ⟨w.heap.size + 1, 3, none⟩ = some (.int .i64 b.r) ∧ w'.cell? ⟨w.heap.size + 1, 4, none⟩ = some (.int .i64 b.k) ∧ Below w0.heap.size w0 w')
      ((refine (fun hB => ⟨(PK.out _ hB).1, (PK.out _ hB).2.1, (PK.out _ hB).2.2.1, (PK.out _ hB).2.2.2.1, (PK.out _ hB).2.2.2.2.1, (PK.out _ hB).2.2.2.2.2.1, (PK.out _ hB).2.2.2.2.2.2.1, (PK.out _ hB).2.2.2.2.2.2.2.1, (PK.out _ hB).2.2.2.2.2.2.2.2.1, (PK.out _ hB).2.2.2.2.2.2.2.2.2.1, hB⟩) (?_ : Below w0.heap.size w0 _); exact (by repeat (first | with_reducible assumption | with_reducible exact Below.refl _ _ | with_reducible refine Below.setCell ?_ (by first | omega | simp <;> omega) _ | with_reducible refine Below.alloc ?_ (by first | omega | simp <;> omega) _ | with_reducible refine Below.drew ?_))))
      (first
        | ((go_at_call 48; (with_reducible refine (C1.out _).mono ?_); rintro e w1 ⟨rfl, hb1⟩; have hs1 : Below w0.heap.size w0 w1 := stepA (by repeat (first | with_reducible assumption | with_reducible exact Below.refl _ _ | with_reducible refine Below.setCell ?_ (by first | omega | simp <;> omega) _ | with_reducible refine Below.alloc ?_ (by first | omega | simp <;> omega) _ | with_reducible refine Below.drew ?_)) hb1; have le1 : w0.heap.size ≤ w1.heap.size := hs1.size; obtain ⟨hc1, hf1⟩ := bcell hb1; have sz1 := hb1.size; (try simp at sz1); (try have sa10 : w0.heap.size < w1.heap.size := by omega); (try have sb10 : w0.heap.size + 1 < w1.heap.size := by omega); (try have sc10 : w0.heap.size + 1 + 1 < w1.heap.size := by omega); (have sd10 : w0.heap.size < w1.heap.size + 1 := by omega); (have se10 : w0.heap.size < w1.heap.size + 1 + 1 := by omega); (have sf10 : w0.heap.size < w1.heap.size + 1 + 1 + 1 := by omega)))
        | ((go_at_call 48; (with_reducible refine (C2.out _).mono ?_); rintro e w2 ⟨rfl, hb2⟩; have hs2 : Below w0.heap.size w0 w2 := stepA (by repeat (first | with_reducible assumption | with_reducible exact Below.refl _ _ | with_reducible refine Below.setCell ?_ (by first | omega | simp <;> omega) _ | with_reducible refine Below.alloc ?_ (by first | omega | simp <;> omega) _ | with_reducible refine Below.drew ?_)) hb2; have le2 : w0.heap.size ≤ w2.heap.size := hs2.size; obtain ⟨hc2, hf2⟩ := bcell hb2; have sz2 := hb2.size; (try simp at sz2); (try have sa20 : w0.heap.size < w2.heap.size := by omega); (try have sb20 : w0.heap.size + 1 < w2.heap.size := by omega); (try have sc20 : w0.heap.size + 1 + 1 < w2.heap.size := by omega); (have sd20 : w0.heap.size < w2.heap.size + 1 := by omega); (have se20 : w0.heap.size < w2.heap.size + 1 + 1 := by omega); (have sf20 : w0.heap.size < w2.heap.size + 1 + 1 + 1 := by omega); (try have sa21 : w1.heap.size < w2.heap.size := by omega); (try have sb21 : w1.heap.size + 1 < w2.heap.size := by omega); (try have sc21 : w1.heap.size + 1 + 1 < w2.heap.size := by omega); (have sd21 : w1.heap.size < w2.heap.size + 1 := by omega); (have se21 : w1.heap.size < w2.heap.size + 1 + 1 := by omega); (have sf21 : w1.heap.size < w2.heap.size + 1 + 1 + 1 := by omega)))
        | ((go_at_call 47; (with_reducible refine (C3.out _ _ (by simp [go_sem]) (by simp [go_sem]) (by simp [go_sem])).mono ?_); rintro e w3 ⟨rfl, hb3⟩; have hs3 : Below w0.heap.size w0 w3 := stepA (by repeat (first | with_reducible assumption | with_reducible exact Below.refl _ _ | with_reducible refine Below.setCell ?_ (by first | omega | simp <;> omega) _ | with_reducible refine Below.alloc ?_ (by first | omega | simp <;> omega) _ | with_reducible refine Below.drew ?_)) hb3; have le3 : w0.heap.size ≤ w3.heap.size := hs3.size; obtain ⟨hc3, hf3⟩ := bcell hb3; have sz3 := hb3.size; (try simp at sz3); (try have sa30 : w0.heap.size < w3.heap.size := by omega); (try have sb30 : w0.heap.size + 1 < w3.heap.size := by omega); (try have sc30 : w0.heap.size + 1 + 1 < w3.heap.size := by omega); (have sd30 : w0.heap.size < w3.heap.size + 1 := by omega); (have se30 : w0.heap.size < w3.heap.size + 1 + 1 := by omega); (have sf30 : w0.heap.size < w3.heap.size + 1 + 1 + 1 := by omega); (try have sa31 : w1.heap.size < w3.heap.size := by omega); (try have sb31 : w1.heap.size + 1 < w3.heap.size := by omega); (try have sc31 : w1.heap.size + 1 + 1 < w3.heap.size := by omega); (have sd31 : w1.heap.size < w3.heap.size + 1 := by omega); (have se31 : w1.heap.size < w3.heap.size + 1 + 1 := by omega); (have sf31 : w1.heap.size < w3.heap.size + 1 + 1 + 1 := by omega); (try have sa32 : w2.heap.size < w3.heap.size := by omega); (try have sb32 : w2.heap.size + 1 < w3.heap.size := by omega); (try have sc32 : w2.heap.size + 1 + 1 < w3.heap.size := by omega); (have sd32 : w2.heap.size < w3.heap.size + 1 := by omega); (have se32 : w2.heap.size < w3.heap.size + 1 + 1 := by omega); (have sf32 : w2.heap.size < w3.heap.size + 1 + 1 + 1 := by omega))))
    all_goals
      go_wp2_with fail
      go_meet
      exact ⟨_, rfl, (by repeat (first | with_reducible assumption | with_reducible exact Below.refl _ _ | with_reducible refine Below.setCell ?_ (by first | omega | simp <;> omega) _ | with_reducible refine Below.alloc ?_ (by first | omega | simp <;> omega) _ | with_reducible refine Below.drew ?_)), (by first | (simp [go_sem, *]; done) | ((try simp [go_sem, *]); exact World.cell?_setCell_same _ _ _ (show _ = some (.int .i64 0) by first | (simp [go_sem, *]; done) | exact (hc2 _ _ (by simp)).trans (by simp [go_sem]) | exact (hc2 _ _ (by simp; omega)).trans ((hc1 _ _ (by simp)).trans (by simp [go_sem]))))), (by first | (simp [go_sem, *]; done) | ((try simp [go_sem, *]); exact World.cell?_setCell_same _ _ _ (show _ = some (.int .i64 0) by first | (simp [go_sem, *]; done) | exact (hc2 _ _ (by simp)).trans (by simp [go_sem]) | exact (hc2 _ _ (by simp; omega)).trans ((hc1 _ _ (by simp)).trans (by simp [go_sem])))))⟩
  case rest =>
    obtain ⟨g, rfl, hs1, x0, x1⟩ := hcut
    clear HS; have HS := hidA hs1; clear hs1 c0 c1 c2 c3 c4 c5 c6 c7 c8 c9 c10 c11 c12 c13 c14 z0 z1 z2 fr2; obtain ⟨c0, c1, c2, c3, c4, c5, c6, c7, c8, c9, c10, c11, c12, c13, c14, z0, z1, z2, fr2⟩ := PK.out _ HS.out
    go_wp2_with (go_at_call 41; (with_reducible refine (CW.out _).mono ?_); rintro e w1 ⟨rfl, hb⟩; have hs1 := stepA HS.out hb; clear hb; clear HS; have HS := hidA hs1; clear hs1 c0 c1 c2 c3 c4 c5 c6 c7 c8 c9 c10 c11 c12 c13 c14 z0 z1 z2 fr2; obtain ⟨c0, c1, c2, c3, c4, c5, c6, c7, c8, c9, c10, c11, c12, c13, c14, z0, z1, z2, fr2⟩ := PK.out _ HS.out)
    all_goals exact bodyPost_ret (v := .agg #[.int .i64 J.lo, .int .i64 J.hi, .int .i64 J.m, .int .i64 J.r, .int .i64 J.k]) (by simp [results, Try.results18, go_sem, c10, c11, c12, c13, c14, z2]) rfl ⟨by rfl, (by repeat (first | with_reducible exact Below.refl _ _ | with_reducible exact HS.out | with_reducible exact B0.out | with_reducible refine Below.setCell ?_ (by first | omega | simp <;> omega) _ | with_reducible refine Below.alloc ?_ (by first | omega | simp <;> omega) _ | with_reducible refine Below.drew ?_ | with_reducible refine drewnA ?_ _ | with_reducible refine Below.trans ?_ (HS.out.mono (by first | omega | simp <;> omega)) | with_reducible refine Below.trans ?_ (B0.out.mono (by first | omega | simp <;> omega))))⟩
theorem gcF2 (s t : Int) : gcF [s, t] 0 = gc s t := by
  show gc (gc (gc 0 s) t) 0 = gc s t
  unfold gc; simp [Int.gcd]
theorem gcF3 (s t e : Int) : gcF [s, t, e] 0 = gc (gc s t) e := by
  show gc (gc (gc (gc 0 s) t) e) 0 = gc (gc s t) e
  unfold gc; simp [Int.gcd]
theorem sdiv2_any (s t : Int) (bs : Big s) (bt : Big t) : ∀ (w : World) (b : Nat), w.cell? ⟨b, 0, none⟩ = some (.int .i64 s) → w.cell? ⟨b, 1, none⟩ = some (.int .i64 t) → Calls Try.prog 47 #[.slice (some ⟨b, 0, none⟩) 2 2] w fun e w' => e = .returned (.int .i64 (gc s t)) ∧ Below w.heap.size w w' := by
  intro w b h0 h1
  have H := sdivisor_any w b [s, t] 2 rfl (by omega) (by
    intro i x h
    match i with
    | 0 => simp at h; subst h; exact h0
    | 1 => simp at h; subst h; exact h1
    | (i + 2) => simp at h) (by
    intro x hx
    simp at hx
    rcases hx with rfl | rfl <;> assumption)
  rwa [gcF2] at H
theorem sdiv3_any (s t q : Int) (bs : Big s) (bt : Big t) (bq : Big q) : ∀ (w : World) (b : Nat), w.cell? ⟨b, 0, none⟩ = some (.int .i64 s) → w.cell? ⟨b, 1, none⟩ = some (.int .i64 t) → w.cell? ⟨b, 2, none⟩ = some (.int .i64 q) → Calls Try.prog 47 #[.slice (some ⟨b, 0, none⟩) 3 3] w fun e w' => e = .returned (.int .i64 (gc (gc s t) q)) ∧ Below w.heap.size w w' := by
  intro w b h0 h1 h2
  have H := sdivisor_any w b [s, t, q] 3 rfl (by omega) (by
    intro i x h
    match i with
    | 0 => simp at h; subst h; exact h0
    | 1 => simp at h; subst h; exact h1
    | 2 => simp at h; subst h; exact h2
    | (i + 3) => simp at h) (by
    intro x hx
    simp at hx
    rcases hx with rfl | rfl | rfl <;> assumption)
  rwa [gcF3] at H
theorem stp_le {a : Ab} (A : Val a) : 0 ≤ stp a ∧ stp a ≤ 4294967295 := by
  obtain ⟨h0, h1, h2, h3⟩ := val_stp A
  refine ⟨h0, ?_⟩
  by_cases z : stp a = 0
  · omega
  · have := (h3 z).2.1
    have := Int.le_of_dvd (by omega) h1
    have := A.l; have := A.h
    omega
theorem small_big {x : Int} (h : -9000000000000000000 ≤ x) (g : x ≤ 9000000000000000000) : Big x := ⟨by omega, by omega⟩
theorem join_cls {a b : Ab} (A : Val a) (B : Val b) : ClsIs (joinA a b) a.lo (joinStep a b) (min a.lo b.lo) (max a.hi b.hi) := by
  intro v
  unfold joinA
  rw [by_mem _ (join_ok A B)]
  have d := (@join_step a b).2.2
  have e : joinStep a b ∣ v - min a.lo b.lo ↔ joinStep a b ∣ v - a.lo := by
    rcases Int.le_total a.lo b.lo with h | h
    · rw [Int.min_eq_left h]
    · rw [Int.min_eq_right h]
      constructor
      · intro g
        have := Int.dvd_sub g d
        rwa [show v - b.lo - (a.lo - b.lo) = v - a.lo by omega] at this
      · intro g
        have := Int.dvd_add g d
        rwa [show v - a.lo + (a.lo - b.lo) = v - b.lo by omega] at this
  rw [e]
theorem joinStep_bd {a b : Ab} (A : Val a) (B : Val b) : 0 ≤ joinStep a b ∧ joinStep a b ≤ 4294967295 := by
  have := stp_le A; have := stp_le B
  have := A.l; have := A.h; have := A.o; have := B.l; have := B.h; have := B.o
  refine ⟨gc_nn _ _, ?_⟩
  unfold joinStep
  rw [← gc_abs]
  exact gc_le (gc_nn _ _) (by unfold absI; omega) (gc_le (by omega) (by omega) (by omega) (by omega)) (by unfold absI; omega)
theorem sjoin_any (a b : Ab) (A : Val a) (B : Val b) (w : World) :
    Calls Try.prog 18 #[.agg #[.int .i64 a.lo, .int .i64 a.hi, .int .i64 a.m, .int .i64 a.r, .int .i64 a.k], .agg #[.int .i64 b.lo, .int .i64 b.hi, .int .i64 b.m, .int .i64 b.r, .int .i64 b.k]] w fun e w' => e = .returned (.agg #[.int .i64 (joinA a b).lo, .int .i64 (joinA a b).hi, .int .i64 (joinA a b).m, .int .i64 (joinA a b).r, .int .i64 (joinA a b).k]) ∧ Below w.heap.size w w' := by
  have := stp_le A; have := stp_le B
  have := A.l; have := A.h; have := A.o; have := B.l; have := B.h; have := B.o
  have jb := joinStep_bd A B
  have e1 : (if b.lo < a.lo then b.lo else a.lo) = min a.lo b.lo := by split <;> omega
  have e2 : (if a.hi < b.hi then b.hi else a.hi) = max a.hi b.hi := by split <;> omega
  exact sjoin_walk a b (joinA a b) _ _ (joinStep a b) _ _ _ (by rw [bits_or8 A.k B.k]; unfold joinA; rw [by_k]) (IntWalk.i64_in _ (by omega)) e1 e2
    (hidA (fun w => sstep_any a w)) (hidA (fun w => sstep_any b w)) (hidA (sdiv3_any (stp a) (stp b) (a.lo - b.lo) (small_big (by omega) (by omega)) (small_big (by omega) (by omega)) (small_big (by omega) (by omega))))
    (hidA (fun w => within_some (joinA a b) (join_val A B) _ _ _ _ ⟨⟨by omega, by omega⟩, by omega, by omega, by omega, by omega, jb.1, by omega⟩ (join_cls A B) w)) w
theorem ab_if_ne2 {a b : Ab} (h : a ≠ b) {α : Type} (x y : α) : (if a.lo = b.lo then if a.hi = b.hi then if a.m = b.m then if a.r = b.r then if (a.k : Int) = (b.k : Int) then x else y else y else y else y else y) = y := by
  by_cases h1 : a.lo = b.lo
  · by_cases h2 : a.hi = b.hi
    · by_cases h3 : a.m = b.m
      · by_cases h4 : a.r = b.r
        · by_cases h5 : (a.k : Int) = (b.k : Int)
          · exfalso
            apply h
            cases a; cases b
            simp only at *
            subst h1 h2 h3 h4
            congr 1
            omega
          · simp [h1, h2, h3, h4, h5]
        · simp [h1, h2, h3, h4]
      · simp [h1, h2, h3]
    · simp [h1, h2]
  · simp [h1]
set_option maxRecDepth 100000 in
set_option maxHeartbeats 1000000 in
theorem sleq_t (a b : Ab) (C1 : Hid (∀ w, Calls Try.prog 18 #[.agg #[.int .i64 a.lo, .int .i64 a.hi, .int .i64 a.m, .int .i64 a.r, .int .i64 a.k], .agg #[.int .i64 b.lo, .int .i64 b.hi, .int .i64 b.m, .int .i64 b.r, .int .i64 b.k]] w fun e w' => e = .returned (.agg #[.int .i64 b.lo, .int .i64 b.hi, .int .i64 b.m, .int .i64 b.r, .int .i64 b.k]) ∧ Below w.heap.size w w')) (w : World) :
    Calls Try.prog 22 #[.agg #[.int .i64 a.lo, .int .i64 a.hi, .int .i64 a.m, .int .i64 a.r, .int .i64 a.k], .agg #[.int .i64 b.lo, .int .i64 b.hi, .int .i64 b.m, .int .i64 b.r, .int .i64 b.k]] w fun e w' => e = .returned (.bool true) ∧ Below w.heap.size w w' := by
  obtain ⟨w0, hw0⟩ : ∃ w0, ((w.alloc (.cells #[.int .i64 a.lo, .int .i64 a.hi, .int .i64 a.m, .int .i64 a.r, .int .i64 a.k] 27)).alloc (.cells #[.int .i64 b.lo, .int .i64 b.hi, .int .i64 b.m, .int .i64 b.r, .int .i64 b.k] 27)) = w0 := ⟨_, rfl⟩
  have B0 : Hid (Below w.heap.size w w0) := hidA (by rw [← hw0]; exact (alA (alA (Below.refl _ _) _) _))
  have hsz : w.heap.size + 1 < w0.heap.size := by rw [← hw0]; simp
  have PK : Hid (∀ W, Below w0.heap.size w0 W → abF W (w.heap.size) a (abF W (w.heap.size + 1) b (w.heap.size < W.heap.size ∧ w.heap.size + 1 < W.heap.size))) := hidA (fun W hW => by and_intros <;> first | exact cellA hW (by rw [← hw0]; simp [go_sem]) | exact (by have h0 := hW.size; have h1 := hsz; omega))
  have Hw := hidA hw0; clear hw0
  go_enter Try.func22, Try.ntmps22
  go_wp2_with fail
  rw [Hw.out]
  clear Hw
  have HS : Hid (Below w0.heap.size w0 w0) := hidA (Below.refl _ _)
  obtain ⟨c0, c1, c2, c3, c4, c5, c6, c7, c8, c9, z0, z1⟩ := PK.out _ HS.out
  refine' wp_region_det (by kernel_rfl) [_, _, _, _, _, _] (fun W => Below w0.heap.size w0 W) (by kernel_rfl) HS.out.drew ?steps1 ?rest1
  case steps1 =>
    simp only [putAll, Act.put, List.setIfInBounds_toArray, List.set_cons_zero, List.set_cons_succ]
    refine detSteps_cons ?_ ?_
    · first | (refine Or.inl ⟨by rfl, ?_⟩; exact rfl) | (refine Or.inr ⟨by rfl, fun W hW => ?_⟩; obtain ⟨c0, c1, c2, c3, c4, c5, c6, c7, c8, c9, z0, z1⟩ := PK.out _ hW; go_simp; first | exact rfl | exact ⟨rfl, hW⟩ | (go_at_call 18; (with_reducible refine (C1.out _).mono ?_); rintro e w1 ⟨rfl, hb1⟩; (refine And.intro ?_ (stepA hW hb1)); exact rfl))
    refine detSteps_cons ?_ ?_
    · first | (refine Or.inl ⟨by rfl, ?_⟩; exact rfl) | (refine Or.inr ⟨by rfl, fun W hW => ?_⟩; obtain ⟨c0, c1, c2, c3, c4, c5, c6, c7, c8, c9, z0, z1⟩ := PK.out _ hW; go_simp; first | exact rfl | exact ⟨rfl, hW⟩ | (go_at_call 18; (with_reducible refine (C1.out _).mono ?_); rintro e w1 ⟨rfl, hb1⟩; (refine And.intro ?_ (stepA hW hb1)); exact rfl))
    refine detSteps_cons ?_ ?_
    · first | (refine Or.inl ⟨by rfl, ?_⟩; exact rfl) | (refine Or.inr ⟨by rfl, fun W hW => ?_⟩; obtain ⟨c0, c1, c2, c3, c4, c5, c6, c7, c8, c9, z0, z1⟩ := PK.out _ hW; go_simp; first | exact rfl | exact ⟨rfl, hW⟩ | (go_at_call 18; (with_reducible refine (C1.out _).mono ?_); rintro e w1 ⟨rfl, hb1⟩; (refine And.intro ?_ (stepA hW hb1)); exact rfl))
    refine detSteps_cons ?_ ?_
    · first | (refine Or.inl ⟨by rfl, ?_⟩; exact rfl) | (refine Or.inr ⟨by rfl, fun W hW => ?_⟩; obtain ⟨c0, c1, c2, c3, c4, c5, c6, c7, c8, c9, z0, z1⟩ := PK.out _ hW; go_simp; first | exact rfl | exact ⟨rfl, hW⟩ | (go_at_call 18; (with_reducible refine (C1.out _).mono ?_); rintro e w1 ⟨rfl, hb1⟩; (refine And.intro ?_ (stepA hW hb1)); exact rfl))
    refine detSteps_cons ?_ ?_
    · first | (refine Or.inl ⟨by rfl, ?_⟩; exact rfl) | (refine Or.inr ⟨by rfl, fun W hW => ?_⟩; obtain ⟨c0, c1, c2, c3, c4, c5, c6, c7, c8, c9, z0, z1⟩ := PK.out _ hW; go_simp; first | exact rfl | exact ⟨rfl, hW⟩ | (go_at_call 18; (with_reducible refine (C1.out _).mono ?_); rintro e w1 ⟨rfl, hb1⟩; (refine And.intro ?_ (stepA hW hb1)); exact rfl))
    refine detSteps_cons ?_ ?_
    · first | (refine Or.inl ⟨by rfl, ?_⟩; exact rfl) | (refine Or.inr ⟨by rfl, fun W hW => ?_⟩; obtain ⟨c0, c1, c2, c3, c4, c5, c6, c7, c8, c9, z0, z1⟩ := PK.out _ hW; go_simp; first | exact rfl | exact ⟨rfl, hW⟩ | (go_at_call 18; (with_reducible refine (C1.out _).mono ?_); rintro e w1 ⟨rfl, hb1⟩; (refine And.intro ?_ (stepA hW hb1)); exact rfl))
    exact detSteps_nil
  case rest1 =>
    intro w1 hs1
    simp only [putAll, Act.put, List.setIfInBounds_toArray, List.set_cons_zero, List.set_cons_succ]
    go_wp2
    go_ret
    exact ⟨rfl, (by repeat (first | with_reducible exact Below.refl _ _ | with_reducible exact hs1 | with_reducible exact B0.out | with_reducible refine Below.setCell ?_ (by first | omega | simp <;> omega) _ | with_reducible refine Below.alloc ?_ (by first | omega | simp <;> omega) _ | with_reducible refine Below.drew ?_ | with_reducible refine drewnA ?_ _ | with_reducible refine Below.trans ?_ (hs1.mono (by first | omega | simp <;> omega)) | with_reducible refine Below.trans ?_ (B0.out.mono (by first | omega | simp <;> omega))))⟩
set_option maxRecDepth 100000 in
set_option maxHeartbeats 1000000 in
theorem sleq_f (a b J : Ab) (hne : J ≠ b) (C1 : Hid (∀ w, Calls Try.prog 18 #[.agg #[.int .i64 a.lo, .int .i64 a.hi, .int .i64 a.m, .int .i64 a.r, .int .i64 a.k], .agg #[.int .i64 b.lo, .int .i64 b.hi, .int .i64 b.m, .int .i64 b.r, .int .i64 b.k]] w fun e w' => e = .returned (.agg #[.int .i64 J.lo, .int .i64 J.hi, .int .i64 J.m, .int .i64 J.r, .int .i64 J.k]) ∧ Below w.heap.size w w')) (w : World) :
    Calls Try.prog 22 #[.agg #[.int .i64 a.lo, .int .i64 a.hi, .int .i64 a.m, .int .i64 a.r, .int .i64 a.k], .agg #[.int .i64 b.lo, .int .i64 b.hi, .int .i64 b.m, .int .i64 b.r, .int .i64 b.k]] w fun e w' => e = .returned (.bool false) ∧ Below w.heap.size w w' := by
  obtain ⟨w0, hw0⟩ : ∃ w0, ((w.alloc (.cells #[.int .i64 a.lo, .int .i64 a.hi, .int .i64 a.m, .int .i64 a.r, .int .i64 a.k] 27)).alloc (.cells #[.int .i64 b.lo, .int .i64 b.hi, .int .i64 b.m, .int .i64 b.r, .int .i64 b.k] 27)) = w0 := ⟨_, rfl⟩
  have B0 : Hid (Below w.heap.size w w0) := hidA (by rw [← hw0]; exact (alA (alA (Below.refl _ _) _) _))
  have hsz : w.heap.size + 1 < w0.heap.size := by rw [← hw0]; simp
  have PK : Hid (∀ W, Below w0.heap.size w0 W → abF W (w.heap.size) a (abF W (w.heap.size + 1) b (w.heap.size < W.heap.size ∧ w.heap.size + 1 < W.heap.size))) := hidA (fun W hW => by and_intros <;> first | exact cellA hW (by rw [← hw0]; simp [go_sem]) | exact (by have h0 := hW.size; have h1 := hsz; omega))
  have Hw := hidA hw0; clear hw0
  go_enter Try.func22, Try.ntmps22
  go_wp2_with fail
  rw [Hw.out]
  clear Hw
  have HS : Hid (Below w0.heap.size w0 w0) := hidA (Below.refl _ _)
  obtain ⟨c0, c1, c2, c3, c4, c5, c6, c7, c8, c9, z0, z1⟩ := PK.out _ HS.out
  refine' wp_region_det (by kernel_rfl) [_, _, _, _, _, _] (fun W => Below w0.heap.size w0 W) (by kernel_rfl) HS.out.drew ?steps2 ?rest2
  case steps2 =>
    simp only [putAll, Act.put, List.setIfInBounds_toArray, List.set_cons_zero, List.set_cons_succ]
    refine detSteps_cons ?_ ?_
    · first | (refine Or.inl ⟨by rfl, ?_⟩; exact rfl) | (refine Or.inr ⟨by rfl, fun W hW => ?_⟩; obtain ⟨c0, c1, c2, c3, c4, c5, c6, c7, c8, c9, z0, z1⟩ := PK.out _ hW; go_simp; first | exact rfl | exact ⟨rfl, hW⟩ | (go_at_call 18; (with_reducible refine (C1.out _).mono ?_); rintro e w1 ⟨rfl, hb1⟩; (refine And.intro ?_ (stepA hW hb1)); exact rfl) | (rw [ab_if_ne2 hne]; refine And.intro ?_ hW; exact rfl))
    refine detSteps_cons ?_ ?_
    · first | (refine Or.inl ⟨by rfl, ?_⟩; exact rfl) | (refine Or.inr ⟨by rfl, fun W hW => ?_⟩; obtain ⟨c0, c1, c2, c3, c4, c5, c6, c7, c8, c9, z0, z1⟩ := PK.out _ hW; go_simp; first | exact rfl | exact ⟨rfl, hW⟩ | (go_at_call 18; (with_reducible refine (C1.out _).mono ?_); rintro e w1 ⟨rfl, hb1⟩; (refine And.intro ?_ (stepA hW hb1)); exact rfl) | (rw [ab_if_ne2 hne]; refine And.intro ?_ hW; exact rfl))
    refine detSteps_cons ?_ ?_
    · first | (refine Or.inl ⟨by rfl, ?_⟩; exact rfl) | (refine Or.inr ⟨by rfl, fun W hW => ?_⟩; obtain ⟨c0, c1, c2, c3, c4, c5, c6, c7, c8, c9, z0, z1⟩ := PK.out _ hW; go_simp; first | exact rfl | exact ⟨rfl, hW⟩ | (go_at_call 18; (with_reducible refine (C1.out _).mono ?_); rintro e w1 ⟨rfl, hb1⟩; (refine And.intro ?_ (stepA hW hb1)); exact rfl) | (rw [ab_if_ne2 hne]; refine And.intro ?_ hW; exact rfl))
    refine detSteps_cons ?_ ?_
    · first | (refine Or.inl ⟨by rfl, ?_⟩; exact rfl) | (refine Or.inr ⟨by rfl, fun W hW => ?_⟩; obtain ⟨c0, c1, c2, c3, c4, c5, c6, c7, c8, c9, z0, z1⟩ := PK.out _ hW; go_simp; first | exact rfl | exact ⟨rfl, hW⟩ | (go_at_call 18; (with_reducible refine (C1.out _).mono ?_); rintro e w1 ⟨rfl, hb1⟩; (refine And.intro ?_ (stepA hW hb1)); exact rfl) | (rw [ab_if_ne2 hne]; refine And.intro ?_ hW; exact rfl))
    refine detSteps_cons ?_ ?_
    · first | (refine Or.inl ⟨by rfl, ?_⟩; exact rfl) | (refine Or.inr ⟨by rfl, fun W hW => ?_⟩; obtain ⟨c0, c1, c2, c3, c4, c5, c6, c7, c8, c9, z0, z1⟩ := PK.out _ hW; go_simp; first | exact rfl | exact ⟨rfl, hW⟩ | (go_at_call 18; (with_reducible refine (C1.out _).mono ?_); rintro e w1 ⟨rfl, hb1⟩; (refine And.intro ?_ (stepA hW hb1)); exact rfl) | (rw [ab_if_ne2 hne]; refine And.intro ?_ hW; exact rfl))
    refine detSteps_cons ?_ ?_
    · first | (refine Or.inl ⟨by rfl, ?_⟩; exact rfl) | (refine Or.inr ⟨by rfl, fun W hW => ?_⟩; obtain ⟨c0, c1, c2, c3, c4, c5, c6, c7, c8, c9, z0, z1⟩ := PK.out _ hW; go_simp; first | exact rfl | exact ⟨rfl, hW⟩ | (go_at_call 18; (with_reducible refine (C1.out _).mono ?_); rintro e w1 ⟨rfl, hb1⟩; (refine And.intro ?_ (stepA hW hb1)); exact rfl) | (rw [ab_if_ne2 hne]; refine And.intro ?_ hW; exact rfl))
    exact detSteps_nil
  case rest2 =>
    intro w1 hs1
    simp only [putAll, Act.put, List.setIfInBounds_toArray, List.set_cons_zero, List.set_cons_succ]
    go_wp2
    go_ret
    exact ⟨rfl, (by repeat (first | with_reducible exact Below.refl _ _ | with_reducible exact hs1 | with_reducible exact B0.out | with_reducible refine Below.setCell ?_ (by first | omega | simp <;> omega) _ | with_reducible refine Below.alloc ?_ (by first | omega | simp <;> omega) _ | with_reducible refine Below.drew ?_ | with_reducible refine drewnA ?_ _ | with_reducible refine Below.trans ?_ (hs1.mono (by first | omega | simp <;> omega)) | with_reducible refine Below.trans ?_ (B0.out.mono (by first | omega | simp <;> omega))))⟩
theorem sleq_any (a b : Ab) (A : Val a) (B : Val b) (w : World) :
    Calls Try.prog 22 #[.agg #[.int .i64 a.lo, .int .i64 a.hi, .int .i64 a.m, .int .i64 a.r, .int .i64 a.k], .agg #[.int .i64 b.lo, .int .i64 b.hi, .int .i64 b.m, .int .i64 b.r, .int .i64 b.k]] w fun e w' => e = .returned (.bool (leB a b)) ∧ Below w.heap.size w w' := by
  by_cases h : joinA a b = b
  · rw [(leB_iff A B).2 ((join_iff A B).2 h)]
    have C := sjoin_any a b A B
    rw [h] at C
    exact sleq_t a b (hidA C) w
  · have e : leB a b = false := by
      cases hl : leB a b with
      | false => rfl
      | true => exact absurd ((join_iff A B).1 ((leB_iff A B).1 hl)) h
    rw [e]
    exact sleq_f a b _ h (hidA (fun w => sjoin_any a b A B w)) w
end Go.Proofs.Ytdopjadlbhacfaa

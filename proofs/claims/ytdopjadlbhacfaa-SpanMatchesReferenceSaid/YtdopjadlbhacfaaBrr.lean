import Derived.Test.YtdopjadlbhacfaaBwx
import Derived.Deep.Cut
import Derived.Deep.DeepCutAuto
import Derived.Test.YtdopjadlbhacfaaAz
namespace Go.Proofs.Ytdopjadlbhacfaa
section
open Go.RowKit Go.Instr Sp
set_option linter.unusedVariables false
set_option linter.unusedSimpArgs false

/-! span's comparisons: what they leave; the law's wrapper. -/
theorem bnz {x : Int} (h : x ≠ 0) : (x == 0) = false ∧ (x != 0) = true := ⟨by simpa using h, by simpa using h⟩
theorem biz {x : Int} (h : x = 0) : (x == 0) = true ∧ (x != 0) = false := ⟨by simpa using h, by simpa using h⟩
/-- A set without the one value of another, where it is an end. -/
theorem swithout_any (a y : Ab) (A : Val a) : ∃ (is : Bool) (x : Ab), PartR a (fun v => ¬ (stp y = 0 ∧ v = y.lo ∧ (y.lo = a.lo ∨ y.lo = a.hi))) is x ∧ (is = true → x.k = a.k) ∧ ∀ w, Calls Try.prog 98 #[.agg #[.int .i64 a.lo, .int .i64 a.hi, .int .i64 a.m, .int .i64 a.r, .int .i64 a.k], .agg #[.int .i64 y.lo, .int .i64 y.hi, .int .i64 y.m, .int .i64 y.r, .int .i64 y.k]] w fun e w' => e = .returned (.tuple #[.agg #[.int .i64 x.lo, .int .i64 x.hi, .int .i64 x.m, .int .i64 x.r, .int .i64 a.k], .bool is]) ∧ Below w.heap.size w w' := by
  have al := A.l; have ah := A.h; have ao := A.o
  have CS := hidA (fun w => sstep_any y w)
  by_cases h : stp y = 0
  · obtain ⟨f1, f2⟩ := biz h
    by_cases c : y.lo = a.lo
    · obtain ⟨is, x, P, CP⟩ := spart_any a A (a.lo + 1) a.hi (by omega) (by omega) (by omega) (by omega)
      refine ⟨is, x, part_iff (fun v hv => ?_) P, fun e => (P.some e).2.2, fun w => wo_2 a y _ _ _ _ _ _ _ CS f1 f2 (by simpa using c) (IntWalk.i64_in _ (by omega)) (hidA CP) w⟩
      have h1 := hv.1; have h2 := hv.2.1
      constructor
      · rintro ⟨v1, v2⟩ ⟨_, e, _⟩
        omega
      · intro hh
        refine ⟨?_, h2⟩
        rcases Int.lt_or_le a.lo v with g | g
        · omega
        · exact absurd ⟨h, by omega, Or.inl c⟩ hh
    · by_cases d : y.lo = a.hi
      · obtain ⟨is, x, P, CP⟩ := spart_any a A a.lo (a.hi - 1) (by omega) (by omega) (by omega) (by omega)
        refine ⟨is, x, part_iff (fun v hv => ?_) P, fun e => (P.some e).2.2, fun w => wo_3 a y _ _ _ _ _ _ _ CS f1 f2 (by simpa using c) (by simpa using d) (IntWalk.i64_in _ (by omega)) (hidA CP) w⟩
        have h1 := hv.1; have h2 := hv.2.1
        constructor
        · rintro ⟨v1, v2⟩ ⟨_, e, _⟩
          omega
        · intro hh
          refine ⟨h1, ?_⟩
          rcases Int.lt_or_le v a.hi with g | g
          · omega
          · exact absurd ⟨h, by omega, Or.inr d⟩ hh
      · refine ⟨true, a, part_all A (fun v _ ⟨_, _, e⟩ => e.elim c d), fun _ => rfl, fun w => wo_4 a y _ CS f1 f2 (by simpa using c) (by simpa using d) w⟩
  · obtain ⟨f1, f2⟩ := bnz h
    exact ⟨true, a, part_all A (fun v _ ⟨e, _⟩ => h e), fun _ => rfl, fun w => wo_1 a y _ CS f1 f2 w⟩
theorem sordered_any (a b : Ab) (A : Val a) (B : Val b) (d : Int) (hd : d = 0 ∨ d = 1) : ∃ (i j : Bool) (x y : Ab), PartR a (fun v => v ≤ b.hi - d) i x ∧ PartR b (fun v => a.lo + d ≤ v) j y ∧ ∀ w, Calls Try.prog 88 #[.agg #[.int .i64 a.lo, .int .i64 a.hi, .int .i64 a.m, .int .i64 a.r, .int .i64 a.k], .agg #[.int .i64 b.lo, .int .i64 b.hi, .int .i64 b.m, .int .i64 b.r, .int .i64 b.k], .int .i64 d] w fun e w' => e = .returned (.tuple #[.agg #[.int .i64 x.lo, .int .i64 x.hi, .int .i64 x.m, .int .i64 x.r, .int .i64 a.k], .agg #[.int .i64 y.lo, .int .i64 y.hi, .int .i64 y.m, .int .i64 y.r, .int .i64 b.k], .bool (i && j)]) ∧ Below w.heap.size w w' := by
  have al := A.l; have ah := A.h; have ao := A.o; have bl := B.l; have bh := B.h; have bo := B.o
  obtain ⟨i, x, P, CP⟩ := spart_any a A a.lo (b.hi - d) (by omega) (by omega) (by omega) (by omega)
  obtain ⟨j, y, Q, CQ⟩ := spart_any b B (a.lo + d) b.hi (by omega) (by omega) (by omega) (by omega)
  refine ⟨i, j, x, y, part_iff (fun v hv => ⟨fun h => h.2, fun h => ⟨hv.1, h⟩⟩) P, part_iff (fun v hv => ⟨fun h => h.1, fun h => ⟨h, hv.2.1⟩⟩) Q, fun w => ?_⟩
  have e1 : IntKind.i64.wrap (b.hi - d) = b.hi - d := IntWalk.i64_in _ (by omega)
  have e2 : IntKind.i64.wrap (a.lo + d) = a.lo + d := IntWalk.i64_in _ (by omega)
  exact ord_w a b i j _ _ _ _ _ _ _ _ d _ _ e1 e2 (hidA CP) (hidA CQ) w
theorem sdifferent_any (a b : Ab) (A : Val a) (B : Val b) : ∃ (i j : Bool) (x y : Ab), PartR a (fun v => ¬ (stp b = 0 ∧ v = b.lo ∧ (b.lo = a.lo ∨ b.lo = a.hi))) i x ∧ (i = true → PartR b (fun v => ¬ (stp x = 0 ∧ v = x.lo ∧ (x.lo = b.lo ∨ x.lo = b.hi))) j y) ∧ (j = true → Val y ∧ y.k = b.k) ∧ ∀ w, Calls Try.prog 90 #[.agg #[.int .i64 a.lo, .int .i64 a.hi, .int .i64 a.m, .int .i64 a.r, .int .i64 a.k], .agg #[.int .i64 b.lo, .int .i64 b.hi, .int .i64 b.m, .int .i64 b.r, .int .i64 b.k]] w fun e w' => e = .returned (.tuple #[.agg #[.int .i64 x.lo, .int .i64 x.hi, .int .i64 x.m, .int .i64 x.r, .int .i64 a.k], .agg #[.int .i64 y.lo, .int .i64 y.hi, .int .i64 y.m, .int .i64 y.r, .int .i64 b.k], .bool (i && j)]) ∧ Below w.heap.size w w' := by
  obtain ⟨i, x, P, _, CP⟩ := swithout_any a b A
  obtain ⟨j, y, Q, kq, CQ⟩ := swithout_any b { x with k := a.k } B
  refine ⟨i, j, x, y, P, fun _ => Q, fun e => ⟨(Q.some e).1, kq e⟩, fun w => ?_⟩
  exact dif_w a b i j _ _ _ _ _ _ _ _ (hidA CP) (hidA CQ) w
theorem ssame_any (a b : Ab) (A : Val a) (B : Val b) (is : Bool) (x : Ab) (M : MeetR a b is x) (w : World) : Calls Try.prog 89 #[.agg #[.int .i64 a.lo, .int .i64 a.hi, .int .i64 a.m, .int .i64 a.r, .int .i64 a.k], .agg #[.int .i64 b.lo, .int .i64 b.hi, .int .i64 b.m, .int .i64 b.r, .int .i64 b.k]] w fun e w' => e = .returned (.tuple #[.agg #[.int .i64 x.lo, .int .i64 x.hi, .int .i64 x.m, .int .i64 x.r, .int .i64 a.k], .agg #[.int .i64 x.lo, .int .i64 x.hi, .int .i64 x.m, .int .i64 x.r, .int .i64 b.k], .bool is]) ∧ Below w.heap.size w w' := by
  have C := hidA (fun w => smeet_any a b A B is x M w)
  exact same_w a b is _ _ _ _ _ C w
end

section
open Go.RowKit Go.Instr Sp
set_option linter.unusedVariables false
set_option linter.unusedSimpArgs false

/-! span's comparisons: what holds of the parts; the law's wrapper. -/
/-- What a comparison leaves of two sets. -/
structure RefR (k : Int) (h : Bool) (a b : Ab) (is : Bool) (x y : Ab) : Prop where
  some : is = true → Val x ∧ Val y ∧ x.k = a.k ∧ y.k = b.k ∧ (∀ v, Mem x v → Mem a v) ∧ (∀ v, Mem y v → Mem b v)
  all : ∀ v u, Mem a v → Mem b u → cmpB k v u = h → is = true ∧ Mem x v ∧ Mem y u
set_option maxRecDepth 100000 in
set_option maxHeartbeats 4000000 in
theorem lrefine_walk (k : Int) (h : Bool) (a b x y : Ab) (is : Bool) (C1 : Hid (∀ w, Calls Try.prog 63 #[.int .i64 k, .bool h, .agg #[.int .i64 a.lo, .int .i64 a.hi, .int .i64 a.m, .int .i64 a.r, .int .i64 a.k], .agg #[.int .i64 b.lo, .int .i64 b.hi, .int .i64 b.m, .int .i64 b.r, .int .i64 b.k]] w fun e w' => e = .returned (.tuple #[.agg #[.int .i64 x.lo, .int .i64 x.hi, .int .i64 x.m, .int .i64 x.r, .int .i64 x.k], .agg #[.int .i64 y.lo, .int .i64 y.hi, .int .i64 y.m, .int .i64 y.r, .int .i64 y.k], .bool is]) ∧ Below w.heap.size w w')) (w : World) :
    Calls Try.prog 32 #[.int .i64 k, .bool h, .agg #[.int .i64 a.lo, .int .i64 a.hi, .int .i64 a.m, .int .i64 a.r, .int .i64 a.k, .int .i64 b.lo, .int .i64 b.hi, .int .i64 b.m, .int .i64 b.r, .int .i64 b.k]] w fun e w' => e = .returned (.agg #[.int .i64 x.lo, .int .i64 x.hi, .int .i64 x.m, .int .i64 x.r, .int .i64 x.k, .int .i64 y.lo, .int .i64 y.hi, .int .i64 y.m, .int .i64 y.r, .int .i64 y.k, .bool is]) ∧ Below w.heap.size w w' := by
  obtain ⟨w0, hw0⟩ : ∃ w0, ((w.alloc (.cells #[.int .i64 a.lo, .int .i64 a.hi, .int .i64 a.m, .int .i64 a.r, .int .i64 a.k, .int .i64 b.lo, .int .i64 b.hi, .int .i64 b.m, .int .i64 b.r, .int .i64 b.k] 44)).alloc (.cells #[.int .i64 0, .int .i64 0, .int .i64 0, .int .i64 0, .int .i64 0, .int .i64 0, .int .i64 0, .int .i64 0, .int .i64 0, .int .i64 0, .bool false] 47)) = w0 := ⟨_, rfl⟩
  have B0 : Hid (Below w.heap.size w w0) := hidA (by rw [← hw0]; exact (alA (alA (Below.refl _ _) _) _))
  have hsz : w.heap.size + 1 < w0.heap.size := by rw [← hw0]; simp
  have PK : Hid (∀ W, Below w0.heap.size w0 W → abF W (w.heap.size) a (W.cell? ⟨w.heap.size, 5, none⟩ = some (.int .i64 b.lo) ∧ W.cell? ⟨w.heap.size, 6, none⟩ = some (.int .i64 b.hi) ∧ W.cell? ⟨w.heap.size, 7, none⟩ = some (.int .i64 b.m) ∧ W.cell? ⟨w.heap.size, 8, none⟩ = some (.int .i64 b.r) ∧ W.cell? ⟨w.heap.size, 9, none⟩ = some (.int .i64 b.k) ∧ W.cell? ⟨w.heap.size + 1, 0, none⟩ = some (.int .i64 0) ∧ W.cell? ⟨w.heap.size + 1, 1, none⟩ = some (.int .i64 0) ∧ W.cell? ⟨w.heap.size + 1, 2, none⟩ = some (.int .i64 0) ∧ W.cell? ⟨w.heap.size + 1, 3, none⟩ = some (.int .i64 0) ∧ W.cell? ⟨w.heap.size + 1, 4, none⟩ = some (.int .i64 0) ∧ W.cell? ⟨w.heap.size + 1, 5, none⟩ = some (.int .i64 0) ∧ W.cell? ⟨w.heap.size + 1, 6, none⟩ = some (.int .i64 0) ∧ W.cell? ⟨w.heap.size + 1, 7, none⟩ = some (.int .i64 0) ∧ W.cell? ⟨w.heap.size + 1, 8, none⟩ = some (.int .i64 0) ∧ W.cell? ⟨w.heap.size + 1, 9, none⟩ = some (.int .i64 0) ∧ W.cell? ⟨w.heap.size + 1, 10, none⟩ = some (.bool false) ∧ w.heap.size < W.heap.size ∧ w.heap.size + 1 < W.heap.size ∧ (∀ i, W.frozen? ⟨w.heap.size + 1, i, none⟩ = false))) := hidA (fun W hW => by and_intros <;> first | exact cellA hW (by rw [← hw0]; simp [go_sem]) | exact (by have h0 := hW.size; have h1 := hsz; omega) | exact (fun i => (hW.frozen (p := ⟨w.heap.size + 1, i, none⟩) (show w.heap.size + 1 < w0.heap.size by have h1 := hsz; omega)).trans (by rw [← hw0]; simp [go_sem])))
  have Hw := hidA hw0; clear hw0
  go_enter Try.func32, Try.ntmps32
  go_wp2_with fail
  rw [Hw.out]
  clear Hw
  have HS : Hid (Below w0.heap.size w0 w0) := hidA (Below.refl _ _)
  obtain ⟨c0, c1, c2, c3, c4, c5, c6, c7, c8, c9, c10, c11, c12, c13, c14, c15, c16, c17, c18, c19, c20, z0, z1, fr1⟩ := PK.out _ HS.out
  go_wp2_with ((go_at_call 63; (with_reducible refine (C1.out _).mono ?_); rintro e w1 ⟨rfl, hb⟩; have hsE := HS.out; have leE := HS.out.size; have hs1 : Below w0.heap.size w0 w1 := stepA (by repeat (first | with_reducible assumption | with_reducible exact Below.refl _ _ | with_reducible refine Below.setCell ?_ (by first | omega | (dsimp only; omega) | (simp; done) | (simp; omega)) _ | with_reducible refine Below.alloc ?_ (by first | omega | (dsimp only; omega) | (simp; done) | (simp; omega)) _ | with_reducible refine Below.drew ?_)) hb; clear hb hsE leE; clear HS; have HS := hidA hs1; clear hs1 c0 c1 c2 c3 c4 c5 c6 c7 c8 c9 c10 c11 c12 c13 c14 c15 c16 c17 c18 c19 c20 z0 z1 fr1; obtain ⟨c0, c1, c2, c3, c4, c5, c6, c7, c8, c9, c10, c11, c12, c13, c14, c15, c16, c17, c18, c19, c20, z0, z1, fr1⟩ := PK.out _ HS.out))
  have za : w.heap.size + 1 < w1.heap.size + 1 := by omega
  have zb : w.heap.size + 1 < w1.heap.size + 1 + 1 := by omega
  exact bodyPost_ret (v := .agg #[.int .i64 x.lo, .int .i64 x.hi, .int .i64 x.m, .int .i64 x.r, .int .i64 x.k, .int .i64 y.lo, .int .i64 y.hi, .int .i64 y.m, .int .i64 y.r, .int .i64 y.k, .bool is]) (by simp [results, Try.results32, go_sem, c10, c11, c12, c13, c14, c15, c16, c17, c18, c19, c20, z1, fr1, za, zb]) rfl ⟨by rfl, (by repeat (first | with_reducible exact Below.refl _ _ | with_reducible exact HS.out | with_reducible exact B0.out | with_reducible refine Below.setCell ?_ (by first | omega | (dsimp only; omega) | (simp; done) | (simp; omega)) _ | with_reducible refine Below.alloc ?_ (by first | omega | (dsimp only; omega) | (simp; done) | (simp; omega)) _ | with_reducible refine Below.drew ?_ | with_reducible refine drewnA ?_ _ | with_reducible refine Below.trans ?_ (HS.out.mono (by first | omega | (dsimp only; omega) | (simp; done) | (simp; omega))) | with_reducible refine Below.trans ?_ (B0.out.mono (by first | omega | (dsimp only; omega) | (simp; done) | (simp; omega)))))⟩
end
end Go.Proofs.Ytdopjadlbhacfaa

import Derived.Test.YtdcaecpcofencaaJh
namespace Go.Proofs.Ytdcaecpcofencaa
open Go.RowKit Go.Instr Go.Deep
set_option maxRecDepth 100000
set_option linter.unusedVariables false
set_option linter.unusedSimpArgs false

/-! gap.Assume's closure. -/
theorem run_min2 {P : Program} (ts : Array TypeId) (t : TypeId) (p q : Int) (w : World) : (Builtin.min_ ts t #[.int .i64 p, .int .i64 q]).run P w = .ok (.int .i64 (min p q)) w := by
  have e : ∀ x y : Int, (if y < x then y else x) = min x y := by intro x y; split <;> omega
  simp [Builtin.min_, Builtin.min2, e]
theorem run_max2 {P : Program} (ts : Array TypeId) (t : TypeId) (p q : Int) (w : World) : (Builtin.max_ ts t #[.int .i64 p, .int .i64 q]).run P w = .ok (.int .i64 (max p q)) w := by
  have e : ∀ x y : Int, (if x < y then y else x) = max x y := by intro x y; split <;> omega
  simp [Builtin.max_, Builtin.max2, e]
theorem cellD {w : World} {a : Addr} {x : Value} (h : w.cell? a = some x) : w.drew.cell? a = some x := h
theorem grown_set {w w' : World} {r : Nat} (h : w.grownBy w' (some r)) (i : Nat) (v : Value) : w.grownBy (w'.setCell ⟨r, i, none⟩ v) (some r) :=
  ⟨h.os, h.tape, h.output, by simpa using h.size, fun k hk hne => (blk_setCell_other w' ⟨r, i, none⟩ _ k (fun e => hne (by rw [e]))).trans (h.block k hk hne)⟩
theorem grown_alloc {w w' : World} {r : Option Nat} (h : w.grownBy w' r) (o : Obj) : w.grownBy (w'.alloc o) r := ⟨h.os, h.tape, h.output, by have := h.size; simp; omega, fun k hk hne => (blk_alloc_lt _ _ _ (Nat.lt_of_lt_of_le hk h.size)).trans (h.block k hk hne)⟩
theorem grown_trans {w w1 w2 : World} {r : Option Nat} (h : w.grownBy w1 r) (k : w1.grownBy w2 r) : w.grownBy w2 r := ⟨k.os.trans h.os, k.tape.trans h.tape, k.output.trans h.output, Nat.le_trans h.size k.size, fun i hi hne => (k.block i (Nat.lt_of_lt_of_le hi h.size) hne).trans (h.block i hi hne)⟩
theorem grown_drew {w w' : World} {r : Option Nat} (h : w.grownBy w' r) : w.grownBy w'.drew r := ⟨h.os, h.tape, h.output, h.size, h.block⟩
theorem Gr.grown {w w' : World} {lo b n m r : Nat} {R C : Nat → Nat} {Z : Nat → Nat → Int} (h : Gr w lo b n m R C Z) (hg : w.grownBy w' (some r)) (hb : b ≠ r) (hR : ∀ i, i < n → R i ≠ r) : Gr w' lo b n m R C Z := by
  refine ⟨h.lob, ?_, fun i hi => ⟨(h.row i hi).1, ?_⟩, h.inj⟩
  · obtain ⟨cs, h1, h2⟩ := h.hd
    exact ⟨cs, (hg.block b h.ltb (fun e => hb (Option.some.inj e))).trans h1, h2⟩
  · obtain ⟨-, cs, h1, h2⟩ := h.row i hi
    exact ⟨cs, (hg.block _ (h.ltR hi) (fun e => hR i hi (Option.some.inj e))).trans h1, h2⟩
/-- The head of below's loop. -/
def AsmO (w0 wr : World) (lo b n m : Nat) (R C : Nat → Nat) (Z : Nat → Nat → Int) (x p : Nat) (F : Nat → Int) : Prop := w0.grownBy wr (some (R x)) ∧ Gr wr lo b n m R C (fun i j => if i = x ∧ j < p then F j else Z i j)
theorem AsmO.step {w0 wr : World} {lo b n m : Nat} {R C : Nat → Nat} {Z : Nat → Nat → Int} {x p : Nat} {F : Nat → Int} (h : AsmO w0 wr lo b n m R C Z x p F) (hx : x < n) {v : Int} (hv : v = F p) : AsmO w0 (wr.drew.setCell ⟨R x, p, none⟩ (.int .i64 v)) lo b n m R C Z x (p + 1) F := by
  obtain ⟨h1, h2⟩ := h
  refine ⟨grown_set (grown_drew h1) p _, (h2.drew.set hx p v).congr (fun i j hi hj => ?_)⟩
  by_cases e : i = x
  · by_cases e2 : j = p
    · subst e e2
      simp [hv]
    · have e3 : (j < p + 1) = (j < p) := propext ⟨fun h => by omega, fun h => by omega⟩
      simp [e, e2, e3]
  · simp [e]
def belowF (m : Nat) (Z Y : Nat → Nat → Int) (xw yw : Nat) (k : Int) (i j : Nat) : Int := if i = xw ∧ j < m then min (Z i j) (sumF (Y yw j) k) else Z i j
set_option maxRecDepth 100000 in
set_option maxHeartbeats 1000000 in
theorem assume1 (w : World) {lo b n m : Nat} {R C : Nat → Nat} {Z : Nat → Nat → Int} (c : Nat) (h : Gr w lo b n m R C Z) {lo2 b2 : Nat} {R2 C2 : Nat → Nat} {Y : Nat → Nat → Int} (c2 : Nat) (h2 : Gr w lo2 b2 n m R2 C2 Y) (pr pg xw yw : Nat) (xc yc d : Int) (hpr : w.cell? ⟨pr, 0, none⟩ = some (.slice (some ⟨b, 0, none⟩) n c)) (hpg : w.cell? ⟨pg, 0, none⟩ = some (.slice (some ⟨b2, 0, none⟩) n c2)) (hx : xw < n) (hy : yw < n) (n1 : pr ≠ R xw) (n2 : pg ≠ R xw) (n3 : b2 ≠ R xw) (n4 : ∀ i, i < n → R2 i ≠ R xw) (hn : n ≤ 65536) (hm : m ≤ 65536) (hY : Zok n m Y) (hxc : -2147483648 ≤ xc ∧ xc ≤ 2147483648) (hyc : -2147483648 ≤ yc ∧ yc ≤ 2147483648) (hd : 0 ≤ d ∧ d ≤ 1) :
    Calls Try.prog 52 #[.agg #[.int .i64 (xw : Int), .int .i64 xc], .agg #[.int .i64 (yw : Int), .int .i64 yc], .int .i64 d, .pointer (some ⟨pr, 0, none⟩), .pointer (some ⟨pg, 0, none⟩)] w fun e w' => e = .returned (.tuple #[]) ∧ w.grownBy w' (some (R xw)) ∧ Gr w' lo b n m R C (belowF m Z Y xw yw (yc - xc - d)) := by
  obtain ⟨w0, hw0⟩ : ∃ w0, ((w.alloc (.cells #[.int .i64 (xw : Int), .int .i64 xc] 70)).alloc (.cells #[.int .i64 (yw : Int), .int .i64 yc] 70)) = w0 := ⟨_, rfl⟩
  have B0 : Hid (Below w.heap.size w w0) := hidA (by rw [← hw0]; exact (((Below.refl _ _).alloc (by first | exact Nat.le_refl _ | (simp; done) | (simp; omega) | omega) _).alloc (by first | exact Nat.le_refl _ | (simp; done) | (simp; omega) | omega) _))
  have hsz : w.heap.size + 1 < w0.heap.size := by rw [← hw0]; simp
  have PK : Hid (∀ W, Below w0.heap.size w0 W → W.cell? ⟨w.heap.size, 0, none⟩ = some (.int .i64 (xw : Int)) ∧ W.cell? ⟨w.heap.size, 1, none⟩ = some (.int .i64 xc) ∧ W.cell? ⟨w.heap.size + 1, 0, none⟩ = some (.int .i64 (yw : Int)) ∧ W.cell? ⟨w.heap.size + 1, 1, none⟩ = some (.int .i64 yc) ∧ w.heap.size < W.heap.size ∧ w.heap.size + 1 < W.heap.size) := hidA (fun W hW => ⟨cellA hW (by rw [← hw0]; simp [go_sem]), cellA hW (by rw [← hw0]; simp [go_sem]), cellA hW (by rw [← hw0]; simp [go_sem]), cellA hW (by rw [← hw0]; simp [go_sem]), (by have h0 := hW.size; have h1 := hsz; omega), (by have h0 := hW.size; have h1 := hsz; omega)⟩)
  have Hw := hidA hw0; clear hw0
  have lR := h.ltR hx
  have hG := hidA (h.belowA B0.out)
  have hY2 := hidA (h2.belowA B0.out)
  have p1 := cellA B0.out hpr
  have p2 := cellA B0.out hpg
  have G0 : Hid (w.grownBy w0 (some (R xw))) := hidA (by rw [← Hw.out]; exact grown_alloc (grown_alloc (World.grownBy.refl _ _) _) _)
  have nb : b ≠ R xw := fun e => (h.ne hx) e.symm
  have nx : w.heap.size ≠ R xw := by omega
  have ny : w.heap.size + 1 ≠ R xw := by omega
  clear h h2 hpr hpg
  go_enter Try.func52, Try.ntmps52
  go_upto_region 1 with (fail)
  rw [Hw.out]
  clear Hw
  obtain ⟨c0, c1, c2', c3, z0, z1⟩ := PK.out _ (Below.refl _ _)
  have hh := hG.out.cellh hx
  have k1 : -4294967297 ≤ yc - xc := by omega
  have k2 : yc - xc ≤ 4294967297 := by omega
  have hyz : (yw : Int) < (n : Int) := by omega
  have hxz : (xw : Int) < (n : Int) := by omega
  have hnx : (xw : Int) < (n : Int) := by omega
  go_wp2_with fail
  have HP1 := hidA p1
  have HP2 := hidA p2
  have HC0 := hidA c0
  have HC1 := hidA c1
  have HC2 := hidA c2'
  have HC3 := hidA c3
  clear p1 p2 c0 c1 c2' c3 hh
  generalize hk : yc - xc - d = k at *
  have kb1 : -4398046511104 ≤ k := by omega
  have kb2 : k ≤ 4398046511104 := by omega
  have HK := hidA hk
  clear hk
  go_loopg [24] m (fun g i wr => ∃ p : Nat, p ≤ m ∧ g = m - p ∧ i = .int .i64 p ∧ AsmO w0 wr lo b n m R C Z xw p (fun j => min (Z xw j) (sumF (Y yw j) k)))
  case atStart => exact ⟨0, Nat.zero_le _, rfl, rfl, World.grownBy.refl _ _, hG.out.congr (fun i j _ _ => by simp)⟩
  case round =>
    obtain ⟨p, hp, rfl, rfl, hA⟩ := hrel
    by_cases hpm : p < m
    · have hpz : (p : Int) < (m : Int) := by omega
      have HG := hidA hA.2
      have HY := hidA (hY2.out.grown hA.1 n3 n4)
      have v1 : wr.cell? ⟨R xw, p, none⟩ = some (.int .i64 (Z xw p)) := by have := hA.2.cellv hx hpm; simpa using this
      have fr := hA.2.frv hx p
      have hh := hA.2.cellh hx
      have c0 := hA.1.cell HC0.out (fun e => nx (Option.some.inj e))
      have c1 := hA.1.cell HC1.out (fun e => nx (Option.some.inj e))
      have c2' := hA.1.cell HC2.out (fun e => ny (Option.some.inj e))
      have c3 := hA.1.cell HC3.out (fun e => ny (Option.some.inj e))
      have p1 := hA.1.cell HP1.out (fun e => n1 (Option.some.inj e))
      have p2 := hA.1.cell HP2.out (fun e => n2 (Option.some.inj e))
      have BB := hidA (by have := bound_anyR c2 HY.out.drew (yw : Int) (p : Int) hn hm; rwa [boundF_in Y hy hpm] at this)
      have bd := hY.bd hy hpm
      have SS := hidA (fun w => sum_anyR (Y yw p) k (by omega) (by omega) (by omega) (by omega) w)
      have HA := hidA hA
      clear hA
      go_upto_region 5 with (fail)
      skip
      obtain ⟨sm, hsm⟩ : ∃ x, sumF (Y yw p) k = x := ⟨_, rfl⟩
      rw [hsm] at SS
      have HSM := hidA hsm
      clear hsm bd
      obtain ⟨zz, hzz⟩ : ∃ x, Z xw p = x := ⟨_, rfl⟩
      rw [hzz] at v1 ⊢
      have HZ := hidA hzz
      clear hzz
      have mm := fun ts t (w : World) => run_min2 (P := Try.prog) ts t zz sm w
      have mz : (p : Nat) < m := hpm
      go_region_held3 (fun w' => w'.cell? ⟨w.heap.size, 0, none⟩ = some (.int .i64 (xw : Int)) ∧ w'.cell? ⟨w.heap.size + 1, 0, none⟩ = some (.int .i64 (yw : Int)) ∧ w'.cell? ⟨pr, 0, none⟩ = some (.slice (some ⟨b, 0, none⟩) n c) ∧ w'.cell? ⟨pg, 0, none⟩ = some (.slice (some ⟨b2, 0, none⟩) n c2) ∧ w'.cell? ⟨b, xw, none⟩ = some (.slice (some ⟨R xw, 0, none⟩) m (C xw)))
        (first | with_reducible exact ⟨cellD c0, cellD c2', cellD p1, cellD p2, cellD hh⟩ | exact ⟨by simpa [go_sem, nx] using c0, by simpa [go_sem, ny] using c2', by simpa [go_sem, n1] using p1, by simpa [go_sem, n2] using p2, by simpa [go_sem, nb] using hh⟩)
        (first
          | ((go_at_call 25; refine (BB.out).mono ?_; rintro e w1 ⟨rfl, rfl⟩))
          | ((go_at_call 48; refine (SS.out _).mono ?_; rintro e w1 ⟨rfl, rfl⟩)))
      go_wp2
      go_roundg (m - (p + 1))
      case rel => exact ⟨p + 1, by omega, rfl, by go_num, HA.out.step hx (by rw [HZ.out, HSM.out])⟩
      case measure => omega
    · obtain rfl : p = m := by omega
      go_wp2
      go_end0
      exact ⟨rfl, grown_trans G0.out hA.1, hA.2.congr (fun i j hi hj => by unfold belowF; rw [HK.out]; by_cases e : i = xw <;> simp [e, hj])⟩
end Go.Proofs.Ytdcaecpcofencaa

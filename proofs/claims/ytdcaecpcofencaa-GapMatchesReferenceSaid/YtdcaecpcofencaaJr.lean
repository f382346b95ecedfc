import Derived.Test.YtdcaecpcofencaaJq
namespace Go.Proofs.Ytdcaecpcofencaa
open Go.RowKit Go.Instr Go.Deep
set_option maxRecDepth 100000
set_option linter.unusedVariables false
set_option linter.unusedSimpArgs false

/-! Gaps that are filled in place; the reference's Made. -/
def mix (F Y : Nat → Nat → Int) (k j : Nat) : Nat → Nat → Int := fun i' j' => if i' < k ∨ (i' = k ∧ j' < j) then F i' j' else Y i' j'
/-- Gaps of the call's own, filled up to row k, place j. -/
structure MixO (w wr : World) (b n m : Nat) (R C : Nat → Nat) (F Y : Nat → Nat → Int) (k j : Nat) : Prop where
  gr : Gr wr w.heap.size b n m R C (mix F Y k j)
  bel : Below w.heap.size w wr
theorem MixO.keep {w wr wr' : World} {b n m k j : Nat} {R C : Nat → Nat} {F Y : Nat → Nat → Int} (h : MixO w wr b n m R C F Y k j) (hb : Below wr.heap.size wr wr') : MixO w wr' b n m R C F Y k j := ⟨h.gr.belowA hb, stepA h.bel hb⟩
theorem MixO.step {w wr : World} {b n m k j : Nat} {R C : Nat → Nat} {F Y : Nat → Nat → Int} (h : MixO w wr b n m R C F Y k j) (hk : k < n) {x : Int} (hx : x = F k j) : MixO w (wr.setCell ⟨R k, j, none⟩ (.int .i64 x)) b n m R C F Y k (j + 1) := by
  refine ⟨(h.gr.set hk j x).congr (fun i' j' _ _ => ?_), h.bel.setCell (h.gr.row k hk).1 _⟩
  unfold mix
  by_cases e : i' = k
  · subst e
    by_cases e2 : j' = j
    · subst e2
      simp [hx]
    · have e3 : (j' < j + 1) = (j' < j) := propext ⟨fun h => by omega, fun h => by omega⟩
      simp [e2, e3]
  · simp [e]
theorem MixO.skip {w wr : World} {b n m k j : Nat} {R C : Nat → Nat} {F Y : Nat → Nat → Int} (h : MixO w wr b n m R C F Y k j) (hx : F k j = Y k j) : MixO w wr b n m R C F Y k (j + 1) := by
  refine ⟨h.gr.congr (fun i' j' _ _ => ?_), h.bel⟩
  unfold mix
  by_cases e : i' = k
  · subst e
    by_cases e2 : j' = j
    · subst e2
      simp [hx]
    · have e3 : (j' < j + 1) = (j' < j) := propext ⟨fun h => by omega, fun h => by omega⟩
      simp [e3]
  · simp [e]
theorem MixO.row {w wr : World} {b n m k : Nat} {R C : Nat → Nat} {F Y : Nat → Nat → Int} (h : MixO w wr b n m R C F Y k m) : MixO w wr b n m R C F Y (k + 1) 0 := by
  refine ⟨h.gr.congr (fun i' j' _ hj => ?_), h.bel⟩
  unfold mix
  have e : (i' < k ∨ i' = k ∧ j' < m) = (i' < k + 1 ∨ i' = k + 1 ∧ j' < 0) := propext ⟨fun h => by omega, fun h => by omega⟩
  simp only [e]
theorem MixO.start {w wr : World} {b n m : Nat} {R C : Nat → Nat} {Y : Nat → Nat → Int} (F : Nat → Nat → Int) (h : Gr wr w.heap.size b n m R C Y) (hb : Below w.heap.size w wr) : MixO w wr b n m R C F Y 0 0 := ⟨h.congr (fun i j _ _ => by unfold mix; simp), hb⟩
theorem MixO.gr_done {w wr : World} {b n m : Nat} {R C : Nat → Nat} {F Y : Nat → Nat → Int} (h : MixO w wr b n m R C F Y n 0) : Gr wr w.heap.size b n m R C F := h.gr.congr (fun i j hi _ => by unfold mix; simp [hi])
theorem MixO.done {w wr : World} {b n m : Nat} {R C : Nat → Nat} {F Y : Nat → Nat → Int} (h : MixO w wr b n m R C F Y n 0) (c : Nat) : GrRet w.heap.size n m F w (.returned (.slice (some ⟨b, 0, none⟩) n c)) wr := ⟨b, c, R, C, rfl, h.gr_done, h.bel⟩
theorem MixO.cur {w wr : World} {b n m k j : Nat} {R C : Nat → Nat} {F Y : Nat → Nat → Int} (h : MixO w wr b n m R C F Y k j) (hk : k < n) (hj : j < m) : wr.cell? ⟨R k, j, none⟩ = some (.int .i64 (Y k j)) := by
  have := h.gr.cellv hk hj
  unfold mix at this
  simpa using this
/-- What Made gives. -/
def varsN (a : Nat) : Nat := 1 + a % 5
def parN (a b : Nat) : Nat := min (b % 4) (varsN a)
def madeZ (l : List Int) (m : Nat) (i j : Nat) : Int := if i * m + j < l.length ∧ fineB (l.getD (i * m + j) 0) = true then l.getD (i * m + j) 0 else newF i j
theorem newF_fine (i j : Nat) : fineB (newF i j) = true := by unfold newF; split <;> decide
theorem madeZ_ok (l : List Int) (n m : Nat) : Zok n m (madeZ l m) := fun i j _ _ => by
  unfold madeZ
  split
  · rename_i h; exact h.2
  · exact newF_fine i j
set_option maxRecDepth 100000 in
set_option maxHeartbeats 1000000 in
theorem made_any (w : World) (a b : Nat) (ha : a < 256) (hb : b < 256) (l : List Int) (oa : Option Addr) (cap : Nat) (hl : intsIn w l (.slice oa l.length cap)) :
    Calls Try.prog 10 #[.agg #[.int .u8 (a : Int), .int .u8 (b : Int), .slice oa l.length cap]] w fun e w' => GrRet w.heap.size (varsN a) (parN a b) (madeZ l (parN a b)) w e w' := by
  obtain ⟨w0, hw0⟩ : ∃ w0, (w.alloc (.cells #[.int .u8 (a : Int), .int .u8 (b : Int), .slice oa l.length cap] 24)) = w0 := ⟨_, rfl⟩
  have B0 : Hid (Below w.heap.size w w0) := hidA (by rw [← hw0]; exact ((Below.refl _ _).alloc (by first | exact Nat.le_refl _ | (simp; done) | (simp; omega) | omega) _))
  have hsz : w.heap.size < w0.heap.size := by rw [← hw0]; simp
  have PK : Hid (∀ W, Below w0.heap.size w0 W → W.cell? ⟨w.heap.size, 0, none⟩ = some (.int .u8 (a : Int)) ∧ W.cell? ⟨w.heap.size, 1, none⟩ = some (.int .u8 (b : Int)) ∧ W.cell? ⟨w.heap.size, 2, none⟩ = some (.slice oa l.length cap) ∧ w.heap.size < W.heap.size) := hidA (fun W hW => ⟨cellA hW (by rw [← hw0]; simp [go_sem]), cellA hW (by rw [← hw0]; simp [go_sem]), cellA hW (by rw [← hw0]; simp [go_sem]), (by have h0 := hW.size; have h1 := hsz; omega)⟩)
  have Hw := hidA hw0; clear hw0
  have HL := hidA (intsIn_below B0.out hl)
  clear hl
  obtain ⟨n, hn⟩ : ∃ n, varsN a = n := ⟨_, rfl⟩
  have hn1 : n ≤ 5 := by rw [← hn]; unfold varsN; omega
  have hn2 : 1 ≤ n := by rw [← hn]; unfold varsN; omega
  have v1 : 1 + (a : Int) % 5 = (n : Int) := by rw [← hn]; unfold varsN; omega
  obtain ⟨m, hm⟩ : ∃ m, parN a b = m := ⟨_, rfl⟩
  have hm1 : m ≤ 3 := by rw [← hm]; unfold parN; omega
  have hmn : m ≤ n := by rw [← hm, ← hn]; unfold parN; omega
  have v2 : (if (n : Int) < (b : Int) % 4 then (n : Int) else (b : Int) % 4) = (m : Int) := by rw [← hm]; unfold parN; rw [hn]; split <;> omega
  rw [hn, hm]
  obtain ⟨len, hlen⟩ : ∃ x, l.length = x := ⟨_, rfl⟩
  have HLEN := hidA hlen
  rw [hlen] at HL PK Hw ⊢
  clear hlen hn hm
  go_enter Try.func10, Try.ntmps10
  go_upto_region 1 with (fail)
  rw [Hw.out]
  clear Hw
  obtain ⟨c0, c1, c2, z0⟩ := PK.out _ (Below.refl _ _)
  go_wp2_with (go_at_call 14; refine (rnew_any n m (by omega) (by omega) _).mono ?_; rintro e w1 ⟨gb, gc, R, C, rfl, hg, hb1⟩)
  clear v1 v2 c0 c1 c2
  have hM := MixO.start (madeZ l m) hg hb1
  clear hg hb1
  have ht : (0 : Nat) = 0 * m := by simp
  go_loopg [6, 7] n (fun g s6 s7 wr => ∃ k q : Nat, k ≤ n ∧ g = n - k ∧ s7 = .int .i64 k ∧ s6 = .int .i64 q ∧ Hid (q = k * m) ∧ q ≤ 3 * k ∧ MixO w0 wr gb n m R C (madeZ l m) newF k 0)
  case atStart => exact ⟨0, 0, Nat.zero_le _, rfl, rfl, rfl, hidA ht, by omega, hM⟩
  case round =>
    clear hM ht
    obtain ⟨k, q0, hk, rfl, rfl, rfl, hq0, hq3, hM⟩ := hrel
    obtain ⟨wo, rfl⟩ : ∃ wo : World, wo = wr := ⟨_, rfl⟩
    by_cases hkn : k < n
    · have hkz : (k : Int) < (n : Int) := by omega
      have HM0 := hidA hM
      clear hM
      go_wp2
      go_loopg [6, 8] m (fun g s6 s8 wi => ∃ j q : Nat, j ≤ m ∧ g = m - j ∧ s8 = .int .i64 j ∧ s6 = .int .i64 q ∧ q = q0 + j ∧ MixO w0 wi gb n m R C (madeZ l m) newF k j)
      case atStart => exact ⟨0, q0, Nat.zero_le _, rfl, rfl, rfl, rfl, HM0.out⟩
      case round =>
        clear HM0
        obtain ⟨j, q, hj, rfl, rfl, rfl, hq, hM⟩ := hrel
        by_cases hjm : j < m
        · have hjz : (j : Int) < (m : Int) := by omega
          have hqb : q ≤ 100 := by omega
          have HQ : Hid (q = k * m + j) := hidA (by rw [hq, hq0.out])
          have HM := hidA hM
          obtain ⟨c0, c1, c2, z0⟩ := PK.out _ HM.out.bel
          have HQ2 := hidA hq
          clear hM hq
          by_cases hql : q < len
          · have hqz : (q : Int) < (len : Int) := by omega
            obtain ⟨lb, off, hoa, x1⟩ := intsIn_at (intsIn_below HM.out.bel HL.out) (k := q) (by rw [HLEN.out]; exact hql)
            subst hoa
            obtain ⟨x, hx⟩ : ∃ x, l.getD q 0 = x := ⟨_, rfl⟩
            rw [hx] at x1
            have HX := hidA hx
            clear hx
            have FF := hidA (fun w => fine_any x w)
            by_cases hf : fineB x = true
            · have HF : Hid (x = madeZ l m k j) := hidA (by unfold madeZ; rw [← HQ.out, HLEN.out, HX.out, if_pos ⟨hql, hf⟩])
              rw [hf] at FF
              clear hf
              have h1 := HM.out.gr.cellh hkn
              have h2 := HM.out.cur hkn hjm
              have h3 := HM.out.gr.frv hkn j
              go_upto_region 12 with (go_at_call 42; refine (FF.out _).mono ?_; rintro e w1 ⟨rfl, rfl⟩)
              go_region
              all_goals
                go_wp2
                go_roundg (m - (j + 1))
                case rel => exact ⟨j + 1, q + 1, by omega, rfl, by go_num, by go_num, by (have := HQ2.out; omega), (HM.out.keep (Below.refl _ _).drew).step hkn HF.out⟩
                case measure => omega
            · rw [Bool.not_eq_true] at hf
              have HF : Hid (madeZ l m k j = newF k j) := hidA (by unfold madeZ; rw [← HQ.out, HX.out, if_neg (by rw [hf]; simp)])
              rw [hf] at FF
              clear hf
              go_wp2_with (go_at_call 42; refine (FF.out _).mono ?_; rintro e w1 ⟨rfl, rfl⟩)
              go_roundg (m - (j + 1))
              case rel => exact ⟨j + 1, q + 1, by omega, rfl, by go_num, by go_num, by (have := HQ2.out; omega), HM.out.skip HF.out⟩
              case measure => omega
          · have HF : Hid (madeZ l m k j = newF k j) := hidA (by unfold madeZ; rw [← HQ.out, HLEN.out, if_neg (fun h => hql h.1)])
            have hqz : (len : Int) ≤ (q : Int) := by omega
            have hqz2 : decide ((q : Nat) < len) = false := by simp; omega
            clear hql
            go_wp2
            go_roundg (m - (j + 1))
            case rel => exact ⟨j + 1, q + 1, by omega, rfl, by go_num, by go_num, by (have := HQ2.out; omega), HM.out.skip HF.out⟩
            case measure => omega
        · obtain rfl : j = m := by omega
          go_wp2
          go_roundg (n - (k + 1))
          case rel => exact ⟨k + 1, q, by omega, rfl, by go_num, rfl, hidA (by rw [hq, hq0.out, Nat.succ_mul]), by omega, hM.row⟩
          case measure => omega
    · obtain rfl : k = n := by omega
      go_wp2
      go_ret
      exact (hM.done _).lift B0.out
end Go.Proofs.Ytdcaecpcofencaa

import Derived.Test.YtdcaecpcofencaaJu
import Derived.Test.YtdcaecpcofencaaJop2
namespace Go.Proofs.Ytdcaecpcofencaa
open Go.RowKit Go.Instr Go.Deep
set_option maxRecDepth 100000
set_option linter.unusedVariables false
set_option linter.unusedSimpArgs false

/-! values, tight. -/
theorem kIn_at {k : IntKind} {w : World} {l : List Int} {oa : Option Addr} {n cap : Nat} (h : kIn k w l (.slice oa n cap)) {i : Nat} (hi : i < l.length) : ∃ b off, oa = some ⟨b, off, none⟩ ∧ w.cell? ⟨b, off + i, none⟩ = some (.int k (l.getD i 0)) := by
  obtain ⟨oa', cap', h1, h2, h3, h4⟩ := h
  injection h1 with h5 h6 h7
  subst h5
  exact h4 i hi
/-- As many values as there are variables. -/
def valsL (n : Nat) (l : List Int) : List Int := (List.range n).map fun i => l.getD i 0
theorem valsL_len (n : Nat) (l : List Int) : (valsL n l).length = n := by simp [valsL]
theorem valsL_at (n : Nat) (l : List Int) {i : Nat} (hi : i < n) : (valsL n l).getD i 0 = l.getD i 0 := by
  simp [valsL, List.getD_eq_getElem?_getD, hi]
theorem valsL_bd (n : Nat) {l : List Int} (h : ∀ i, -2147483648 ≤ l.getD i 0 ∧ l.getD i 0 ≤ 2147483647) (i : Nat) : -2147483648 ≤ (valsL n l).getD i 0 ∧ (valsL n l).getD i 0 ≤ 2147483647 := by
  by_cases hi : i < n
  · rw [valsL_at n l hi]; exact h i
  · rw [List.getD_eq_getElem?_getD, List.getElem?_eq_none (by rw [valsL_len]; omega)]
    exact ⟨by decide, by decide⟩
theorem NewI.ints {w w' : World} {n : Nat} {s : Value} {F : Nat → Int} (h : NewI w w' n s F) {L : List Int} (hL : L.length = n) (hF : ∀ i, i < n → F i = L.getD i 0) : ∃ g cap, s = .slice (some ⟨g, 0, none⟩) n cap ∧ w.heap.size ≤ g ∧ intsIn w' L (.slice (some ⟨g, 0, none⟩) n cap) ∧ Below w.heap.size w w' := by
  obtain ⟨ys, h⟩ := h
  rcases h.own.2 with ⟨h1, -⟩ | ⟨g, cap, cur, h1, h2, h3, h4, h5, h6, h7⟩
  · exact absurd h1 h.nn
  · refine ⟨g, cap, h1, h2, ⟨some ⟨g, 0, none⟩, cap, by rw [hL], by omega, by unfold maxLen at h5; omega, fun i hi => ⟨g, 0, rfl, ?_⟩⟩, h.bel⟩
    rw [hL] at hi
    have e1 : cur[i]? = ys[i]? := by
      rw [← h7, List.getElem?_take, if_pos (by omega)]
      simp
    rw [Nat.zero_add, cell_of_row w' g i _ _ _ h3, e1, h.val i hi, hF i hi]
/-- A list of numbers was made. -/
def IntRet (n : Nat) (L : List Int) (w : World) (e : Ending) (w' : World) : Prop := ∃ g cap, e = .returned (.slice (some ⟨g, 0, none⟩) n cap) ∧ w.heap.size ≤ g ∧ intsIn w' L (.slice (some ⟨g, 0, none⟩) n cap) ∧ Below w.heap.size w w'
set_option maxRecDepth 100000 in
set_option maxHeartbeats 1000000 in
theorem values_any (w : World) (b n c : Nat) (hn : n ≤ 5) (l : List Int) (ol : Option Addr) (nl kl : Nat) (Ll : l.length = nl) (hl : kIn .i32 w l (.slice ol nl kl)) (hl32 : ∀ i, -2147483648 ≤ l.getD i 0 ∧ l.getD i 0 ≤ 2147483647) :
    Calls Try.prog 31 #[.slice (some ⟨b, 0, none⟩) n c, .slice ol nl kl] w fun e w' => IntRet n (valsL n l) w e w' := by
  obtain ⟨iI, hiI, hiIz, hiIs, hiIb⟩ := info_parts infoI
  go_enter Try.func31, Try.ntmps31
  go_wp2
  go_loopg [5, 6] n (fun g s5 s6 wr => ∃ k : Nat, k ≤ n ∧ g = n - k ∧ s6 = .int .i64 k ∧ NewI w wr k s5 (fun i => l.getD i 0))
  case atStart => exact ⟨0, Nat.zero_le _, rfl, rfl, NewI.start w _⟩
  case round =>
    obtain ⟨k, hk, rfl, rfl, hI⟩ := hrel
    obtain ⟨wo, rfl⟩ : ∃ wo : World, wo = wr := ⟨_, rfl⟩
    by_cases hkn : k < n
    · have hkz : (k : Int) < (n : Int) := by omega
      obtain ⟨ys, hq⟩ := hI
      obtain ⟨g7, cap7, cur7, rfl, -, -, -⟩ := form_of hq.own hq.nn
      have HQ := hidA hq
      clear hq
      by_cases hkl : k < nl
      · obtain ⟨lb, off, rfl, x1⟩ := kIn_at (kIn_below HQ.out.bel hl) (i := k) (by omega)
        have x32 := hl32 k
        obtain ⟨x, hx⟩ : ∃ x, l.getD k 0 = x := ⟨_, rfl⟩
        rw [hx] at x1 x32
        have HX : Hid (x = (fun i => l.getD i 0) k) := hidA hx.symm
        clear hx
        have hkz2 : (k : Int) < (nl : Int) := by omega
        go_wp2_with (at_builtin; refine wpList_append_one rfl (.tmp 24) (.tmp 26) 22 rfl _ 3 iI _ 8 Try.underlying22 hiI hiIz hiIs hiIb rfl (by omega) _ _ _ rfl (HQ.out.own.alloc _) HQ.out.nn _ (.int .i64 x) rfl (by simp [go_sem]) rfl (by omega) (by have := HQ.out.bel.size; simp; omega) ?_; intro v' w1 ho hg hv; have HI := hidA (HQ.out.step _ HX.out ho hg hv); clear ho hg hv)
        go_roundg (n - (k + 1))
        case rel => exact ⟨k + 1, by omega, rfl, by go_num, HI.out⟩
        case measure => omega
      · have HX : Hid ((0 : Int) = (fun i => l.getD i 0) k) := hidA (by show (0 : Int) = l.getD k 0; rw [List.getD_eq_getElem?_getD, List.getElem?_eq_none (by omega)]; rfl)
        have hkz2 : decide ((k : Nat) < nl) = false := by simp; omega
        clear hkl
        go_wp2_with (at_builtin; refine wpList_append_one rfl (.tmp 24) (.tmp 26) 22 rfl _ 3 iI _ 8 Try.underlying22 hiI hiIz hiIs hiIb rfl (by omega) _ _ _ rfl (HQ.out.own.alloc _) HQ.out.nn _ (.int .i64 0) rfl (by simp [go_sem]) rfl (by omega) (by have := HQ.out.bel.size; simp; omega) ?_; intro v' w1 ho hg hv; have HI := hidA (HQ.out.step _ HX.out ho hg hv); clear ho hg hv)
        go_roundg (n - (k + 1))
        case rel => exact ⟨k + 1, by omega, rfl, by go_num, HI.out⟩
        case measure => omega
    · obtain rfl : k = n := by omega
      obtain ⟨g, cap, rfl, h2, h3, h4⟩ := hI.ints (valsL_len k l) (fun i hi => (valsL_at k l hi).symm)
      go_wp2
      go_ret
      exact ⟨g, cap, rfl, h2, h3, h4⟩
def tk (ml : List Int) (q : Nat) : Int := if ml.length = 0 then 0 else ml.getD (q % ml.length) 0
def tightZ (V ml : List Int) (m i j : Nat) : Int := if tk ml (i * m + j) % 4 = 3 then 1099511627776 else V.getD i 0 - V.getD j 0 + tk ml (i * m + j) / 4
theorem tk_bd {ml : List Int} (h : ∀ i, 0 ≤ ml.getD i 0 ∧ ml.getD i 0 ≤ 255) (q : Nat) : 0 ≤ tk ml q ∧ tk ml q ≤ 255 := by
  unfold tk
  split
  · omega
  · exact h _
theorem MixO.step2 {w wr : World} {b n m k j : Nat} {R C : Nat → Nat} {F Y : Nat → Nat → Int} (h : MixO w wr b n m R C F Y k j) (hk : k < n) (y : Int) {x : Int} (hx : x = F k j) : MixO w ((wr.setCell ⟨R k, j, none⟩ (.int .i64 y)).setCell ⟨R k, j, none⟩ (.int .i64 x)) b n m R C F Y k (j + 1) := by
  refine ⟨((h.gr.set hk j y).set hk j x).congr (fun i' j' _ _ => ?_), (h.bel.setCell (h.gr.row k hk).1 _).setCell (h.gr.row k hk).1 _⟩
  unfold mix
  by_cases e : i' = k
  · subst e
    by_cases e2 : j' = j
    · subst e2
      simp [hx]
    · have e3 : (j' < j + 1) = (j' < j) := propext ⟨fun h => by omega, fun h => by omega⟩
      simp [e2, e3]
  · simp [e]
set_option maxRecDepth 100000 in
set_option maxHeartbeats 1000000 in
theorem tight_any (w : World) {lo b n m : Nat} {R C : Nat → Nat} {Z : Nat → Nat → Int} (c : Nat) (h : Gr w lo b n m R C Z) (hn : n ≤ 5) (hm : m ≤ 3) (hmn : m ≤ n) (V : List Int) (ov : Option Addr) (kv : Nat) (hV : intsIn w V (.slice ov n kv)) (LV : V.length = n) (hv32 : ∀ i, -2147483648 ≤ V.getD i 0 ∧ V.getD i 0 ≤ 2147483647) (t : List Int) (ot : Option Addr) (nt kt : Nat) (Lt : t.length = nt) (ht : kIn .u8 w t (.slice ot nt kt)) (ht8 : ∀ i, 0 ≤ t.getD i 0 ∧ t.getD i 0 ≤ 255) :
    Calls Try.prog 32 #[.slice (some ⟨b, 0, none⟩) n c, .slice ov n kv, .slice ot nt kt] w fun e w' => GrRet w.heap.size n m (tightZ V t m) w e w' := by
  have hG := hidA h
  have HV := hidA hV
  have HT := hidA ht
  clear h hV ht
  go_enter Try.func32, Try.ntmps32
  go_wp2_with ((go_at_call 27; refine (copy_any w c hG.out (by omega) (by omega)).mono ?_; rintro e w1 ⟨g1, c1, R1, C1, rfl, hg, hb⟩))
  have hM := MixO.start (tightZ V t m) hg hb
  clear hg hb
  have hz0 : (0 : Nat) = 0 * m := by simp
  go_loopg [8, 9] n (fun g s8 s9 wr => ∃ k q : Nat, k ≤ n ∧ g = n - k ∧ s9 = .int .i64 k ∧ s8 = .int .i64 q ∧ Hid (q = k * m) ∧ q ≤ 3 * k ∧ MixO w wr g1 n m R1 C1 (tightZ V t m) Z k 0)
  case atStart => exact ⟨0, 0, Nat.zero_le _, rfl, rfl, rfl, hidA hz0, by omega, hM⟩
  case round =>
    clear hM hz0
    obtain ⟨k, q0, hk, rfl, rfl, rfl, hq0, hq3, hM⟩ := hrel
    obtain ⟨wo, rfl⟩ : ∃ wo : World, wo = wr := ⟨_, rfl⟩
    by_cases hkn : k < n
    · have hkz : (k : Int) < (n : Int) := by omega
      have HM0 := hidA hM
      clear hM
      have d1 := (hG.out.belowA HM0.out.bel).cellh hkn
      go_upto_region 7 with (fail)
      clear d1
      go_loopg [8, 10] m (fun g s8 s10 wi => ∃ j q : Nat, j ≤ m ∧ g = m - j ∧ s10 = .int .i64 j ∧ s8 = .int .i64 q ∧ q = q0 + j ∧ MixO w wi g1 n m R1 C1 (tightZ V t m) Z k j)
      case atStart => exact ⟨0, q0, Nat.zero_le _, rfl, rfl, rfl, rfl, HM0.out⟩
      case round =>
        clear HM0
        obtain ⟨j, q, hj, rfl, rfl, rfl, hq, hM⟩ := hrel
        have d1 := (hG.out.belowA hM.bel).cellh hkn
        by_cases hjm : j < m
        · have hjz : (j : Int) < (m : Int) := by omega
          have hjn : (j : Int) < (n : Int) := by omega
          have hqb : q ≤ 100 := by omega
          have HQ : Hid (q = k * m + j) := hidA (by rw [hq, hq0.out])
          have HQ2 := hidA hq
          have HM := hidA hM
          clear hM hq
          obtain ⟨vb, vo, rfl, y1⟩ := intsIn_at (intsIn_below HM.out.bel HV.out) (k := k) (by omega)
          obtain ⟨vb2, vo2, hvb, y2⟩ := intsIn_at (intsIn_below HM.out.bel HV.out) (k := j) (by omega)
          injection hvb with hvb
          injection hvb with hvb hvo _
          subst hvb hvo
          have x1 := hv32 k
          have x2 := hv32 j
          obtain ⟨vi, hvi⟩ : ∃ x, V.getD k 0 = x := ⟨_, rfl⟩
          obtain ⟨vj, hvj⟩ : ∃ x, V.getD j 0 = x := ⟨_, rfl⟩
          rw [hvi] at y1 x1
          rw [hvj] at y2 x2
          have HVI := hidA hvi
          have HVJ := hidA hvj
          clear hvi hvj
          have tb := tk_bd ht8 q
          go_upto_if 31 with (fail)
          go_cut [11] (fun s W => s = .int .i64 (tk t q) ∧ wr = W)
          case first =>
            clear y1 y2 d1
            by_cases hnt : 0 < nt
            · obtain ⟨r, hr⟩ : ∃ r, q % nt = r := ⟨_, rfl⟩
              have hrn : r < nt := by rw [← hr]; exact Nat.mod_lt _ hnt
              have hrz : (q : Int) % (nt : Int) = (r : Int) := by rw [← hr]; omega
              have hnz : ((nt : Int) == 0) = false := by simp; omega
              have hnz2 : ((nt : Int) != 0) = true := by simp; omega
              have hnz3 : ¬ (nt : Int) = 0 := by omega
              have hzt : (0 : Int) < (nt : Int) := by omega
              obtain ⟨tb2, toff, rfl, z1⟩ := kIn_at (kIn_below HM.out.bel HT.out) (i := r) (by omega)
              have y8 := ht8 r
              obtain ⟨u, hu⟩ : ∃ u, t.getD r 0 = u := ⟨_, rfl⟩
              rw [hu] at z1 y8
              have HU : Hid (u = tk t q) := hidA (by unfold tk; rw [if_neg (by omega), Lt, hr, hu])
              clear hr hu tb
              go_wp2
              go_meet
              exact ⟨by rw [HU.out], rfl⟩
            · have hn00 : nt = 0 := by omega
              have HU : Hid ((0 : Int) = tk t q) := hidA (by unfold tk; rw [if_pos (by omega)])
              subst hn00
              clear hnt tb
              go_wp2
              go_meet
              exact ⟨by rw [HU.out], rfl⟩
          case rest =>
            obtain ⟨rfl, hW⟩ := hcut
            subst hW
            have HF : Hid (tightZ V t m k j = if tk t q % 4 = 3 then 1099511627776 else vi - vj + tk t q / 4) := hidA (by unfold tightZ; rw [← HQ.out, HVI.out, HVJ.out])
            generalize tk t q = u at *
            have h1 := HM.out.gr.cellh hkn
            have h2 := HM.out.cur hkn hjm
            have h3 := HM.out.gr.frv hkn j
            have ne1 : g1 ≠ R1 k := fun e => HM.out.gr.ne hkn e.symm
            have ne2 : R1 k ≠ g1 := HM.out.gr.ne hkn
            by_cases hu3 : u % 4 = 3
            · have HF2 : Hid ((1099511627776 : Int) = tightZ V t m k j) := hidA (by rw [HF.out, if_pos hu3])
              clear HF
              go_upto_region 13 with (fail)
              go_region
              all_goals
                go_wp2
                go_roundg (m - (j + 1))
                case rel => exact ⟨j + 1, q + 1, by omega, rfl, by go_num, by go_num, by (have := HQ2.out; omega), (HM.out.keep (Below.refl _ _).drew).step2 hkn _ HF2.out⟩
                case measure => omega
            · have HF2 : Hid (vi - vj + u / 4 = tightZ V t m k j) := hidA (by rw [HF.out, if_neg hu3])
              have hu4 : (u % 4 == 3) = false := by simpa using hu3
              clear HF hu3
              go_upto_region 13 with (fail)
              go_region
              all_goals
                go_wp2
                go_roundg (m - (j + 1))
                case rel => exact ⟨j + 1, q + 1, by omega, rfl, by go_num, by go_num, by (have := HQ2.out; omega), (HM.out.keep (Below.refl _ _).drew).step hkn HF2.out⟩
                case measure => omega
        · obtain rfl : j = m := by omega
          go_wp2
          go_roundg (n - (k + 1))
          case rel => exact ⟨k + 1, q, by omega, rfl, by go_num, rfl, hidA (by rw [hq, hq0.out, Nat.succ_mul]), by omega, hM.row⟩
          case measure => omega
    · obtain rfl : k = n := by omega
      go_wp2
      go_ret
      exact hM.done _
end Go.Proofs.Ytdcaecpcofencaa

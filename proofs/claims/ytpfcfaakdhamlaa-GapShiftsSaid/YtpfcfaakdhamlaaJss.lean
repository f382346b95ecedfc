import Derived.Test.YtpfcfaakdhamlaaJsm
namespace Go.Proofs.Ytpfcfaakdhamlaa
open Go.RowKit Go.Instr Go.Deep
set_option maxRecDepth 100000
set_option linter.unusedVariables false
set_option linter.unusedSimpArgs false

/-! GapShifts' walk. -/
theorem kIn_at {k : IntKind} {w : World} {l : List Int} {oa : Option Addr} {n cap : Nat} (h : kIn k w l (.slice oa n cap)) {i : Nat} (hi : i < l.length) : ∃ b off, oa = some ⟨b, off, none⟩ ∧ w.cell? ⟨b, off + i, none⟩ = some (.int k (l.getD i 0)) := by
  obtain ⟨oa', cap', h1, h2, h3, h4⟩ := h
  injection h1 with h5 h6 h7
  subst h5
  exact h4 i hi
theorem new53 (w : World) : Calls Try.prog 13 #[.int .i64 5, .int .i64 3] w fun e w' => GrRet w.heap.size 5 3 newF w e w' := new_in 5 3 (by omega) (by omega) w
/-- The expression of a round, in block E. -/
def ExS (wo W : World) (E a k : Nat) (x : Int) : Prop := ∃ (op : Int) (oa : Option Addr) (cap : Nat), (op = 4 ∨ op = 5) ∧ W.cell? ⟨E, 0, none⟩ = some (.int .i64 op) ∧ W.cell? ⟨E, 1, none⟩ = some (.int .i64 0) ∧ W.cell? ⟨E, 2, none⟩ = some (.int .i64 0) ∧ W.cell? ⟨E, 3, none⟩ = some (.slice oa 2 cap) ∧
  exIn W (.mk op 0 0 [.mk 2 (a : Int) 0 [], .mk 1 0 x []]) (.agg #[.int .i64 op, .int .i64 0, .int .i64 0, .slice oa 2 cap]) ∧ sgn k x = (if op = 4 then x else -x) ∧ Below wo.heap.size wo W
/-- The head of GapShifts' loop. -/
def ShO (w wr : World) (q : Nat) (l : List Int) (k : Nat) (s9 s10 : Value) : Prop := ∃ (a b c : Nat) (R C : Nat → Nat) (Z : Nat → Nat → Int), s9 = .slice (some ⟨b, 0, none⟩) 5 c ∧ s10 = .int .i64 (a : Int) ∧ Gr wr 0 b 5 3 R C Z ∧ InvS Z a q (ssum l k) (knw l k) ∧ (k = 0 → ∀ i j, i < 5 → j < 3 → Z i j = newF i j) ∧ Below w.heap.size w wr
set_option maxRecDepth 100000 in
set_option maxHeartbeats 4000000 in
theorem shifts_walk (w : World) (p : Nat) (hp : p < 256) (l : List Int) (ol : Option Addr) (nl kl : Nat) (Ll : l.length = nl) (hl : kIn .i32 w l (.slice ol nl kl)) (hl32 : ∀ i, -2147483648 ≤ l.getD i 0 ∧ l.getD i 0 ≤ 2147483647) (t : List Int) (ot : Option Addr) (nt kt : Nat) (Lt : t.length = nt) (ht : kIn .u8 w t (.slice ot nt kt)) (ht8 : ∀ i, 0 ≤ t.getD i 0 ∧ t.getD i 0 ≤ 255) :
    Calls Try.prog 8 #[.int .u8 (p : Int), .slice ol nl kl, .slice ot nt kt] w fun e w' => e = .returned (.bool true) ∧ Below w.heap.size w w' := by
  obtain ⟨q, hq⟩ : ∃ q, p % 3 = q := ⟨_, rfl⟩
  have q3 : q < 3 := by omega
  have v1 : (p : Int) % 3 = (q : Int) := by omega
  have bdS := hidA (ssum_bd hl32)
  clear hq
  go_enter Try.func8, Try.ntmps8
  have HB := hidA (Below.refl w.heap.size w)
  go_upto_region 4 with ((go_at_call 9; refine (examples_any _).mono ?_; rintro e w1 ⟨rfl, hb⟩; have HB' := hidA (stepA HB.out hb); clear HB; have HB := HB'; clear HB' hb))
  go_wp2_with ((go_at_call 13; refine (new53 _).mono ?_; rintro e w2 ⟨b0, c0, R0, C0, rfl, hg, hb⟩; have HB' := hidA (stepA HB.out hb); clear HB; have HB := HB'; clear HB' hb))
  clear v1
  go_loopg [9, 10, 11, 12, 13] 20 (fun g s9 s10 s11 s12 s13 wr => ∃ k : Nat, k ≤ 20 ∧ k ≤ nl ∧ g = 20 - k ∧ s13 = .int .i64 k ∧ s11 = .int .i64 (ssum l k) ∧ s12 = .bool (knw l k) ∧ ShO w wr q l k s9 s10)
  case atStart => exact ⟨0, by omega, Nat.zero_le _, rfl, rfl, rfl, rfl, q, b0, c0, R0, C0, newF, rfl, rfl, hg.lo_le (Nat.zero_le _), InvS.start q3, fun _ _ _ _ _ => rfl, HB.out⟩
  case round =>
    clear hg HB
    obtain ⟨k, hk20, hkn, rfl, rfl, rfl, rfl, hO⟩ := hrel
    obtain ⟨wo, rfl⟩ : ∃ wo : World, wo = wr := ⟨_, rfl⟩
    obtain ⟨a, b, c, R, C, Z, rfl, rfl, hg, hI, h0, hB⟩ := hO
    have Hg := hidA hg
    have HI := hidA hI
    have H0 := hidA h0
    have HB := hidA hB
    have a5 := hI.lt
    clear hg hI h0 hB
    by_cases hlt : k < nl ∧ k < 20
    · obtain ⟨h1, h2⟩ := hlt
      have hkz : (k : Int) < (nl : Int) := by omega
      have hkz2 : (k : Int) < 20 := by omega
      obtain ⟨lb, off, rfl, x1⟩ := kIn_at (kIn_below HB.out hl) (i := k) (by omega)
      have x32 := hl32 k
      obtain ⟨x, hx⟩ : ∃ x, l.getD k 0 = x := ⟨_, rfl⟩
      rw [hx] at x1 x32
      have HX := hidA hx
      clear hx
      have lbw := World.block_lt_of_cell? _ _ x1
      go_upto_if 38 with (fail)
      go_cut [14] (fun s W => ∃ nx : Nat, nx < 5 ∧ s = .int .i64 (nx : Int) ∧ W = wo)
      case first =>
        clear x1
        by_cases hnt : 0 < nt
        · obtain ⟨r, hr⟩ : ∃ r, k % nt = r := ⟨_, rfl⟩
          have hrn : r < nt := by rw [← hr]; exact Nat.mod_lt _ hnt
          have hrz : (k : Int) % (nt : Int) = (r : Int) := by rw [← hr]; omega
          have hnz : ((nt : Int) == 0) = false := by simp; omega
          have hnz2 : ((nt : Int) != 0) = true := by simp; omega
          have hnz3 : ¬ (nt : Int) = 0 := by omega
          have hzt : (0 : Int) < (nt : Int) := by omega
          obtain ⟨tb, toff, rfl, y1⟩ := kIn_at (kIn_below HB.out ht) (i := r) (by omega)
          have y8 := ht8 r
          obtain ⟨u, hu⟩ : ∃ u, t.getD r 0 = u := ⟨_, rfl⟩
          rw [hu] at y1 y8
          obtain ⟨nx, hnx⟩ : ∃ nx : Nat, 3 + u % 2 = (nx : Int) := ⟨(3 + u % 2).toNat, by omega⟩
          have hn5 : nx < 5 := by omega
          clear hr hu
          go_wp2
          go_meet
          exact ⟨nx, hn5, rfl, rfl⟩
        · obtain rfl : nt = 0 := by omega
          clear hnt
          go_wp2
          go_meet
          exact ⟨3, by omega, rfl, rfl⟩
      case rest =>
        obtain ⟨nx, hn5, rfl, hW⟩ := hcut
        have hW2 := hW.symm
        clear hW
        subst hW2
        go_upto_region 16 with ((go_at_call 38; refine (plus_any (a : Int) x _).mono ?_; rintro e w3 ⟨oa, cap, rfl, hx, hb⟩; have HB3 := hidA hb; have HX3 := hidA hx; clear hx hb))
        obtain ⟨E, hE⟩ : ∃ d, w3.heap.size = d := ⟨_, rfl⟩
        obtain ⟨w4, hw4⟩ : ∃ w4, w3.alloc (.cells #[.int .i64 4, .int .i64 0, .int .i64 0, .slice oa 2 cap] 34) = w4 := ⟨_, rfl⟩
        have B4 : Below w3.heap.size w3 w4 := by rw [← hw4]; exact below_al _ _
        have z4 : E < w4.heap.size := by rw [← hw4, ← hE]; simp
        have HK4 : Hid (w4.heap[E]? = some (.cells #[.int .i64 4, .int .i64 0, .int .i64 0, .slice oa 2 cap] 34 (0, 0))) := hidA (by rw [← hw4, ← hE]; exact blk_alloc_new _ _)
        rw [hw4, hE]
        have HB4 := hidA (stepA HB3.out B4)
        have HX4 := hidA (HX3.out.below B4)
        have x4 := cellA HB4.out x1
        have lE : wo.heap.size ≤ E := by rw [← hE]; exact HB3.out.size
        clear hw4 hE B4 HX3 HB3 x1
        have sb := bdS.out k
        have sb1 : -42949672960 ≤ ssum l k := by omega
        have sb2 : ssum l k ≤ 42949672960 := by omega
        have HS : Hid (ssum l (k + 1) = ssum l k + sgn k x) := hidA (by rw [← HX.out]; rfl)
        clear sb
        go_upto_if 58 with (fail)
        go_cut [11] (fun s W => s = .int .i64 (ssum l (k + 1)) ∧ ExS wo W E a k x)
        case first =>
          by_cases hpar : k % 2 = 1
          · have hp2 : (k : Int) % 2 = 1 := by omega
            have HSG : Hid (sgn k x = -x) := hidA (by unfold sgn; rw [if_pos hpar])
            clear hpar
            go_wp2_with ((go_at_call 39; refine (minus_any (a : Int) x _).mono ?_; rintro e w5 ⟨oa5, cap5, rfl, hx, hb⟩; have HB5 := hidA hb; have HX5 := hidA hx; have x5 := cellA hb x4; have d5 := (hb.block E z4).trans HK4.out; have c0 := cell_of_row w5 E 0 _ _ _ d5; have c1 := cell_of_row w5 E 1 _ _ _ d5; have c2 := cell_of_row w5 E 2 _ _ _ d5; have c3 := cell_of_row w5 E 3 _ _ _ d5; have fr : ∀ i, w5.frozen? ⟨E, i, none⟩ = false := (fun i => by simp [World.frozen?, d5]); have neb : lb ≠ E := (by omega); clear hx hb d5))
            go_meet
            exact ⟨by rw [HS.out, HSG.out]; rfl, 5, oa5, cap5, .inr rfl, by simp [go_sem, c0, c1, c2, c3], by simp [go_sem, c0, c1, c2, c3], by simp [go_sem, c0, c1, c2, c3], by simp [go_sem, c0, c1, c2, c3], ((((HX5.out.set z4 _).set z4 _).set z4 _).set z4 _).ex 5 0 0, by rw [HSG.out]; rfl, (by repeat (first | with_reducible exact Below.refl _ _ | with_reducible exact (stepA HB4.out HB5.out) | with_reducible refine Below.setCell ?_ (by first | omega | (dsimp only; omega) | (simp; done) | (simp; omega)) _ | with_reducible refine Below.alloc ?_ (by first | omega | (dsimp only; omega) | (simp; done) | (simp; omega)) _ | with_reducible refine Below.drew ?_ | with_reducible refine drewnA ?_ _ | with_reducible refine Below.trans ?_ ((stepA HB4.out HB5.out).mono (by first | omega | (dsimp only; omega) | (simp; done) | (simp; omega)))))⟩
          · have hp2 : (k : Int) % 2 = 0 := by omega
            have HSG : Hid (sgn k x = x) := hidA (by unfold sgn; rw [if_neg hpar])
            clear hpar
            have c0 := cell_of_row w4 E 0 _ _ _ HK4.out
            have c1 := cell_of_row w4 E 1 _ _ _ HK4.out
            have c2 := cell_of_row w4 E 2 _ _ _ HK4.out
            have c3 := cell_of_row w4 E 3 _ _ _ HK4.out
            go_wp2
            go_meet
            exact ⟨by rw [HS.out, HSG.out], 4, oa, cap, .inl rfl, c0, c1, c2, c3, HX4.out.ex 4 0 0, by rw [HSG.out]; rfl, HB4.out⟩
        case rest =>
          obtain ⟨rfl, op, oe, ce, hop, y0, y1, y2, y3, hex, hsg, hbw⟩ := hcut
          have HG6 := hidA (Hg.out.belowA hbw)
          have HBw := hidA (stepA HB.out hbw)
          have HEX := hidA hex
          have HSGN := hidA hsg
          have HOP := hidA hop
          have dbd : -2147483648 ≤ sgn k x ∧ sgn k x ≤ 2147483648 := by unfold sgn; split <;> omega
          have DB := hidA dbd
          have HK : Hid (knw l (k + 1) = (knw l k && nearB (ssum l (k + 1)))) := hidA rfl
          have HI2 : Hid (InvS (setN 5 3 Z nx true true a (sgn k x)) nx q (ssum l (k + 1)) (knw l (k + 1))) := hidA (by have h := HI.out.step q3 dbd.1 dbd.2 hn5; rw [HK.out, HS.out]; exact h)
          clear x4 HK4 HB4 HX4 z4 hex hsg hop dbd hbw lE sb1 sb2
          generalize ssum l k = S0 at *
          obtain ⟨S1, hS1⟩ : ∃ S, ssum l (k + 1) = S := ⟨_, rfl⟩
          rw [hS1] at HS HK HI2 ⊢
          have HS1 := hidA hS1
          clear hS1
          obtain ⟨kb, hkb⟩ : ∃ kb, knw l k = kb := ⟨_, rfl⟩
          rw [hkb] at HK ⊢
          clear hkb
          cases kb
          · have HKN : Hid (knw l (k + 1) = false) := hidA (by rw [HK.out]; simp)
            go_wp2_with (first | (go_at_call 40; refine (most_any _).mono ?_; rintro e v1 ⟨rfl, rfl⟩) | ((go_at_call 15; refine (setP c HG6.out HI.out.ok op HOP.out a5 x32.1 x32.2 nx oe ce HEX.out HSGN.out).mono ?_; rintro e w6 ⟨b6, c6, R6, C6, rfl, hg6, hb6⟩; have HR6 := hidA hg6; have HB6 := hidA hb6; clear hg6 hb6)))
            go_roundg (20 - (k + 1))
            case rel => exact ⟨k + 1, by omega, by omega, rfl, by go_num, by rw [HS1.out], (by rw [HKN.out]; try (simp; omega)), nx, b6, c6, R6, C6, _, rfl, rfl, HR6.out.lo_le (Nat.zero_le _), (by rw [HS1.out]; exact HI2.out), fun h => absurd h (by omega), stepA HBw.out HB6.out⟩
            case measure => omega
          · by_cases g1 : -17179869184 ≤ S1
            · by_cases g2 : S1 ≤ 17179869184
              · have HKN : Hid (knw l (k + 1) = true) := hidA (by rw [HK.out]; simp [nearB, g1, g2])
                go_wp2_with (first | (go_at_call 40; refine (most_any _).mono ?_; rintro e v1 ⟨rfl, rfl⟩) | ((go_at_call 15; refine (setP c HG6.out HI.out.ok op HOP.out a5 x32.1 x32.2 nx oe ce HEX.out HSGN.out).mono ?_; rintro e w6 ⟨b6, c6, R6, C6, rfl, hg6, hb6⟩; have HR6 := hidA hg6; have HB6 := hidA hb6; clear hg6 hb6)))
                go_roundg (20 - (k + 1))
                case rel => exact ⟨k + 1, by omega, by omega, rfl, by go_num, by rw [HS1.out], (by rw [HKN.out]; try (simp; omega)), nx, b6, c6, R6, C6, _, rfl, rfl, HR6.out.lo_le (Nat.zero_le _), (by rw [HS1.out]; exact HI2.out), fun h => absurd h (by omega), stepA HBw.out HB6.out⟩
                case measure => omega
              · have HKN : Hid (knw l (k + 1) = false) := hidA (by rw [HK.out]; simp [nearB, g2])
                have g3 : 17179869184 < S1 := by omega
                clear g2
                go_wp2_with (first | (go_at_call 40; refine (most_any _).mono ?_; rintro e v1 ⟨rfl, rfl⟩) | ((go_at_call 15; refine (setP c HG6.out HI.out.ok op HOP.out a5 x32.1 x32.2 nx oe ce HEX.out HSGN.out).mono ?_; rintro e w6 ⟨b6, c6, R6, C6, rfl, hg6, hb6⟩; have HR6 := hidA hg6; have HB6 := hidA hb6; clear hg6 hb6)))
                go_roundg (20 - (k + 1))
                case rel => exact ⟨k + 1, by omega, by omega, rfl, by go_num, by rw [HS1.out], (by rw [HKN.out]; try (simp; omega)), nx, b6, c6, R6, C6, _, rfl, rfl, HR6.out.lo_le (Nat.zero_le _), (by rw [HS1.out]; exact HI2.out), fun h => absurd h (by omega), stepA HBw.out HB6.out⟩
                case measure => omega
            · have HKN : Hid (knw l (k + 1) = false) := hidA (by rw [HK.out]; simp [nearB, g1])
              have g3 : S1 < -17179869184 := by omega
              clear g1
              go_wp2_with (first | (go_at_call 40; refine (most_any _).mono ?_; rintro e v1 ⟨rfl, rfl⟩) | ((go_at_call 15; refine (setP c HG6.out HI.out.ok op HOP.out a5 x32.1 x32.2 nx oe ce HEX.out HSGN.out).mono ?_; rintro e w6 ⟨b6, c6, R6, C6, rfl, hg6, hb6⟩; have HR6 := hidA hg6; have HB6 := hidA hb6; clear hg6 hb6)))
              go_roundg (20 - (k + 1))
              case rel => exact ⟨k + 1, by omega, by omega, rfl, by go_num, by rw [HS1.out], (by rw [HKN.out]; try (simp; omega)), nx, b6, c6, R6, C6, _, rfl, rfl, HR6.out.lo_le (Nat.zero_le _), (by rw [HS1.out]; exact HI2.out), fun h => absurd h (by omega), stepA HBw.out HB6.out⟩
              case measure => omega
    · have HV : Hid (validB 5 3 Z 5 3 = true) := hidA (by unfold validB; rw [fineAll_yes (fun i hi j hj => HI.out.ok i j hi hj)]; rfl)
      by_cases h1 : k < nl
      · obtain rfl : k = 20 := by omega
        have hkz : (20 : Int) < (nl : Int) := by omega
        have hn0 : ((nl : Int) == 0) = false := by simp; omega
        clear hlt h1
        clear H0
        generalize hS : ssum l 20 = S0 at *
        have HSS := hidA hS
        clear hS
        obtain ⟨kb, hkb⟩ : ∃ kb, knw l 20 = kb := ⟨_, rfl⟩
        rw [hkb] at HI ⊢
        clear hkb
        cases kb
        · have BJQ : Hid (boundF 5 3 Z (a : Int) (q : Int) = 1099511627776) := hidA (by rw [boundF_in Z a5 q3, HI.out.own]; simp)
          go_upto_region 29 with (fail)
          go_loopg [17] 3 (fun g i wr => ∃ j : Nat, j ≤ 3 ∧ g = 3 - j ∧ i = .int .i64 j ∧ wr = wo)
          case atStart => exact ⟨0, Nat.zero_le _, rfl, rfl, rfl⟩
          case round =>
            obtain ⟨j, hj, rfl, rfl, hw⟩ := hrel
            subst hw
            by_cases hj3 : j < 3
            · have hjz : (j : Int) < 3 := by omega
              by_cases hjq : j = q
              · have f1 : ((j : Int) == (q : Int)) = true := by simp; omega
                have f2 : ((j : Int) != (q : Int)) = false := by simp; omega
                clear hjq
                go_wp2
                go_roundg (3 - (j + 1))
                case rel => exact ⟨j + 1, by omega, rfl, by go_num, rfl⟩
                case measure => omega
              · have f1 : ((j : Int) == (q : Int)) = false := by simp; omega
                have f2 : ((j : Int) != (q : Int)) = true := by simp; omega
                have BJ := hidA (bound_r (r := 1099511627776) c Hg.out (a : Int) (j : Int) (by omega) (by omega) (by rw [boundF_in Z a5 hj3]; exact HI.out.oth j hj3 hjq))
                clear hjq
                go_wp2_with ((go_at_call 25; (with_reducible refine (BJ.out).mono ?_); rintro e v1 ⟨rfl, rfl⟩))
                go_roundg (3 - (j + 1))
                case rel => exact ⟨j + 1, by omega, rfl, by go_num, rfl⟩
                case measure => omega
            · obtain rfl : j = 3 := by omega
              have BJ := hidA (bound_r c Hg.out (a : Int) (q : Int) (by omega) (by omega) BJQ.out)
              have VV := hidA (valid_r c Hg.out 5 3 (by omega) (by omega) HV.out)
              go_wp2_with (first | ((go_at_call 25; (with_reducible refine (BJ.out).mono ?_); rintro e v1 ⟨rfl, rfl⟩)) | ((go_at_call 28; (with_reducible refine (VV.out).mono ?_); rintro e v1 ⟨rfl, rfl⟩)))
              go_ret
              exact ⟨rfl, HB.out⟩
        · have BJQ : Hid (boundF 5 3 Z (a : Int) (q : Int) = S0) := hidA (by rw [boundF_in Z a5 q3, HI.out.own]; simp)
          go_upto_region 29 with (fail)
          go_loopg [17] 3 (fun g i wr => ∃ j : Nat, j ≤ 3 ∧ g = 3 - j ∧ i = .int .i64 j ∧ wr = wo)
          case atStart => exact ⟨0, Nat.zero_le _, rfl, rfl, rfl⟩
          case round =>
            obtain ⟨j, hj, rfl, rfl, hw⟩ := hrel
            subst hw
            by_cases hj3 : j < 3
            · have hjz : (j : Int) < 3 := by omega
              by_cases hjq : j = q
              · have f1 : ((j : Int) == (q : Int)) = true := by simp; omega
                have f2 : ((j : Int) != (q : Int)) = false := by simp; omega
                clear hjq
                go_wp2
                go_roundg (3 - (j + 1))
                case rel => exact ⟨j + 1, by omega, rfl, by go_num, rfl⟩
                case measure => omega
              · have f1 : ((j : Int) == (q : Int)) = false := by simp; omega
                have f2 : ((j : Int) != (q : Int)) = true := by simp; omega
                have BJ := hidA (bound_r (r := 1099511627776) c Hg.out (a : Int) (j : Int) (by omega) (by omega) (by rw [boundF_in Z a5 hj3]; exact HI.out.oth j hj3 hjq))
                clear hjq
                go_wp2_with ((go_at_call 25; (with_reducible refine (BJ.out).mono ?_); rintro e v1 ⟨rfl, rfl⟩))
                go_roundg (3 - (j + 1))
                case rel => exact ⟨j + 1, by omega, rfl, by go_num, rfl⟩
                case measure => omega
            · obtain rfl : j = 3 := by omega
              have BJ := hidA (bound_r c Hg.out (a : Int) (q : Int) (by omega) (by omega) BJQ.out)
              have VV := hidA (valid_r c Hg.out 5 3 (by omega) (by omega) HV.out)
              go_wp2_with (first | ((go_at_call 25; (with_reducible refine (BJ.out).mono ?_); rintro e v1 ⟨rfl, rfl⟩)) | ((go_at_call 28; (with_reducible refine (VV.out).mono ?_); rintro e v1 ⟨rfl, rfl⟩)))
              go_ret
              exact ⟨rfl, HB.out⟩
      · obtain rfl : k = nl := by omega
        clear hlt h1
        by_cases hz : k = 0
        · subst hz
          have HN := H0.out rfl
          go_wp2_with (first
            | ((go_at_call 13; refine (new53 _).mono ?_; rintro e w7 ⟨b7, c7, R7, C7, rfl, hg7, hb7⟩; have HR7 := hidA hg7; have HG7 := hidA (Hg.out.belowA hb7); have HB7 := hidA (stepA HB.out hb7); clear hg7 hb7))
            | ((go_at_call 12; refine (same_r c HG7.out c7 HR7.out (by omega) (by omega) (sameB_yes fun i hi j hj => HN i j hi hj)).mono ?_; rintro e w8 ⟨rfl, hb8⟩; have HB8 := hidA (stepA HB7.out hb8); clear hb8)))
          go_ret
          exact ⟨rfl, HB8.out⟩
        · have hn0 : ((k : Int) == 0) = false := by simp; omega
          clear hz
          clear H0
          generalize hS : ssum l k = S0 at *
          have HSS := hidA hS
          clear hS
          obtain ⟨kb, hkb⟩ : ∃ kb, knw l k = kb := ⟨_, rfl⟩
          rw [hkb] at HI ⊢
          clear hkb
          cases kb
          · have BJQ : Hid (boundF 5 3 Z (a : Int) (q : Int) = 1099511627776) := hidA (by rw [boundF_in Z a5 q3, HI.out.own]; simp)
            go_upto_region 29 with (fail)
            go_loopg [17] 3 (fun g i wr => ∃ j : Nat, j ≤ 3 ∧ g = 3 - j ∧ i = .int .i64 j ∧ wr = wo)
            case atStart => exact ⟨0, Nat.zero_le _, rfl, rfl, rfl⟩
            case round =>
              obtain ⟨j, hj, rfl, rfl, hw⟩ := hrel
              subst hw
              by_cases hj3 : j < 3
              · have hjz : (j : Int) < 3 := by omega
                by_cases hjq : j = q
                · have f1 : ((j : Int) == (q : Int)) = true := by simp; omega
                  have f2 : ((j : Int) != (q : Int)) = false := by simp; omega
                  clear hjq
                  go_wp2
                  go_roundg (3 - (j + 1))
                  case rel => exact ⟨j + 1, by omega, rfl, by go_num, rfl⟩
                  case measure => omega
                · have f1 : ((j : Int) == (q : Int)) = false := by simp; omega
                  have f2 : ((j : Int) != (q : Int)) = true := by simp; omega
                  have BJ := hidA (bound_r (r := 1099511627776) c Hg.out (a : Int) (j : Int) (by omega) (by omega) (by rw [boundF_in Z a5 hj3]; exact HI.out.oth j hj3 hjq))
                  clear hjq
                  go_wp2_with ((go_at_call 25; (with_reducible refine (BJ.out).mono ?_); rintro e v1 ⟨rfl, rfl⟩))
                  go_roundg (3 - (j + 1))
                  case rel => exact ⟨j + 1, by omega, rfl, by go_num, rfl⟩
                  case measure => omega
              · obtain rfl : j = 3 := by omega
                have BJ := hidA (bound_r c Hg.out (a : Int) (q : Int) (by omega) (by omega) BJQ.out)
                have VV := hidA (valid_r c Hg.out 5 3 (by omega) (by omega) HV.out)
                go_wp2_with (first | ((go_at_call 25; (with_reducible refine (BJ.out).mono ?_); rintro e v1 ⟨rfl, rfl⟩)) | ((go_at_call 28; (with_reducible refine (VV.out).mono ?_); rintro e v1 ⟨rfl, rfl⟩)))
                go_ret
                exact ⟨rfl, HB.out⟩
          · have BJQ : Hid (boundF 5 3 Z (a : Int) (q : Int) = S0) := hidA (by rw [boundF_in Z a5 q3, HI.out.own]; simp)
            go_upto_region 29 with (fail)
            go_loopg [17] 3 (fun g i wr => ∃ j : Nat, j ≤ 3 ∧ g = 3 - j ∧ i = .int .i64 j ∧ wr = wo)
            case atStart => exact ⟨0, Nat.zero_le _, rfl, rfl, rfl⟩
            case round =>
              obtain ⟨j, hj, rfl, rfl, hw⟩ := hrel
              subst hw
              by_cases hj3 : j < 3
              · have hjz : (j : Int) < 3 := by omega
                by_cases hjq : j = q
                · have f1 : ((j : Int) == (q : Int)) = true := by simp; omega
                  have f2 : ((j : Int) != (q : Int)) = false := by simp; omega
                  clear hjq
                  go_wp2
                  go_roundg (3 - (j + 1))
                  case rel => exact ⟨j + 1, by omega, rfl, by go_num, rfl⟩
                  case measure => omega
                · have f1 : ((j : Int) == (q : Int)) = false := by simp; omega
                  have f2 : ((j : Int) != (q : Int)) = true := by simp; omega
                  have BJ := hidA (bound_r (r := 1099511627776) c Hg.out (a : Int) (j : Int) (by omega) (by omega) (by rw [boundF_in Z a5 hj3]; exact HI.out.oth j hj3 hjq))
                  clear hjq
                  go_wp2_with ((go_at_call 25; (with_reducible refine (BJ.out).mono ?_); rintro e v1 ⟨rfl, rfl⟩))
                  go_roundg (3 - (j + 1))
                  case rel => exact ⟨j + 1, by omega, rfl, by go_num, rfl⟩
                  case measure => omega
              · obtain rfl : j = 3 := by omega
                have BJ := hidA (bound_r c Hg.out (a : Int) (q : Int) (by omega) (by omega) BJQ.out)
                have VV := hidA (valid_r c Hg.out 5 3 (by omega) (by omega) HV.out)
                go_wp2_with (first | ((go_at_call 25; (with_reducible refine (BJ.out).mono ?_); rintro e v1 ⟨rfl, rfl⟩)) | ((go_at_call 28; (with_reducible refine (VV.out).mono ?_); rintro e v1 ⟨rfl, rfl⟩)))
                go_ret
                exact ⟨rfl, HB.out⟩
end Go.Proofs.Ytpfcfaakdhamlaa

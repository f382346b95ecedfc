
import Derived.Test.YtffcnkkgbhhfnaaGreatDoorRv
import Derived.Test.YtffcnkkgbhhfnaaGreatDoorShelf
import Derived.Shelf.Spec.BitsCarry
import Derived.Deep.QuietTactic
import Derived.BigQuiet
import Derived.Carry
namespace Go.Proofs.YtffcnkkgbhhfnaaGreatDoor
open Go.RowKit Go.Instr
set_option linter.unusedVariables false

/-! The methods of 'rat.wide': numbers of 128 bits. -/
theorem below_step {w w1 w2 : World} (h : Below w.heap.size w w1) (k : Below w1.heap.size w1 w2) : Below w.heap.size w w2 := h.trans (k.mono h.size)
theorem cell_below {w w' : World} (h : Below w.heap.size w w') {a : Addr} {x : Value} (hc : w.cell? a = some x) : w'.cell? a = some x :=
  (h.cell (World.block_lt_of_cell? w a hc)).trans hc

theorem add64_run (x y c : Int) (hx : 0 ≤ x) (hy : 0 ≤ y) (h0 : 0 ≤ c) (h1 : c ≤ 1) (w : World) :
    (callFunc 64 #[.int .u64 x, .int .u64 y, .int .u64 c]).run Tryz.prog w =
      .ok (.value (.tuple #[.int .u64 ((x + y + c) % 18446744073709551616), .int .u64 ((x + y + c) / 18446744073709551616)])) w := by
  rw [run_callFunc_extern Tryz.func64 (by kernel_rfl) (by kernel_rfl) (by kernel_rfl) (e := add64Entry) (by kernel_rfl), run_add64 x y c hx hy h0 h1]
  rfl
theorem sub64_run (y b : Int) (hy : 0 ≤ y) (h0 : 0 ≤ b) (h1 : b ≤ 1) (hy2 : y < 18446744073709551616) (w : World) :
    (callFunc 77 #[.int .u64 0, .int .u64 y, .int .u64 b]).run Tryz.prog w =
      .ok (.value (.tuple #[.int .u64 ((0 + 18446744073709551616 - y - b) % 18446744073709551616), .int .u64 (if 0 < y + b then 1 else 0)])) w := by
  obtain ⟨Y, rfl⟩ := Int.eq_ofNat_of_zero_le hy
  obtain ⟨B, rfl⟩ := Int.eq_ofNat_of_zero_le h0
  have h := run_sub64 (P := Tryz.prog) 0 Y B (by omega) w
  rw [run_callFunc_extern Tryz.func77 (by kernel_rfl) (by kernel_rfl) (by kernel_rfl) (e := sub64Entry) (by kernel_rfl)]
  rw [show (#[Value.int .u64 0, .int .u64 (Y : Int), .int .u64 (B : Int)] : Array Value) = #[.int .u64 ((0 : Nat) : Int), .int .u64 (Y : Int), .int .u64 (B : Int)] from rfl, h]
  have e1 : (((0 + 18446744073709551616 - Y - B) % 18446744073709551616 : Nat) : Int) = (0 + 18446744073709551616 - (Y : Int) - B) % 18446744073709551616 := by omega
  have e2 : ((if 0 < Y + B then 1 else 0 : Nat) : Int) = (if 0 < (Y : Int) + B then 1 else 0) := by split <;> split <;> omega
  rw [e1, e2]
  rfl
theorem ret_b {a b : Bool} (h : a = b) : Ending.returned (.bool a) = .returned (.bool b) := by rw [h]

set_option maxHeartbeats 1000000 in
theorem plus_any (v u : Int) (w : World) :
    Calls Tryz.prog 50 #[.agg #[.int .u64 (hiW v), .int .u64 (loW v)], .agg #[.int .u64 (hiW u), .int .u64 (loW u)]] w fun e w' =>
      e = .returned (.agg #[.int .u64 (hiW (v + u)), .int .u64 (loW (v + u))]) ∧ Below w.heap.size w w' := by
  have b1 := loW_bd v
  have b2 := loW_bd u
  have b3 := hiW_bd v
  have b4 := hiW_bd u
  have a1 := add64_run (loW v) (loW u) 0 b1.1 b2.1 (by omega) (by omega)
  have a2 := add64_run (hiW v) (hiW u) ((loW v + loW u) / 18446744073709551616) b3.1 b4.1 (by omega) (by omega)
  rw [Int.add_zero, plus_lo] at a1
  rw [plus_hi] at a2
  generalize (loW v + loW u) / 18446744073709551616 = k at *
  generalize (hiW v + hiW u + k) / 18446744073709551616 = k2 at *
  clear b1 b2 b3 b4
  go_enter Tryz.func50, Tryz.ntmps50
  go_wp2
  exact bodyPost_ret (v := .agg #[.int .u64 (hiW (v + u)), .int .u64 (loW (v + u))]) (by simp [results, Tryz.results50, go_sem]) rfl
    ⟨rfl, ((((Below.refl _ _).alloc (Nat.le_refl _) _).alloc (by simp) _).alloc (by simp; omega) _)⟩

set_option maxHeartbeats 1000000 in
theorem minus_any (v : Int) (w : World) :
    Calls Tryz.prog 68 #[.agg #[.int .u64 (hiW v), .int .u64 (loW v)]] w fun e w' =>
      e = .returned (.agg #[.int .u64 (hiW (-v)), .int .u64 (loW (-v))]) ∧ Below w.heap.size w w' := by
  have b1 := loW_bd v
  have b3 := hiW_bd v
  have a1 := sub64_run (loW v) 0 b1.1 (by omega) (by omega) b1.2
  have a2 := sub64_run (hiW v) (if 0 < loW v then 1 else 0) b3.1 (by split <;> omega) (by split <;> omega) b3.2
  rw [Int.add_zero, minus_lo] at a1
  rw [minus_hi] at a2
  generalize (if 0 < loW v then (1 : Int) else 0) = k at *
  generalize (if 0 < hiW v + k then (1 : Int) else 0) = k2 at *
  clear b1 b3
  go_enter Tryz.func68, Tryz.ntmps68
  go_wp2
  exact bodyPost_ret (v := .agg #[.int .u64 (hiW (-v)), .int .u64 (loW (-v))]) (by simp [results, Tryz.results68, go_sem]) rfl
    ⟨rfl, (((Below.refl _ _).alloc (Nat.le_refl _) _).alloc (by simp) _)⟩

set_option maxHeartbeats 1000000 in
theorem negative_any (v : Int) (h : Fit128 v) (w : World) :
    Calls Tryz.prog 67 #[.agg #[.int .u64 (hiW v), .int .u64 (loW v)]] w fun e w' =>
      e = .returned (.bool (decide (v < 0))) ∧ Below w.heap.size w w' := by
  have b3 := hiW_bd v
  have hn := neg_iff v h
  go_enter Tryz.func67, Tryz.ntmps67
  go_wp2
  go_ret
  refine ⟨ret_b ?_, (Below.refl _ _).alloc (Nat.le_refl _) _⟩
  rw [decide_eq_decide]; unfold wrap64; omega
set_option maxHeartbeats 1000000 in
theorem less_any (v u : Int) (hv : Fit128 v) (hu : Fit128 u) (w : World) :
    Calls Tryz.prog 44 #[.agg #[.int .u64 (hiW v), .int .u64 (loW v)], .agg #[.int .u64 (hiW u), .int .u64 (loW u)]] w fun e w' =>
      e = .returned (.bool (decide (v < u))) ∧ Below w.heap.size w w' := by
  have b1 := hiW_bd v
  have b2 := hiW_bd u
  by_cases e : hiW v = hiW u
  · go_enter Tryz.func44, Tryz.ntmps44
    go_wp2
    go_ret
    refine ⟨ret_b ?_, ((Below.refl _ _).alloc (Nat.le_refl _) _).alloc (by simp) _⟩
    exact decide_eq_decide.2 (less_iff v u hv hu e)
  · go_enter Tryz.func44, Tryz.ntmps44
    go_wp2
    go_ret
    refine ⟨ret_b ?_, ((Below.refl _ _).alloc (Nat.le_refl _) _).alloc (by simp) _⟩
    rw [decide_eq_decide]; have := less_hi v u hv hu e; unfold wrap64; omega

theorem bcell {W w1 : World} (hb : Below W.heap.size W w1) : (∀ b o, b < W.heap.size → w1.cell? ⟨b, o, none⟩ = W.cell? ⟨b, o, none⟩) ∧ (∀ b o, b < W.heap.size → w1.frozen? ⟨b, o, none⟩ = W.frozen? ⟨b, o, none⟩) :=
  ⟨fun b o h => hb.cell (p := ⟨b, o, none⟩) h, fun b o h => hb.frozen (p := ⟨b, o, none⟩) h⟩

set_option maxHeartbeats 1000000 in
theorem mag_neg (v : Int) (h : Fit128 v) (hv : v < 0) (w : World) :
    Calls Tryz.prog 65 #[.agg #[.int .u64 (hiW (v)), .int .u64 (loW (v))]] w fun e w' =>
      e = .returned (.agg #[.int .u64 (hiW (-v)), .int .u64 (loW (-v))]) ∧ Below w.heap.size w w' := by
  have n := fun w => negative_any v h w
  rw [show decide (v < 0) = true by simpa using hv] at n
  have N := hid n; clear n
  go_enter Tryz.func65, Tryz.ntmps65
  go_wp2_with fail
  refine (N.out _).mono ?_
  rintro e w1 ⟨rfl, hb⟩
  obtain ⟨hc, hf⟩ := bcell hb
  have hz : w.heap.size + 1 < w1.heap.size := by have := hb.size; simp at this; omega
  have H := hid hb
  clear hb
  go_wp2_with fail
  refine (minus_any v _).mono ?_
  rintro e w2 ⟨rfl, hb⟩
  obtain ⟨hc2, hf2⟩ := bcell hb
  have H2 := hid (hb.mono H.out.size)
  clear hb
  go_wp2
  exact bodyPost_ret (v := .agg #[.int .u64 (hiW (-v)), .int .u64 (loW (-v))]) (by simp [results, Tryz.results65, hc, hc2, hz, go_sem]) rfl
    ⟨rfl, (((((((Below.refl _ _).alloc (by first | exact Nat.le_refl _ | (simp; done) | (simp; omega) | omega | (simp [World.drewN]; omega)) _).alloc (by first | exact Nat.le_refl _ | (simp; done) | (simp; omega) | omega | (simp [World.drewN]; omega)) _).trans (H.out.mono (by first | exact Nat.le_refl _ | (simp; done) | (simp; omega) | omega | (simp [World.drewN]; omega)))).trans (H2.out.mono (by first | exact Nat.le_refl _ | (simp; done) | (simp; omega) | omega | (simp [World.drewN]; omega)))).setCell (by first | exact Nat.le_refl _ | (simp; done) | (simp; omega) | omega | (simp [World.drewN]; omega)) _).setCell (by first | exact Nat.le_refl _ | (simp; done) | (simp; omega) | omega | (simp [World.drewN]; omega)) _)⟩

set_option maxHeartbeats 1000000 in
theorem mag_pos (v : Int) (h : Fit128 v) (hv : 0 ≤ v) (w : World) :
    Calls Tryz.prog 65 #[.agg #[.int .u64 (hiW (v)), .int .u64 (loW (v))]] w fun e w' =>
      e = .returned (.agg #[.int .u64 (hiW (v)), .int .u64 (loW (v))]) ∧ Below w.heap.size w w' := by
  have n := fun w => negative_any v h w
  rw [show decide (v < 0) = false by simp; omega] at n
  have N := hid n; clear n
  go_enter Tryz.func65, Tryz.ntmps65
  go_wp2_with fail
  refine (N.out _).mono ?_
  rintro e w1 ⟨rfl, hb⟩
  obtain ⟨hc, hf⟩ := bcell hb
  have hz : w.heap.size + 1 < w1.heap.size := by have := hb.size; simp at this; omega
  have H := hid hb
  clear hb
  go_wp2
  exact bodyPost_ret (v := .agg #[.int .u64 (hiW (v)), .int .u64 (loW (v))]) (by simp [results, Tryz.results65, hc, go_sem]) rfl
    ⟨rfl, ((((((Below.refl _ _).alloc (by first | exact Nat.le_refl _ | (simp; done) | (simp; omega) | omega | (simp [World.drewN]; omega)) _).alloc (by first | exact Nat.le_refl _ | (simp; done) | (simp; omega) | omega | (simp [World.drewN]; omega)) _).trans (H.out.mono (by first | exact Nat.le_refl _ | (simp; done) | (simp; omega) | omega | (simp [World.drewN]; omega)))).setCell (by first | exact Nat.le_refl _ | (simp; done) | (simp; omega) | omega | (simp [World.drewN]; omega)) _).setCell (by first | exact Nat.le_refl _ | (simp; done) | (simp; omega) | omega | (simp [World.drewN]; omega)) _)⟩

theorem mag_any (v : Int) (h : Fit128 v) (w : World) :
    Calls Tryz.prog 65 #[.agg #[.int .u64 (hiW (v)), .int .u64 (loW (v))]] w fun e w' =>
      e = .returned (.agg #[.int .u64 (hiW ((v.natAbs : Int))), .int .u64 (loW ((v.natAbs : Int)))]) ∧ Below w.heap.size w w' := by
  by_cases hv : v < 0
  · rw [show ((v.natAbs : Int)) = -v by omega]; exact mag_neg v h hv w
  · rw [show ((v.natAbs : Int)) = v by omega]; exact mag_pos v h (by omega) w

set_option maxHeartbeats 1000000 in
theorem within_any (v : Int) (n : Int) (h : Fit128 v) (hn : n < 18446744073709551616) (w : World) :
    Calls Tryz.prog 70 #[.agg #[.int .u64 (hiW (v)), .int .u64 (loW (v))], .int .u64 n] w fun e w' =>
      e = .returned (.bool (decide ((v.natAbs : Int) ≤ n))) ∧ Below w.heap.size w w' := by
  have hi := within_iff (v.natAbs : Int) n (by omega) (by unfold Fit128 at h; omega) hn
  have M := hid (fun w => mag_any v h w)
  have hb := hiW_bd (v.natAbs : Int)
  have hl := loW_bd (v.natAbs : Int)
  generalize (v.natAbs : Int) = m at *
  generalize hiW m = a at *
  generalize loW m = b at *
  by_cases h0 : a = 0
  · subst h0
    have hi2 : decide (b ≤ n) = decide (m ≤ n) := by rw [decide_eq_decide, ← hi]; simp
    have HI := hid hi2
    clear hi hi2 hb hl
    go_enter Tryz.func70, Tryz.ntmps70
    go_wp2_with fail
    refine (M.out _).mono ?_
    rintro e w1 ⟨rfl, hb⟩
    have hz : w.heap.size < w1.heap.size := by have := hb.size; simp at this; omega
    have H := hid hb
    clear hb
    go_wp2
    go_ret
    exact ⟨ret_b HI.out, ((((Below.refl _ _).alloc (by first | exact Nat.le_refl _ | (simp; done) | (simp; omega) | omega | (simp [World.drewN]; omega)) _).trans (H.out.mono (by first | exact Nat.le_refl _ | (simp; done) | (simp; omega) | omega | (simp [World.drewN]; omega)))).alloc (by first | exact Nat.le_refl _ | (simp; done) | (simp; omega) | omega | (simp [World.drewN]; omega)) _)⟩
  · have h1 : (a == 0) = false := by simpa using h0
    have hi2 : false = decide (m ≤ n) := by symm; rw [decide_eq_false_iff_not, ← hi]; simp [h0]
    have HI := hid hi2
    clear hi hi2 hb hl
    go_enter Tryz.func70, Tryz.ntmps70
    go_wp2_with fail
    refine (M.out _).mono ?_
    rintro e w1 ⟨rfl, hb⟩
    have hz : w.heap.size < w1.heap.size := by have := hb.size; simp at this; omega
    have H := hid hb
    clear hb
    go_wp2
    go_ret
    exact ⟨ret_b HI.out, ((((Below.refl _ _).alloc (by first | exact Nat.le_refl _ | (simp; done) | (simp; omega) | omega | (simp [World.drewN]; omega)) _).trans (H.out.mono (by first | exact Nat.le_refl _ | (simp; done) | (simp; omega) | omega | (simp [World.drewN]; omega)))).alloc (by first | exact Nat.le_refl _ | (simp; done) | (simp; omega) | omega | (simp [World.drewN]; omega)) _)⟩

theorem div64_any (hi lo y : Nat) (hy : hi < y) (hy2 : y < 18446744073709551616) (hlo : lo < 18446744073709551616) (w : World) :
    Calls Tryz.prog 66 #[.int .u64 ((hi : Nat) : Int), .int .u64 (lo : Int), .int .u64 (y : Int)] w fun e w' =>
      e = .returned (.tuple #[.int .u64 (((hi * 18446744073709551616 + lo) / y : Nat) : Int), .int .u64 (((hi * 18446744073709551616 + lo) % y : Nat) : Int)]) ∧ ∃ k, w' = w.drewN k := by
  rcases Nat.eq_zero_or_pos hi with rfl | h0
  · rw [Nat.zero_mul, Nat.zero_add]; exact div64_zero lo y hy hy2 hlo w
  · exact div64_big hi lo y h0 hy hy2 hlo w (fun x w h0 h1 => Tryz.bits_LeadingZeros64 x w h0 h1)

theorem below_drewN {B : Nat} {a w : World} (h : Below B a w) (n : Nat) : Below B a (w.drewN n) := ⟨h.os, h.tape, h.output, h.size, h.block⟩
set_option maxHeartbeats 2000000 in
theorem over_neg (v : Int) (n : Nat) (h : Fit128 v) (hv : v < 0) (hn0 : 0 < n) (hn : n < 18446744073709551616) (w : World) :
    Calls Tryz.prog 51 #[.agg #[.int .u64 (hiW (v)), .int .u64 (loW (v))], .int .u64 (n : Int)] w fun e w' =>
      e = .returned (.agg #[.int .u64 (hiW (-((v.natAbs / n : Nat) : Int))), .int .u64 (loW (-((v.natAbs / n : Nat) : Int)))]) ∧ Below w.heap.size w w' := by
  have M := hid (fun w => mag_any v h w)
  have n0 := fun w => negative_any v h w
  rw [show decide (v < 0) = true by simp; omega] at n0
  have N := hid n0; clear n0
  obtain ⟨m, hm⟩ : ∃ m, v.natAbs = m := ⟨_, rfl⟩
  have hm2 : m < 170141183460469231731687303715884105729 := by unfold Fit128 at h; omega
  obtain ⟨a, ha⟩ : ∃ a, m / 18446744073709551616 = a := ⟨_, rfl⟩
  obtain ⟨b, hb⟩ : ∃ b, m % 18446744073709551616 = b := ⟨_, rfl⟩
  have ea : hiW (m : Int) = (a : Int) := by unfold hiW; omega
  have eb : loW (m : Int) = (b : Int) := by unfold loW; omega
  obtain ⟨o1, o2⟩ := over_lo m n hn0
  rw [ha, hb] at o1
  rw [ha] at o2
  have DV := hid (fun w => div64_any (a % n) b n (Nat.mod_lt _ hn0) hn (by omega) w)
  rw [hm] at M
  rw [ea, eb] at M
  obtain ⟨q, hq⟩ : ∃ q, m / n = q := ⟨_, rfl⟩
  rw [o1, hq] at DV
  rw [hm, hq]
  obtain ⟨ar, har⟩ : ∃ r, a % n = r := ⟨_, rfl⟩
  obtain ⟨aq, haq⟩ : ∃ r, a / n = r := ⟨_, rfl⟩
  have x1 : (a : Int) % (n : Int) = (ar : Int) := by rw [← har, Int.natCast_emod]
  have x2 : IntKind.u64.wrap ((a : Int) / (n : Int)) = (aq : Int) := by
    rw [← Int.natCast_ediv, haq]
    refine wrapU_lt _ ?_
    have := Nat.div_le_self a n
    omega
  have x3 : ¬ (n : Int) = 0 := by omega
  have x4 : ((n : Int) == 0) = false := by simpa using x3
  have x5 : ¬ n = 0 := by omega
  rw [har] at DV
  have y1 : (aq : Int) = hiW (q : Int) := by
    rw [haq, hq] at o2
    unfold hiW
    have : q ≤ m := by rw [← hq]; exact Nat.div_le_self m n
    omega
  have y2 : ((q % 18446744073709551616 : Nat) : Int) = loW (q : Int) := by unfold loW; omega
  rw [y1] at x2
  rw [y2] at DV
  generalize ((ar * 18446744073709551616 + b) % n : Nat) = rm at *
  have X3 := hid x3
  clear o1 o2 hm hm2 ha hb ea eb hq har haq y1 y2 h hv
  go_enter Tryz.func51, Tryz.ntmps51
  go_wp2_with fail
  refine (M.out _).mono ?_
  rintro e w1 ⟨rfl, hb⟩
  have hz : w.heap.size + 1 < w1.heap.size := by have := hb.size; simp at this; omega
  have PK : ∀ W, Below w1.heap.size w1 W → (W.cell? ⟨w.heap.size, 0, none⟩ = some (.int .u64 (hiW v)) ∧ W.cell? ⟨w.heap.size, 1, none⟩ = some (.int .u64 (loW v))) ∧
      (W.cell? ⟨w.heap.size + 1, 0, none⟩ = some (.int .u64 0) ∧ W.cell? ⟨w.heap.size + 1, 1, none⟩ = some (.int .u64 0)) ∧
      (W.frozen? ⟨w.heap.size + 1, 0, none⟩ = false ∧ W.frozen? ⟨w.heap.size + 1, 1, none⟩ = false) ∧ w1.heap.size ≤ W.heap.size := by
    intro W hW
    have f0 := hb.frozen (p := ⟨w.heap.size + 1, 0, none⟩) (by simp)
    have f1 := hb.frozen (p := ⟨w.heap.size + 1, 1, none⟩) (by simp)
    refine ⟨⟨cell_below hW (cell_below hb (by simp [go_sem])), cell_below hW (cell_below hb (by simp [go_sem]))⟩,
      ⟨cell_below hW (cell_below hb (by simp [go_sem])), cell_below hW (cell_below hb (by simp [go_sem]))⟩, ⟨?_, ?_⟩, hW.size⟩
    · rw [hW.frozen (p := ⟨w.heap.size + 1, 0, none⟩) (by simp; omega), f0]; simp [go_sem]
    · rw [hW.frozen (p := ⟨w.heap.size + 1, 1, none⟩) (by simp; omega), f1]; simp [go_sem]
  have kk := fun o1 n o2 => below_drewN ((Below.refl w1.heap.size w1).alloc (Nat.le_refl _) o1) n |>.alloc (show w1.heap.size ≤ ((w1.alloc o1).drewN n).heap.size by simp [World.drewN]) o2
  have k0 := fun o1 n o2 => (PK _ (kk o1 n o2)).1.1
  have k1 := fun o1 n o2 => (PK _ (kk o1 n o2)).1.2
  have k2 := fun o1 n o2 => (PK _ (kk o1 n o2)).2.1.1
  have k3 := fun o1 n o2 => (PK _ (kk o1 n o2)).2.1.2
  have k4 := fun o1 n o2 => (PK _ (kk o1 n o2)).2.2.1.1
  have k5 := fun o1 n o2 => (PK _ (kk o1 n o2)).2.2.1.2
  have PK' := hid PK
  have KK := hid kk
  clear PK kk
  have H := hid hb
  clear hb
  go_wp2_with fail
  go_quiet ((go_at_call 66; exact Calls.quiet_of (DV.out _)))
  go_wp2_with fail
  refine (N.out _).mono ?_
  rintro e w2 ⟨rfl, hb⟩
  obtain ⟨⟨a0, a1⟩, ⟨a2, a3⟩, ⟨a4, a5⟩, -⟩ := PK'.out w2 ((KK.out _ _ _).trans (hb.mono (by simp [World.drewN]; omega)))
  have a6 : w2.cell? ⟨w1.heap.size + 1, 0, none⟩ = some (.int .u64 (hiW (q : Int))) := cell_below hb (by simp [go_sem, World.drewN])
  have a7 : w2.cell? ⟨w1.heap.size + 1, 1, none⟩ = some (.int .u64 (loW (q : Int))) := cell_below hb (by simp [go_sem, World.drewN])
  have hz2 : w1.heap.size + 1 < w2.heap.size := by have := hb.size; simp [World.drewN] at this; omega
  have H2 := hid hb
  clear hb k0 k1 k2 k3 k4 k5
  go_wp2_with fail
  refine (minus_any (q : Int) _).mono ?_
  rintro e w3 ⟨rfl, hb⟩
  obtain ⟨-, ⟨b2, b3⟩, ⟨b4, b5⟩, -⟩ := PK'.out w3 (((KK.out _ _ _).trans (H2.out.mono (by simp [World.drewN]; omega))).trans (hb.mono (by omega)))
  have H3 := hid hb
  clear hb a0 a1 a2 a3 a4 a5 a6 a7
  go_wp2
  exact bodyPost_ret (v := .agg #[.int .u64 (hiW (-(q : Int))), .int .u64 (loW (-(q : Int)))]) (by simp [results, Tryz.results51, b2, b3, go_sem]) rfl
    ⟨rfl, ((((((below_drewN (((((Below.refl _ _).alloc (by first | exact Nat.le_refl _ | (simp; done) | (simp; omega) | omega | (simp [World.drewN]; omega)) _).alloc (by first | exact Nat.le_refl _ | (simp; done) | (simp; omega) | omega | (simp [World.drewN]; omega)) _).trans (H.out.mono (by first | exact Nat.le_refl _ | (simp; done) | (simp; omega) | omega | (simp [World.drewN]; omega)))).alloc (by first | exact Nat.le_refl _ | (simp; done) | (simp; omega) | omega | (simp [World.drewN]; omega)) _) _).alloc (by first | exact Nat.le_refl _ | (simp; done) | (simp; omega) | omega | (simp [World.drewN]; omega)) _).trans (H2.out.mono (by first | exact Nat.le_refl _ | (simp; done) | (simp; omega) | omega | (simp [World.drewN]; omega)))).trans (H3.out.mono (by first | exact Nat.le_refl _ | (simp; done) | (simp; omega) | omega | (simp [World.drewN]; omega)))).setCell (by first | exact Nat.le_refl _ | (simp; done) | (simp; omega) | omega | (simp [World.drewN]; omega)) _).setCell (by first | exact Nat.le_refl _ | (simp; done) | (simp; omega) | omega | (simp [World.drewN]; omega)) _)⟩
set_option maxHeartbeats 2000000 in
theorem over_pos (v : Int) (n : Nat) (h : Fit128 v) (hv : 0 ≤ v) (hn0 : 0 < n) (hn : n < 18446744073709551616) (w : World) :
    Calls Tryz.prog 51 #[.agg #[.int .u64 (hiW (v)), .int .u64 (loW (v))], .int .u64 (n : Int)] w fun e w' =>
      e = .returned (.agg #[.int .u64 (hiW (((v.natAbs / n : Nat) : Int))), .int .u64 (loW (((v.natAbs / n : Nat) : Int)))]) ∧ Below w.heap.size w w' := by
  have M := hid (fun w => mag_any v h w)
  have n0 := fun w => negative_any v h w
  rw [show decide (v < 0) = false by simp; omega] at n0
  have N := hid n0; clear n0
  obtain ⟨m, hm⟩ : ∃ m, v.natAbs = m := ⟨_, rfl⟩
  have hm2 : m < 170141183460469231731687303715884105729 := by unfold Fit128 at h; omega
  obtain ⟨a, ha⟩ : ∃ a, m / 18446744073709551616 = a := ⟨_, rfl⟩
  obtain ⟨b, hb⟩ : ∃ b, m % 18446744073709551616 = b := ⟨_, rfl⟩
  have ea : hiW (m : Int) = (a : Int) := by unfold hiW; omega
  have eb : loW (m : Int) = (b : Int) := by unfold loW; omega
  obtain ⟨o1, o2⟩ := over_lo m n hn0
  rw [ha, hb] at o1
  rw [ha] at o2
  have DV := hid (fun w => div64_any (a % n) b n (Nat.mod_lt _ hn0) hn (by omega) w)
  rw [hm] at M
  rw [ea, eb] at M
  obtain ⟨q, hq⟩ : ∃ q, m / n = q := ⟨_, rfl⟩
  rw [o1, hq] at DV
  rw [hm, hq]
  obtain ⟨ar, har⟩ : ∃ r, a % n = r := ⟨_, rfl⟩
  obtain ⟨aq, haq⟩ : ∃ r, a / n = r := ⟨_, rfl⟩
  have x1 : (a : Int) % (n : Int) = (ar : Int) := by rw [← har, Int.natCast_emod]
  have x2 : IntKind.u64.wrap ((a : Int) / (n : Int)) = (aq : Int) := by
    rw [← Int.natCast_ediv, haq]
    refine wrapU_lt _ ?_
    have := Nat.div_le_self a n
    omega
  have x3 : ¬ (n : Int) = 0 := by omega
  have x4 : ((n : Int) == 0) = false := by simpa using x3
  have x5 : ¬ n = 0 := by omega
  rw [har] at DV
  have y1 : (aq : Int) = hiW (q : Int) := by
    rw [haq, hq] at o2
    unfold hiW
    have : q ≤ m := by rw [← hq]; exact Nat.div_le_self m n
    omega
  have y2 : ((q % 18446744073709551616 : Nat) : Int) = loW (q : Int) := by unfold loW; omega
  rw [y1] at x2
  rw [y2] at DV
  generalize ((ar * 18446744073709551616 + b) % n : Nat) = rm at *
  have X3 := hid x3
  clear o1 o2 hm hm2 ha hb ea eb hq har haq y1 y2 h hv
  go_enter Tryz.func51, Tryz.ntmps51
  go_wp2_with fail
  refine (M.out _).mono ?_
  rintro e w1 ⟨rfl, hb⟩
  have hz : w.heap.size + 1 < w1.heap.size := by have := hb.size; simp at this; omega
  have PK : ∀ W, Below w1.heap.size w1 W → (W.cell? ⟨w.heap.size, 0, none⟩ = some (.int .u64 (hiW v)) ∧ W.cell? ⟨w.heap.size, 1, none⟩ = some (.int .u64 (loW v))) ∧
      (W.cell? ⟨w.heap.size + 1, 0, none⟩ = some (.int .u64 0) ∧ W.cell? ⟨w.heap.size + 1, 1, none⟩ = some (.int .u64 0)) ∧
      (W.frozen? ⟨w.heap.size + 1, 0, none⟩ = false ∧ W.frozen? ⟨w.heap.size + 1, 1, none⟩ = false) ∧ w1.heap.size ≤ W.heap.size := by
    intro W hW
    have f0 := hb.frozen (p := ⟨w.heap.size + 1, 0, none⟩) (by simp)
    have f1 := hb.frozen (p := ⟨w.heap.size + 1, 1, none⟩) (by simp)
    refine ⟨⟨cell_below hW (cell_below hb (by simp [go_sem])), cell_below hW (cell_below hb (by simp [go_sem]))⟩,
      ⟨cell_below hW (cell_below hb (by simp [go_sem])), cell_below hW (cell_below hb (by simp [go_sem]))⟩, ⟨?_, ?_⟩, hW.size⟩
    · rw [hW.frozen (p := ⟨w.heap.size + 1, 0, none⟩) (by simp; omega), f0]; simp [go_sem]
    · rw [hW.frozen (p := ⟨w.heap.size + 1, 1, none⟩) (by simp; omega), f1]; simp [go_sem]
  have kk := fun o1 n o2 => below_drewN ((Below.refl w1.heap.size w1).alloc (Nat.le_refl _) o1) n |>.alloc (show w1.heap.size ≤ ((w1.alloc o1).drewN n).heap.size by simp [World.drewN]) o2
  have k0 := fun o1 n o2 => (PK _ (kk o1 n o2)).1.1
  have k1 := fun o1 n o2 => (PK _ (kk o1 n o2)).1.2
  have k2 := fun o1 n o2 => (PK _ (kk o1 n o2)).2.1.1
  have k3 := fun o1 n o2 => (PK _ (kk o1 n o2)).2.1.2
  have k4 := fun o1 n o2 => (PK _ (kk o1 n o2)).2.2.1.1
  have k5 := fun o1 n o2 => (PK _ (kk o1 n o2)).2.2.1.2
  have PK' := hid PK
  have KK := hid kk
  clear PK kk
  have H := hid hb
  clear hb
  go_wp2_with fail
  go_quiet ((go_at_call 66; exact Calls.quiet_of (DV.out _)))
  go_wp2_with fail
  refine (N.out _).mono ?_
  rintro e w2 ⟨rfl, hb⟩
  obtain ⟨⟨a0, a1⟩, ⟨a2, a3⟩, ⟨a4, a5⟩, -⟩ := PK'.out w2 ((KK.out _ _ _).trans (hb.mono (by simp [World.drewN]; omega)))
  have a6 : w2.cell? ⟨w1.heap.size + 1, 0, none⟩ = some (.int .u64 (hiW (q : Int))) := cell_below hb (by simp [go_sem, World.drewN])
  have a7 : w2.cell? ⟨w1.heap.size + 1, 1, none⟩ = some (.int .u64 (loW (q : Int))) := cell_below hb (by simp [go_sem, World.drewN])
  have hz2 : w1.heap.size + 1 < w2.heap.size := by have := hb.size; simp [World.drewN] at this; omega
  have H2 := hid hb
  clear hb k0 k1 k2 k3 k4 k5
  go_wp2_with fail
  go_wp2
  exact bodyPost_ret (v := .agg #[.int .u64 (hiW ((q : Int))), .int .u64 (loW ((q : Int)))]) (by simp [results, Tryz.results51, a2, a3, go_sem]) rfl
    ⟨rfl, (((((below_drewN (((((Below.refl _ _).alloc (by first | exact Nat.le_refl _ | (simp; done) | (simp; omega) | omega | (simp [World.drewN]; omega)) _).alloc (by first | exact Nat.le_refl _ | (simp; done) | (simp; omega) | omega | (simp [World.drewN]; omega)) _).trans (H.out.mono (by first | exact Nat.le_refl _ | (simp; done) | (simp; omega) | omega | (simp [World.drewN]; omega)))).alloc (by first | exact Nat.le_refl _ | (simp; done) | (simp; omega) | omega | (simp [World.drewN]; omega)) _) _).alloc (by first | exact Nat.le_refl _ | (simp; done) | (simp; omega) | omega | (simp [World.drewN]; omega)) _).trans (H2.out.mono (by first | exact Nat.le_refl _ | (simp; done) | (simp; omega) | omega | (simp [World.drewN]; omega)))).setCell (by first | exact Nat.le_refl _ | (simp; done) | (simp; omega) | omega | (simp [World.drewN]; omega)) _).setCell (by first | exact Nat.le_refl _ | (simp; done) | (simp; omega) | omega | (simp [World.drewN]; omega)) _)⟩
end Go.Proofs.YtffcnkkgbhhfnaaGreatDoor

import Derived.Test.YtdcaecpcofencaaJb
namespace Go.Proofs.Ytdcaecpcofencaa
open Go.RowKit Go.Instr Go.Deep
set_option linter.unusedVariables false
set_option linter.unusedSimpArgs false

/-! gap.each, for each closure. -/
theorem infoS : (Try.prog.info? 22).map (fun i => (i.zero, i.size, i.bytes)) = some (some (.slice none 0 0), 1, 24) := by kernel_rfl
theorem infoI : (Try.prog.info? 3).map (fun i => (i.zero, i.size, i.bytes)) = some (some (.int .i64 0), 1, 8) := by kernel_rfl
/-- Gaps were made. -/
def GrRet (lo n m : Nat) (Z : Nat → Nat → Int) (w : World) (e : Ending) (w' : World) : Prop := ∃ (b c : Nat) (R C : Nat → Nat), e = .returned (.slice (some ⟨b, 0, none⟩) n c) ∧ Gr w' lo b n m R C Z ∧ Below w.heap.size w w'
/-- At the head of the outer loop of each. -/
def EachO (w wr : World) (b n m k : Nat) (Z : Nat → Nat → Int) : Prop := ∃ R C, PGr wr w.heap.size b n m k R C Z ∧ Below w.heap.size w wr
theorem EachO.done {w wr : World} {b n m : Nat} {Z : Nat → Nat → Int} (h : EachO w wr b n m n Z) (c : Nat) : GrRet w.heap.size n m Z w (.returned (.slice (some ⟨b, 0, none⟩) n c)) wr := by
  obtain ⟨R, C, h1, h2⟩ := h
  exact ⟨b, c, R, C, rfl, h1.gr, h2⟩
def upto (F Y : Nat → Nat → Int) (k j : Nat) : Nat → Nat → Int := fun i' j' => if i' = k then (if j' < j then F i' j' else Y i' j') else F i' j'
/-- The head of the inner loop. -/
def EachI (w wi : World) (b n m k j : Nat) (R C : Nat → Nat) (F : Nat → Nat → Int) : Prop := PGr wi w.heap.size b n m (k + 1) R C (upto F (fun _ _ => 0) k j) ∧ Below w.heap.size w wi
theorem below_al (w : World) (o : Obj) : Below w.heap.size w (w.alloc o) := (Below.refl _ _).alloc (Nat.le_refl _) _
theorem EachI.step {w wi w1 : World} {b n m k j : Nat} {R C : Nat → Nat} {F : Nat → Nat → Int} (h : EachI w wi b n m k j R C F) (hb : Below wi.heap.size wi w1) (hj : j < m) {x : Int} (hx : x = F k j) : EachI w (w1.setCell ⟨R k, j, none⟩ (.int .i64 x)) b n m k (j + 1) R C F := by
  obtain ⟨h1, h2⟩ := h
  have h3 := (h1.belowA hb).set (i0 := k) (Nat.lt_succ_self k) j x
  refine ⟨h3.congr (fun i' j' hi hj' => ?_), (h2.trans (hb.mono h2.size)).setCell (h3.gr.row k (Nat.lt_succ_self k)).1 _⟩
  unfold upto
  by_cases e : i' = k
  · subst e
    by_cases e2 : j' = j
    · subst e2
      simp [hx]
    · have e3 : (j' < j + 1) = (j' < j) := propext ⟨fun h => by omega, fun h => by omega⟩
      simp [e2, e3]
  · simp [e]
theorem EachI.drew {w wi : World} {b n m k j : Nat} {R C : Nat → Nat} {F : Nat → Nat → Int} (h : EachI w wi b n m k j R C F) : EachI w wi.drew b n m k j R C F := ⟨h.1.keep (fun _ _ => rfl), h.2.drew⟩
theorem EachI.done {w wi : World} {b n m k : Nat} {R C : Nat → Nat} {F : Nat → Nat → Int} (h : EachI w wi b n m k m R C F) : EachO w wi b n m (k + 1) F := by
  refine ⟨R, C, h.1.congr (fun i j hi hj => ?_), h.2⟩
  unfold upto
  simp [hj]
theorem EachI.start {w wr : World} {b n m k : Nat} {R C : Nat → Nat} {F : Nat → Nat → Int} (h : PGr wr w.heap.size b n m k R C F) (hB : Below w.heap.size w wr) (hk : k < n) :
    ∃ R2 C2 : Nat → Nat, R2 k = wr.heap.size ∧ C2 k = m ∧ EachI w ((wr.setCell ⟨b, k, none⟩ (.slice (some ⟨wr.heap.size, 0, none⟩) m m)).alloc (.cells (madeCells #[.int .i64 0] m) 3)) b n m k 0 R2 C2 F := by
  have hI := h.push hk hB.size
  have hlt := h.gr.ltb
  rw [World.setCell_alloc_past (hn := hlt)] at hI
  refine ⟨_, _, ?_, ?_, hI.congr (fun i j _ _ => by unfold upto; simp), (hB.setCell (by show w.heap.size ≤ b; exact hI.gr.lob) _).alloc (by have := hB.size; simpa using this) _⟩ <;> simp
set_option maxRecDepth 100000 in
set_option maxHeartbeats 1000000 in
theorem each_copied (w : World) {lo b n m : Nat} {R C : Nat → Nat} {Z : Nat → Nat → Int} (c : Nat) (h : Gr w lo b n m R C Z) (F : Nat → Nat → Int) (hn : n ≤ 65536) (hm : m ≤ 65536)
    (HF : Hid (∀ (W : World) (i j : Nat), Below w.heap.size w W → i < n → j < m → Calls Try.prog 66 #[.int .i64 (i : Int), .int .i64 (j : Int), .int .i64 (Z i j)] W fun e w' => e = .returned (.int .i64 (F i j)) ∧ Below W.heap.size W w')) :
    Calls Try.prog 46 #[.slice (some ⟨b, 0, none⟩) n c, .func (.func 66) #[] #[]] w fun e w' => GrRet w.heap.size n m F w e w' := by
  have hmkS := run_make_row' (P := Try.prog) 30 22 (.slice none 0 0) 24 Try.underlying30 infoS rfl .i64 .i64 n (by omega) (by omega)
  have hG := hidA h
  clear h
  go_enter Try.func46, Try.ntmps46
  go_wp2
  clear hmkS
  obtain ⟨lb, hlb⟩ : ∃ x, x = w.heap.size := ⟨_, rfl⟩
  rw [← hlb]
  have HLB := hidA hlb
  clear hlb
  go_loopg [15] n (fun g i wr => ∃ k : Nat, k ≤ n ∧ g = n - k ∧ i = .int .i64 k ∧ EachO w wr lb n m k F)
  case atStart => exact ⟨0, Nat.zero_le _, rfl, rfl, fun _ => 0, fun _ => 0, by rw [HLB.out]; exact PGr.start w n m _ _ F (Nat.le_refl _), (Below.refl _ _).alloc (Nat.le_refl _) _⟩
  case round =>
    obtain ⟨k, hk, rfl, rfl, hO⟩ := hrel
    obtain ⟨wo, rfl⟩ : ∃ wo : World, wo = wr := ⟨_, rfl⟩
    by_cases hkn : k < n
    · obtain ⟨R1, C1, hP, hB⟩ := hO
      have HG := hidA (hG.out.belowA hB)
      have c1 := HG.out.cellh hkn
      have hlb2 := hP.gr.ltb
      have hkz : (k : Int) < (n : Int) := by omega
      have hmkI := run_make_row' (P := Try.prog) 22 3 (.int .i64 0) 8 Try.underlying22 infoI rfl .i64 .i64 m (by omega) (by omega)
      have d1 : ∀ o, (wo.alloc o).cell? ⟨lb, k, none⟩ = some (.slice none 0 0) := fun o => (World.cell?_alloc_lt wo o ⟨lb, k, none⟩ hlb2).trans (hP.cellr (Nat.le_refl _) hkn)
      have d2 : ∀ o, (wo.alloc o).frozen? ⟨lb, k, none⟩ = false := fun o => ((below_al wo o).frozen (p := ⟨lb, k, none⟩) hlb2).trans (hP.gr.frh k)
      have hPP := hidA hP
      have hBB := hidA hB
      clear hP hB
      go_wp2
      obtain ⟨R2, C2, hR2, -, hI⟩ := EachI.start hPP.out hBB.out hkn
      rw [← hR2] at hI ⊢
      clear hmkI d1 d2 hPP c1 hlb2 hBB HG hR2
      generalize World.alloc _ _ = wi at *
      go_loopg [28] m (fun g i wi => ∃ j : Nat, j ≤ m ∧ g = m - j ∧ i = .int .i64 j ∧ EachI w wi lb n m k j R2 C2 F)
      case atStart => exact ⟨0, Nat.zero_le _, rfl, rfl, hI⟩
      case round =>
        clear hI
        obtain ⟨j, hj, rfl, rfl, hI⟩ := hrel
        by_cases hjm : j < m
        · have HG := hidA (hG.out.belowA hI.2)
          have c2 := HG.out.cellv hkn hjm
          have c3 := hI.1.gr.cellh (i := k) (Nat.lt_succ_self k)
          have c4 := hI.1.gr.cellv (i := k) (Nat.lt_succ_self k) hjm
          have f4 := hI.1.gr.frv (i := k) (Nat.lt_succ_self k) j
          have l1 := hI.1.gr.ltb
          have l2 := hI.1.gr.ltR (i := k) (Nat.lt_succ_self k)
          have hjz : (j : Int) < (m : Int) := by omega
          have CC := hidA (HF.out wr.drew k j hI.2.drew hkn hjm)
          have HI := hidA hI
          clear hI
          go_upto_region 9 with (fail)
          clear c2
          go_region_with (go_at_call 66; refine (CC.out).mono ?_; rintro e w1 ⟨rfl, hb0⟩; have hb1 : Below wr.heap.size wr w1 := (Below.refl _ _).drew.trans hb0; clear hb0; obtain ⟨hc1, hf1⟩ := bcell hb1)
          all_goals
            go_wp2
            go_roundg (m - (j + 1))
            case rel => exact ⟨j + 1, by omega, rfl, by go_num, HI.out.step hb1 hjm rfl⟩
            case measure => omega
        · obtain rfl : j = m := by omega
          go_wp2
          go_roundg (n - (k + 1))
          case rel => exact ⟨k + 1, by omega, rfl, by go_num, hI.done⟩
          case measure => omega
    · obtain rfl : k = n := by omega
      go_wp2
      go_ret
      exact hO.done _
set_option maxRecDepth 100000 in
set_option maxHeartbeats 1000000 in
theorem each_join (w : World) {lo b n m : Nat} {R C : Nat → Nat} {Z : Nat → Nat → Int} (c : Nat) (h : Gr w lo b n m R C Z) (q0 : Value) (F : Nat → Nat → Int) (hn : n ≤ 65536) (hm : m ≤ 65536)
    (HF : Hid (∀ (W : World) (i j : Nat), Below w.heap.size w W → i < n → j < m → Calls Try.prog 54 #[.int .i64 (i : Int), .int .i64 (j : Int), .int .i64 (Z i j), q0] W fun e w' => e = .returned (.int .i64 (F i j)) ∧ Below W.heap.size W w')) :
    Calls Try.prog 46 #[.slice (some ⟨b, 0, none⟩) n c, .func (.func 54) #[] #[q0]] w fun e w' => GrRet w.heap.size n m F w e w' := by
  have hmkS := run_make_row' (P := Try.prog) 30 22 (.slice none 0 0) 24 Try.underlying30 infoS rfl .i64 .i64 n (by omega) (by omega)
  have hG := hidA h
  clear h
  go_enter Try.func46, Try.ntmps46
  go_wp2
  clear hmkS
  obtain ⟨lb, hlb⟩ : ∃ x, x = w.heap.size := ⟨_, rfl⟩
  rw [← hlb]
  have HLB := hidA hlb
  clear hlb
  go_loopg [15] n (fun g i wr => ∃ k : Nat, k ≤ n ∧ g = n - k ∧ i = .int .i64 k ∧ EachO w wr lb n m k F)
  case atStart => exact ⟨0, Nat.zero_le _, rfl, rfl, fun _ => 0, fun _ => 0, by rw [HLB.out]; exact PGr.start w n m _ _ F (Nat.le_refl _), (Below.refl _ _).alloc (Nat.le_refl _) _⟩
  case round =>
    obtain ⟨k, hk, rfl, rfl, hO⟩ := hrel
    obtain ⟨wo, rfl⟩ : ∃ wo : World, wo = wr := ⟨_, rfl⟩
    by_cases hkn : k < n
    · obtain ⟨R1, C1, hP, hB⟩ := hO
      have HG := hidA (hG.out.belowA hB)
      have c1 := HG.out.cellh hkn
      have hlb2 := hP.gr.ltb
      have hkz : (k : Int) < (n : Int) := by omega
      have hmkI := run_make_row' (P := Try.prog) 22 3 (.int .i64 0) 8 Try.underlying22 infoI rfl .i64 .i64 m (by omega) (by omega)
      have d1 : ∀ o, (wo.alloc o).cell? ⟨lb, k, none⟩ = some (.slice none 0 0) := fun o => (World.cell?_alloc_lt wo o ⟨lb, k, none⟩ hlb2).trans (hP.cellr (Nat.le_refl _) hkn)
      have d2 : ∀ o, (wo.alloc o).frozen? ⟨lb, k, none⟩ = false := fun o => ((below_al wo o).frozen (p := ⟨lb, k, none⟩) hlb2).trans (hP.gr.frh k)
      have hPP := hidA hP
      have hBB := hidA hB
      clear hP hB
      go_wp2
      obtain ⟨R2, C2, hR2, -, hI⟩ := EachI.start hPP.out hBB.out hkn
      rw [← hR2] at hI ⊢
      clear hmkI d1 d2 hPP c1 hlb2 hBB HG hR2
      generalize World.alloc _ _ = wi at *
      go_loopg [28] m (fun g i wi => ∃ j : Nat, j ≤ m ∧ g = m - j ∧ i = .int .i64 j ∧ EachI w wi lb n m k j R2 C2 F)
      case atStart => exact ⟨0, Nat.zero_le _, rfl, rfl, hI⟩
      case round =>
        clear hI
        obtain ⟨j, hj, rfl, rfl, hI⟩ := hrel
        by_cases hjm : j < m
        · have HG := hidA (hG.out.belowA hI.2)
          have c2 := HG.out.cellv hkn hjm
          have c3 := hI.1.gr.cellh (i := k) (Nat.lt_succ_self k)
          have c4 := hI.1.gr.cellv (i := k) (Nat.lt_succ_self k) hjm
          have f4 := hI.1.gr.frv (i := k) (Nat.lt_succ_self k) j
          have l1 := hI.1.gr.ltb
          have l2 := hI.1.gr.ltR (i := k) (Nat.lt_succ_self k)
          have hjz : (j : Int) < (m : Int) := by omega
          have CC := hidA (HF.out wr.drew k j hI.2.drew hkn hjm)
          have HI := hidA hI
          clear hI
          go_upto_region 9 with (fail)
          clear c2
          go_region_with (go_at_call 54; refine (CC.out).mono ?_; rintro e w1 ⟨rfl, hb0⟩; have hb1 : Below wr.heap.size wr w1 := (Below.refl _ _).drew.trans hb0; clear hb0; obtain ⟨hc1, hf1⟩ := bcell hb1)
          all_goals
            go_wp2
            go_roundg (m - (j + 1))
            case rel => exact ⟨j + 1, by omega, rfl, by go_num, HI.out.step hb1 hjm rfl⟩
            case measure => omega
        · obtain rfl : j = m := by omega
          go_wp2
          go_roundg (n - (k + 1))
          case rel => exact ⟨k + 1, by omega, rfl, by go_num, hI.done⟩
          case measure => omega
    · obtain rfl : k = n := by omega
      go_wp2
      go_ret
      exact hO.done _
set_option maxRecDepth 100000 in
set_option maxHeartbeats 1000000 in
theorem each_widen (w : World) {lo b n m : Nat} {R C : Nat → Nat} {Z : Nat → Nat → Int} (c : Nat) (h : Gr w lo b n m R C Z) (q0 : Value) (F : Nat → Nat → Int) (hn : n ≤ 65536) (hm : m ≤ 65536)
    (HF : Hid (∀ (W : World) (i j : Nat), Below w.heap.size w W → i < n → j < m → Calls Try.prog 55 #[.int .i64 (i : Int), .int .i64 (j : Int), .int .i64 (Z i j), q0] W fun e w' => e = .returned (.int .i64 (F i j)) ∧ Below W.heap.size W w')) :
    Calls Try.prog 46 #[.slice (some ⟨b, 0, none⟩) n c, .func (.func 55) #[] #[q0]] w fun e w' => GrRet w.heap.size n m F w e w' := by
  have hmkS := run_make_row' (P := Try.prog) 30 22 (.slice none 0 0) 24 Try.underlying30 infoS rfl .i64 .i64 n (by omega) (by omega)
  have hG := hidA h
  clear h
  go_enter Try.func46, Try.ntmps46
  go_wp2
  clear hmkS
  obtain ⟨lb, hlb⟩ : ∃ x, x = w.heap.size := ⟨_, rfl⟩
  rw [← hlb]
  have HLB := hidA hlb
  clear hlb
  go_loopg [15] n (fun g i wr => ∃ k : Nat, k ≤ n ∧ g = n - k ∧ i = .int .i64 k ∧ EachO w wr lb n m k F)
  case atStart => exact ⟨0, Nat.zero_le _, rfl, rfl, fun _ => 0, fun _ => 0, by rw [HLB.out]; exact PGr.start w n m _ _ F (Nat.le_refl _), (Below.refl _ _).alloc (Nat.le_refl _) _⟩
  case round =>
    obtain ⟨k, hk, rfl, rfl, hO⟩ := hrel
    obtain ⟨wo, rfl⟩ : ∃ wo : World, wo = wr := ⟨_, rfl⟩
    by_cases hkn : k < n
    · obtain ⟨R1, C1, hP, hB⟩ := hO
      have HG := hidA (hG.out.belowA hB)
      have c1 := HG.out.cellh hkn
      have hlb2 := hP.gr.ltb
      have hkz : (k : Int) < (n : Int) := by omega
      have hmkI := run_make_row' (P := Try.prog) 22 3 (.int .i64 0) 8 Try.underlying22 infoI rfl .i64 .i64 m (by omega) (by omega)
      have d1 : ∀ o, (wo.alloc o).cell? ⟨lb, k, none⟩ = some (.slice none 0 0) := fun o => (World.cell?_alloc_lt wo o ⟨lb, k, none⟩ hlb2).trans (hP.cellr (Nat.le_refl _) hkn)
      have d2 : ∀ o, (wo.alloc o).frozen? ⟨lb, k, none⟩ = false := fun o => ((below_al wo o).frozen (p := ⟨lb, k, none⟩) hlb2).trans (hP.gr.frh k)
      have hPP := hidA hP
      have hBB := hidA hB
      clear hP hB
      go_wp2
      obtain ⟨R2, C2, hR2, -, hI⟩ := EachI.start hPP.out hBB.out hkn
      rw [← hR2] at hI ⊢
      clear hmkI d1 d2 hPP c1 hlb2 hBB HG hR2
      generalize World.alloc _ _ = wi at *
      go_loopg [28] m (fun g i wi => ∃ j : Nat, j ≤ m ∧ g = m - j ∧ i = .int .i64 j ∧ EachI w wi lb n m k j R2 C2 F)
      case atStart => exact ⟨0, Nat.zero_le _, rfl, rfl, hI⟩
      case round =>
        clear hI
        obtain ⟨j, hj, rfl, rfl, hI⟩ := hrel
        by_cases hjm : j < m
        · have HG := hidA (hG.out.belowA hI.2)
          have c2 := HG.out.cellv hkn hjm
          have c3 := hI.1.gr.cellh (i := k) (Nat.lt_succ_self k)
          have c4 := hI.1.gr.cellv (i := k) (Nat.lt_succ_self k) hjm
          have f4 := hI.1.gr.frv (i := k) (Nat.lt_succ_self k) j
          have l1 := hI.1.gr.ltb
          have l2 := hI.1.gr.ltR (i := k) (Nat.lt_succ_self k)
          have hjz : (j : Int) < (m : Int) := by omega
          have CC := hidA (HF.out wr.drew k j hI.2.drew hkn hjm)
          have HI := hidA hI
          clear hI
          go_upto_region 9 with (fail)
          clear c2
          go_region_with (go_at_call 55; refine (CC.out).mono ?_; rintro e w1 ⟨rfl, hb0⟩; have hb1 : Below wr.heap.size wr w1 := (Below.refl _ _).drew.trans hb0; clear hb0; obtain ⟨hc1, hf1⟩ := bcell hb1)
          all_goals
            go_wp2
            go_roundg (m - (j + 1))
            case rel => exact ⟨j + 1, by omega, rfl, by go_num, HI.out.step hb1 hjm rfl⟩
            case measure => omega
        · obtain rfl : j = m := by omega
          go_wp2
          go_roundg (n - (k + 1))
          case rel => exact ⟨k + 1, by omega, rfl, by go_num, hI.done⟩
          case measure => omega
    · obtain rfl : k = n := by omega
      go_wp2
      go_ret
      exact hO.done _
set_option maxRecDepth 100000 in
set_option maxHeartbeats 1000000 in
theorem each_set (w : World) {lo b n m : Nat} {R C : Nat → Nat} {Z : Nat → Nat → Int} (c : Nat) (h : Gr w lo b n m R C Z) (q0 q1 q2 q3 q4 : Value) (F : Nat → Nat → Int) (hn : n ≤ 65536) (hm : m ≤ 65536)
    (HF : Hid (∀ (W : World) (i j : Nat), Below w.heap.size w W → i < n → j < m → Calls Try.prog 47 #[.int .i64 (i : Int), .int .i64 (j : Int), .int .i64 (Z i j), q0, q1, q2, q3, q4] W fun e w' => e = .returned (.int .i64 (F i j)) ∧ Below W.heap.size W w')) :
    Calls Try.prog 46 #[.slice (some ⟨b, 0, none⟩) n c, .func (.func 47) #[] #[q0, q1, q2, q3, q4]] w fun e w' => GrRet w.heap.size n m F w e w' := by
  have hmkS := run_make_row' (P := Try.prog) 30 22 (.slice none 0 0) 24 Try.underlying30 infoS rfl .i64 .i64 n (by omega) (by omega)
  have hG := hidA h
  clear h
  go_enter Try.func46, Try.ntmps46
  go_wp2
  clear hmkS
  obtain ⟨lb, hlb⟩ : ∃ x, x = w.heap.size := ⟨_, rfl⟩
  rw [← hlb]
  have HLB := hidA hlb
  clear hlb
  go_loopg [15] n (fun g i wr => ∃ k : Nat, k ≤ n ∧ g = n - k ∧ i = .int .i64 k ∧ EachO w wr lb n m k F)
  case atStart => exact ⟨0, Nat.zero_le _, rfl, rfl, fun _ => 0, fun _ => 0, by rw [HLB.out]; exact PGr.start w n m _ _ F (Nat.le_refl _), (Below.refl _ _).alloc (Nat.le_refl _) _⟩
  case round =>
    obtain ⟨k, hk, rfl, rfl, hO⟩ := hrel
    obtain ⟨wo, rfl⟩ : ∃ wo : World, wo = wr := ⟨_, rfl⟩
    by_cases hkn : k < n
    · obtain ⟨R1, C1, hP, hB⟩ := hO
      have HG := hidA (hG.out.belowA hB)
      have c1 := HG.out.cellh hkn
      have hlb2 := hP.gr.ltb
      have hkz : (k : Int) < (n : Int) := by omega
      have hmkI := run_make_row' (P := Try.prog) 22 3 (.int .i64 0) 8 Try.underlying22 infoI rfl .i64 .i64 m (by omega) (by omega)
      have d1 : ∀ o, (wo.alloc o).cell? ⟨lb, k, none⟩ = some (.slice none 0 0) := fun o => (World.cell?_alloc_lt wo o ⟨lb, k, none⟩ hlb2).trans (hP.cellr (Nat.le_refl _) hkn)
      have d2 : ∀ o, (wo.alloc o).frozen? ⟨lb, k, none⟩ = false := fun o => ((below_al wo o).frozen (p := ⟨lb, k, none⟩) hlb2).trans (hP.gr.frh k)
      have hPP := hidA hP
      have hBB := hidA hB
      clear hP hB
      go_wp2
      obtain ⟨R2, C2, hR2, -, hI⟩ := EachI.start hPP.out hBB.out hkn
      rw [← hR2] at hI ⊢
      clear hmkI d1 d2 hPP c1 hlb2 hBB HG hR2
      generalize World.alloc _ _ = wi at *
      go_loopg [28] m (fun g i wi => ∃ j : Nat, j ≤ m ∧ g = m - j ∧ i = .int .i64 j ∧ EachI w wi lb n m k j R2 C2 F)
      case atStart => exact ⟨0, Nat.zero_le _, rfl, rfl, hI⟩
      case round =>
        clear hI
        obtain ⟨j, hj, rfl, rfl, hI⟩ := hrel
        by_cases hjm : j < m
        · have HG := hidA (hG.out.belowA hI.2)
          have c2 := HG.out.cellv hkn hjm
          have c3 := hI.1.gr.cellh (i := k) (Nat.lt_succ_self k)
          have c4 := hI.1.gr.cellv (i := k) (Nat.lt_succ_self k) hjm
          have f4 := hI.1.gr.frv (i := k) (Nat.lt_succ_self k) j
          have l1 := hI.1.gr.ltb
          have l2 := hI.1.gr.ltR (i := k) (Nat.lt_succ_self k)
          have hjz : (j : Int) < (m : Int) := by omega
          have CC := hidA (HF.out wr.drew k j hI.2.drew hkn hjm)
          have HI := hidA hI
          clear hI
          go_upto_region 9 with (fail)
          clear c2
          go_region_with (go_at_call 47; refine (CC.out).mono ?_; rintro e w1 ⟨rfl, hb0⟩; have hb1 : Below wr.heap.size wr w1 := (Below.refl _ _).drew.trans hb0; clear hb0; obtain ⟨hc1, hf1⟩ := bcell hb1)
          all_goals
            go_wp2
            go_roundg (m - (j + 1))
            case rel => exact ⟨j + 1, by omega, rfl, by go_num, HI.out.step hb1 hjm rfl⟩
            case measure => omega
        · obtain rfl : j = m := by omega
          go_wp2
          go_roundg (n - (k + 1))
          case rel => exact ⟨k + 1, by omega, rfl, by go_num, hI.done⟩
          case measure => omega
    · obtain rfl : k = n := by omega
      go_wp2
      go_ret
      exact hO.done _
end Go.Proofs.Ytdcaecpcofencaa

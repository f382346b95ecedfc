import Derived.Test.YtpfcfaakdhamlaaJow
namespace Go.Proofs.Ytpfcfaakdhamlaa
open Go.RowKit Go.Instr Go.Deep
set_option maxRecDepth 100000
set_option linter.unusedVariables false
set_option linter.unusedSimpArgs false

/-! GapOrder's walk. -/
theorem has_r {w : World} {lo b n m : Nat} {R C : Nat → Nat} {Z : Nat → Nat → Int} (c : Nat) (h : Gr w lo b n m R C Z) (l : List Int) (oa : Option Addr) (cap : Nat) (hl : intsIn w l (.slice oa n cap)) (hln : l.length = n) (hmn : m ≤ n) (hn : n ≤ 5) (h32 : ∀ i, -2147483648 ≤ l.getD i 0 ∧ l.getD i 0 ≤ 2147483647) {r : Bool} (hr : hasB n m Z (fun i => l.getD i 0) = r) :
    Calls Try.prog 34 #[.slice (some ⟨b, 0, none⟩) n c, .slice oa n cap] w fun e w' => e = .returned (.bool r) ∧ w = w' := by
  rw [← hr]; exact has_any w c h l oa cap hl hln hmn (by omega) (fun i => ⟨(h32 i).1, by have := (h32 i).2; omega⟩)
theorem leqB_iff {n m : Nat} {Z Y : Nat → Nat → Int} : leqB n m Z Y = true ↔ ∀ i, i < n → ∀ j, j < m → Z i j ≤ Y i j := by unfold leqB; exact decide_eq_true_iff
theorem sameB_iff {n m : Nat} {Z Y : Nat → Nat → Int} : sameB n m Z Y = true ↔ ∀ i, i < n → ∀ j, j < m → Z i j = Y i j := by unfold sameB; exact decide_eq_true_iff
theorem hasB_iff {n m : Nat} {Z : Nat → Nat → Int} {V : Nat → Int} : hasB n m Z V = true ↔ ∀ i, i < n → ∀ j, j < m → V i - V j ≤ Z i j := by unfold hasB; exact decide_eq_true_iff
theorem tight_has {V ml : List Int} {n m : Nat} (hv : ∀ i, -2147483648 ≤ V.getD i 0 ∧ V.getD i 0 ≤ 2147483647) (h8 : ∀ i, 0 ≤ ml.getD i 0 ∧ ml.getD i 0 ≤ 255) : hasB n m (tightZ V ml m) (fun i => V.getD i 0) = true := by
  rw [hasB_iff]
  intro i _ j _
  have h1 := hv i
  have h2 := hv j
  have h3 := tk_bd h8 (i * m + j)
  show V.getD i 0 - V.getD j 0 ≤ tightZ V ml m i j
  unfold tightZ
  split <;> omega
theorem bool_imp {a b : Bool} (h : a = true → b = true) : (a = true → b = true) := h
/-- The laws of order between the three gaps, as truth values. -/
structure Ord9 (b1 b2 b3 b4 b5 b6 b7 b8 b9 : Bool) : Prop where
  h1 : b1 = true → b2 = true → b3 = true
  h2 : b4 = true → b5 = b6
  h3 : b1 = true → b5 = true → b4 = true
  h4 : b7 = true → b8 = true
  h5 : b9 = true → b7 = true
theorem ord9 (n m : Nat) (Zg Zh K : Nat → Nat → Int) (V : Nat → Int) (hK : hasB n m K V = true) :
    Ord9 (leqB n m Zg Zh) (leqB n m Zh Zg) (sameB n m Zg Zh) (leqB n m Zg K) (leqB n m Zh K) (leqB n m (fun i j => max (Zg i j) (Zh i j)) K) (hasB n m Zg V) (hasB n m (fun i j => max (Zg i j) (Zh i j)) V) (leqB n m K Zg) := by
  rw [hasB_iff] at hK
  refine ⟨fun a b => ?_, fun a => ?_, fun a b => ?_, fun a => ?_, fun a => ?_⟩
  · rw [leqB_iff] at a b
    rw [sameB_iff]
    intro i hi j hj
    have := a i hi j hj
    have := b i hi j hj
    omega
  · rw [leqB_iff] at a
    rw [Bool.eq_iff_iff, leqB_iff, leqB_iff]
    constructor
    · intro b i hi j hj
      have := a i hi j hj
      have := b i hi j hj
      show max (Zg i j) (Zh i j) ≤ K i j
      omega
    · intro b i hi j hj
      have h : max (Zg i j) (Zh i j) ≤ K i j := b i hi j hj
      omega
  · rw [leqB_iff] at a b ⊢
    intro i hi j hj
    have := a i hi j hj
    have := b i hi j hj
    omega
  · rw [hasB_iff] at a ⊢
    intro i hi j hj
    have := a i hi j hj
    show V i - V j ≤ max (Zg i j) (Zh i j)
    omega
  · rw [leqB_iff] at a
    rw [hasB_iff]
    intro i hi j hj
    have := a i hi j hj
    have := hK i hi j hj
    omega
set_option maxRecDepth 100000 in
set_option maxHeartbeats 8000000 in
theorem order_walk (w : World) (xa xb : Nat) (hxa : xa < 256) (hxb : xb < 256) (lx : List Int) (ox : Option Addr) (nx kx : Nat) (Lx : lx.length = nx) (hlx : intsIn w lx (.slice ox nx kx)) (lv : List Int) (ov : Option Addr) (nv kv : Nat) (Lv : lv.length = nv) (hlv : kIn .i32 w lv (.slice ov nv kv)) (hv32 : ∀ i, -2147483648 ≤ lv.getD i 0 ∧ lv.getD i 0 ≤ 2147483647) (om0 : Option Addr) (nm0 km0 : Nat) (ya yb : Nat) (ly : List Int) (oy : Option Addr) (ny ky : Nat) (Ly : ly.length = ny) (hly : intsIn w ly (.slice oy ny ky)) (lm : List Int) (om : Option Addr) (nm km : Nat) (Lm : lm.length = nm) (hlm : kIn .u8 w lm (.slice om nm km)) (hm8 : ∀ i, 0 ≤ lm.getD i 0 ∧ lm.getD i 0 ≤ 255) :
    Calls Try.prog 6 #[.agg #[.int .u8 (xa : Int), .int .u8 (xb : Int), .slice ox nx kx, .slice ov nv kv, .slice om0 nm0 km0], .agg #[.int .u8 (ya : Int), .int .u8 (yb : Int), .slice oy ny ky], .slice om nm km] w fun e w' => e = .returned (.bool true) ∧ Below w.heap.size w w' := by
  obtain ⟨w0, hw0⟩ : ∃ w0, ((w.alloc (.cells #[.int .u8 (xa : Int), .int .u8 (xb : Int), .slice ox nx kx, .slice ov nv kv, .slice om0 nm0 km0] 49)).alloc (.cells #[.int .u8 (ya : Int), .int .u8 (yb : Int), .slice oy ny ky] 24)) = w0 := ⟨_, rfl⟩
  have B0 : Hid (Below w.heap.size w w0) := hidA (by rw [← hw0]; exact (((Below.refl _ _).alloc (by first | exact Nat.le_refl _ | (simp; done) | (simp; omega) | omega) _).alloc (by first | exact Nat.le_refl _ | (simp; done) | (simp; omega) | omega) _))
  have hsz : w.heap.size + 1 < w0.heap.size := by rw [← hw0]; simp
  have PK : Hid (∀ W, Below w0.heap.size w0 W → W.cell? ⟨w.heap.size, 0, none⟩ = some (.int .u8 (xa : Int)) ∧ W.cell? ⟨w.heap.size, 1, none⟩ = some (.int .u8 (xb : Int)) ∧ W.cell? ⟨w.heap.size, 2, none⟩ = some (.slice ox nx kx) ∧ W.cell? ⟨w.heap.size, 3, none⟩ = some (.slice ov nv kv) ∧ W.cell? ⟨w.heap.size, 4, none⟩ = some (.slice om0 nm0 km0) ∧ W.cell? ⟨w.heap.size + 1, 0, none⟩ = some (.int .u8 (ya : Int)) ∧ W.cell? ⟨w.heap.size + 1, 1, none⟩ = some (.int .u8 (yb : Int)) ∧ W.cell? ⟨w.heap.size + 1, 2, none⟩ = some (.slice oy ny ky) ∧ w.heap.size < W.heap.size ∧ w.heap.size + 1 < W.heap.size ∧ (∀ i, W.frozen? ⟨w.heap.size + 1, i, none⟩ = false)) := hidA (fun W hW => ⟨cellA hW (by rw [← hw0]; simp [go_sem]), cellA hW (by rw [← hw0]; simp [go_sem]), cellA hW (by rw [← hw0]; simp [go_sem]), cellA hW (by rw [← hw0]; simp [go_sem]), cellA hW (by rw [← hw0]; simp [go_sem]), cellA hW (by rw [← hw0]; simp [go_sem]), cellA hW (by rw [← hw0]; simp [go_sem]), cellA hW (by rw [← hw0]; simp [go_sem]), (by have h0 := hW.size; have h1 := hsz; omega), (by have h0 := hW.size; have h1 := hsz; omega), (fun i => (hW.frozen (p := ⟨w.heap.size + 1, i, none⟩) (show w.heap.size + 1 < w0.heap.size by have h1 := hsz; omega)).trans (by rw [← hw0]; simp [go_sem]))⟩)
  have Hw := hidA hw0; clear hw0
  have HLx := hidA hlx
  have HLy := hidA hly
  have HLv := hidA hlv
  have HLm := hidA hlm
  clear hlx hly hlv hlm
  go_enter Try.func6, Try.ntmps6
  go_upto_region 1 with (fail)
  rw [Hw.out]
  clear Hw
  have HS : Hid (Below w0.heap.size w0 w0) := hidA (Below.refl _ _)
  obtain ⟨c0, c1, c2, c3, c4, c5, c6, c7, z0, z1, fr1⟩ := PK.out _ HS.out
  go_upto_region 4 with ((go_at_call 9; refine (examples_any _).mono ?_; rintro e w1 ⟨rfl, hb⟩; have hs1 := stepA HS.out hb; clear hb; have HS' := hidA hs1; clear HS hs1; clear c0 c1 c2 c3 c4 c5 c6 c7 z0 z1 fr1; have HS := HS'; clear HS'; obtain ⟨c0, c1, c2, c3, c4, c5, c6, c7, z0, z1, fr1⟩ := PK.out _ HS.out))
  go_upto_region 6 with (fail)
  obtain ⟨w2, hw2⟩ : ∃ w2, (w1.setCell ⟨w.heap.size + 1, 0, none⟩ (.int .u8 (xa : Int))).setCell ⟨w.heap.size + 1, 1, none⟩ (.int .u8 (xb : Int)) = w2 := ⟨_, rfl⟩
  have HB : Hid (Below w.heap.size w w2) := hidA (by rw [← hw2]; exact (by repeat (first | with_reducible exact Below.refl _ _ | with_reducible exact HS.out | with_reducible exact B0.out | with_reducible refine Below.setCell ?_ (by first | omega | (dsimp only; omega) | (simp; done) | (simp; omega)) _ | with_reducible refine Below.alloc ?_ (by first | omega | (dsimp only; omega) | (simp; done) | (simp; omega)) _ | with_reducible refine Below.drew ?_ | with_reducible refine drewnA ?_ _ | with_reducible refine Below.trans ?_ (HS.out.mono (by first | omega | (dsimp only; omega) | (simp; done) | (simp; omega))) | with_reducible refine Below.trans ?_ (B0.out.mono (by first | omega | (dsimp only; omega) | (simp; done) | (simp; omega))))))
  have d0 : w2.cell? ⟨w.heap.size, 0, none⟩ = some (.int .u8 (xa : Int)) := by rw [← hw2]; simp [go_sem, c0, c1, c2, c3, c4, c5, c6, c7]
  have d1 : w2.cell? ⟨w.heap.size, 1, none⟩ = some (.int .u8 (xb : Int)) := by rw [← hw2]; simp [go_sem, c0, c1, c2, c3, c4, c5, c6, c7]
  have d2 : w2.cell? ⟨w.heap.size, 2, none⟩ = some (.slice ox nx kx) := by rw [← hw2]; simp [go_sem, c0, c1, c2, c3, c4, c5, c6, c7]
  have d3 : w2.cell? ⟨w.heap.size, 3, none⟩ = some (.slice ov nv kv) := by rw [← hw2]; simp [go_sem, c0, c1, c2, c3, c4, c5, c6, c7]
  have d4 : w2.cell? ⟨w.heap.size, 4, none⟩ = some (.slice om0 nm0 km0) := by rw [← hw2]; simp [go_sem, c0, c1, c2, c3, c4, c5, c6, c7]
  have d5 : w2.cell? ⟨w.heap.size + 1, 0, none⟩ = some (.int .u8 (xa : Int)) := by rw [← hw2]; simp [go_sem, c0, c1, c2, c3, c4, c5, c6, c7]
  have d6 : w2.cell? ⟨w.heap.size + 1, 1, none⟩ = some (.int .u8 (xb : Int)) := by rw [← hw2]; simp [go_sem, c0, c1, c2, c3, c4, c5, c6, c7]
  have d7 : w2.cell? ⟨w.heap.size + 1, 2, none⟩ = some (.slice oy ny ky) := by rw [← hw2]; simp [go_sem, c0, c1, c2, c3, c4, c5, c6, c7]
  rw [hw2]
  clear hw2 c0 c1 c2 c3 c4 c5 c6 c7 z0 z1 fr1 PK B0 HS hsz
  have Ix := hidA (intsIn_below HB.out HLx.out)
  have Iy := hidA (intsIn_below HB.out HLy.out)
  have Kv := hidA (kIn_below HB.out HLv.out)
  have Km := hidA (kIn_below HB.out HLm.out)
  clear HLx HLy HLv HLm
  obtain ⟨n, hn'⟩ : ∃ n, varsN xa = n := ⟨_, rfl⟩
  obtain ⟨m, hm'⟩ : ∃ m, parN xa xb = m := ⟨_, rfl⟩
  have n5 : n ≤ 5 := by rw [← hn']; exact (varsN_bd xa).2
  have m3 : m ≤ 3 := by rw [← hm']; exact (parN_bd xa xb).1
  have hmn := hidA (show m ≤ n by rw [← hm', ← hn']; exact (parN_bd xa xb).2)
  have hn := hidA hn'
  have hm := hidA hm'
  clear hn' hm'
  obtain ⟨Zg, eg⟩ : ∃ Z, madeZ lx m = Z := ⟨_, rfl⟩
  obtain ⟨Zh, eh⟩ : ∃ Z, madeZ ly m = Z := ⟨_, rfl⟩
  have Zge := hidA eg
  have Zhe := hidA eh
  clear eg eh
  obtain ⟨V, eV⟩ : ∃ V, valsL n lv = V := ⟨_, rfl⟩
  have LW := hidA (show V.length = n by rw [← eV]; exact valsL_len n lv)
  have HW32 := hidA (show ∀ i, -2147483648 ≤ V.getD i 0 ∧ V.getD i 0 ≤ 2147483647 by rw [← eV]; exact valsL_bd n hv32)
  obtain ⟨K, eK⟩ : ∃ K, tightZ V lm m = K := ⟨_, rfl⟩
  have hK : hasB n m K (fun i => V.getD i 0) = true := by rw [← eK]; exact tight_has HW32.out hm8
  have O9 := ord9 n m Zg Zh K _ hK
  have HK := hidA hK
  have HVe := hidA eV
  have HKe := hidA eK
  have hv32 := hidA hv32
  have hm8 := hidA hm8
  have Lx := hidA Lx
  have Ly := hidA Ly
  have Lv := hidA Lv
  have Lm := hidA Lm
  clear hK eV eK
  obtain ⟨b1, q1⟩ : ∃ b, leqB n m Zg Zh = b := ⟨_, rfl⟩
  obtain ⟨b2, q2⟩ : ∃ b, leqB n m Zh Zg = b := ⟨_, rfl⟩
  obtain ⟨b3, q3⟩ : ∃ b, sameB n m Zg Zh = b := ⟨_, rfl⟩
  obtain ⟨b4, q4⟩ : ∃ b, leqB n m Zg K = b := ⟨_, rfl⟩
  obtain ⟨b5, q5⟩ : ∃ b, leqB n m Zh K = b := ⟨_, rfl⟩
  obtain ⟨b6, q6⟩ : ∃ b, leqB n m (fun i j => max (Zg i j) (Zh i j)) K = b := ⟨_, rfl⟩
  obtain ⟨b7, q7⟩ : ∃ b, hasB n m Zg (fun i => V.getD i 0) = b := ⟨_, rfl⟩
  obtain ⟨b8, q8⟩ : ∃ b, hasB n m (fun i j => max (Zg i j) (Zh i j)) (fun i => V.getD i 0) = b := ⟨_, rfl⟩
  obtain ⟨b9, q9⟩ : ∃ b, leqB n m K Zg = b := ⟨_, rfl⟩
  rw [q1, q2, q3, q4, q5, q6, q7, q8, q9] at O9
  have O9 := hidA O9
  have q0 : Hid (leqB n m Zg Zg = true) := hidA (leqB_iff.2 fun i _ j _ => Int.le_refl _)
  have qa : Hid (leqB n m Zg (fun i j => max (Zg i j) (Zh i j)) = true) := hidA (leqB_iff.2 fun i _ j _ => by show Zg i j ≤ max (Zg i j) (Zh i j); omega)
  have qb : Hid (leqB n m Zh (fun i j => max (Zg i j) (Zh i j)) = true) := hidA (leqB_iff.2 fun i _ j _ => by show Zh i j ≤ max (Zg i j) (Zh i j); omega)
  have qc : Hid (sameB n m (fun i j => max (Zg i j) (Zh i j)) (fun i j => max (Zh i j) (Zg i j)) = true) := hidA (sameB_iff.2 fun i _ j _ => by show max (Zg i j) (Zh i j) = max (Zh i j) (Zg i j); omega)
  have qd : Hid (sameB n m (fun i j => max (Zg i j) (Zg i j)) Zg = true) := hidA (sameB_iff.2 fun i _ j _ => by show max (Zg i j) (Zg i j) = Zg i j; omega)
  have qe : Hid (sameB n m (fun i j => max (Zg i j) (Zh i j)) Zh = b1) := hidA (by
    rw [← q1, Bool.eq_iff_iff, sameB_iff, leqB_iff]
    constructor
    · intro h i hi j hj
      have : max (Zg i j) (Zh i j) = Zh i j := h i hi j hj
      omega
    · intro h i hi j hj
      have := h i hi j hj
      show max (Zg i j) (Zh i j) = Zh i j
      omega)
  have qf : Hid (hasB n m (fun i j => max (K i j) (Zg i j)) (fun i => V.getD i 0) = true) := hidA (hasB_iff.2 fun i hi j hj => by
    have := hasB_iff.1 HK.out i hi j hj
    show V.getD i 0 - V.getD j 0 ≤ max (K i j) (Zg i j)
    omega)
  have q1 := hidA q1
  have q2 := hidA q2
  have q3 := hidA q3
  have q4 := hidA q4
  have q5 := hidA q5
  have q6 := hidA q6
  have q7 := hidA q7
  have q8 := hidA q8
  have q9 := hidA q9
  go_upto_region 7 with ((go_at_call 10; (with_reducible refine ((made3 hn.out hm.out _ hxa hxb lx ox nx kx Lx.out Ix.out Zge.out)).mono ?_); rintro e w1 ⟨bg, cg, Rg, Cg, rfl, hg, hb⟩; have HB' := hidA (stepA HB.out hb); clear HB; have HB := HB'; clear HB'; have d0' := cellA hb d0; clear d0; have d0 := d0'; clear d0'; have d1' := cellA hb d1; clear d1; have d1 := d1'; clear d1'; have d2' := cellA hb d2; clear d2; have d2 := d2'; clear d2'; have d3' := cellA hb d3; clear d3; have d3 := d3'; clear d3'; have d4' := cellA hb d4; clear d4; have d4 := d4'; clear d4'; have d5' := cellA hb d5; clear d5; have d5 := d5'; clear d5'; have d6' := cellA hb d6; clear d6; have d6 := d6'; clear d6'; have d7' := cellA hb d7; clear d7; have d7 := d7'; clear d7'; have Ix' := hidA (intsIn_below hb Ix.out); clear Ix; have Ix := Ix'; clear Ix'; have Iy' := hidA (intsIn_below hb Iy.out); clear Iy; have Iy := Iy'; clear Iy'; have Kv' := hidA (kIn_below hb Kv.out); clear Kv; have Kv := Kv'; clear Kv'; have Km' := hidA (kIn_below hb Km.out); clear Km; have Km := Km'; clear Km'; clear hb; have Hg := hidA hg; clear hg))
  go_upto_region 8 with ((go_at_call 10; (with_reducible refine ((made3 hn.out hm.out _ hxa hxb ly oy ny ky Ly.out Iy.out Zhe.out)).mono ?_); rintro e w2 ⟨bh, ch, Rh, Ch, rfl, hg, hb⟩; have HB' := hidA (stepA HB.out hb); clear HB; have HB := HB'; clear HB'; have Hg' := hidA (Hg.out.belowA hb); clear Hg; have Hg := Hg'; clear Hg'; have d0' := cellA hb d0; clear d0; have d0 := d0'; clear d0'; have d1' := cellA hb d1; clear d1; have d1 := d1'; clear d1'; have d2' := cellA hb d2; clear d2; have d2 := d2'; clear d2'; have d3' := cellA hb d3; clear d3; have d3 := d3'; clear d3'; have d4' := cellA hb d4; clear d4; have d4 := d4'; clear d4'; have d5' := cellA hb d5; clear d5; have d5 := d5'; clear d5'; have d6' := cellA hb d6; clear d6; have d6 := d6'; clear d6'; have d7' := cellA hb d7; clear d7; have d7 := d7'; clear d7'; have Ix' := hidA (intsIn_below hb Ix.out); clear Ix; have Ix := Ix'; clear Ix'; have Iy' := hidA (intsIn_below hb Iy.out); clear Iy; have Iy := Iy'; clear Iy'; have Kv' := hidA (kIn_below hb Kv.out); clear Kv; have Kv := Kv'; clear Kv'; have Km' := hidA (kIn_below hb Km.out); clear Km; have Km := Km'; clear Km'; clear hb; have Hh := hidA hg; clear hg))
  go_upto_region 9 with ((go_at_call 31; (with_reducible refine (values_any _ bg n cg n5 lv ov nv kv Lv.out Kv.out hv32.out).mono ?_); rintro e w5 ⟨gv, cv, rfl, -, hi, hb⟩; have HB' := hidA (stepA HB.out hb); clear HB; have HB := HB'; clear HB'; have Hg' := hidA (Hg.out.belowA hb); clear Hg; have Hg := Hg'; clear Hg'; have Hh' := hidA (Hh.out.belowA hb); clear Hh; have Hh := Hh'; clear Hh'; have d0' := cellA hb d0; clear d0; have d0 := d0'; clear d0'; have d1' := cellA hb d1; clear d1; have d1 := d1'; clear d1'; have d2' := cellA hb d2; clear d2; have d2 := d2'; clear d2'; have d3' := cellA hb d3; clear d3; have d3 := d3'; clear d3'; have d4' := cellA hb d4; clear d4; have d4 := d4'; clear d4'; have d5' := cellA hb d5; clear d5; have d5 := d5'; clear d5'; have d6' := cellA hb d6; clear d6; have d6 := d6'; clear d6'; have d7' := cellA hb d7; clear d7; have d7 := d7'; clear d7'; have Ix' := hidA (intsIn_below hb Ix.out); clear Ix; have Ix := Ix'; clear Ix'; have Iy' := hidA (intsIn_below hb Iy.out); clear Iy; have Iy := Iy'; clear Iy'; have Kv' := hidA (kIn_below hb Kv.out); clear Kv; have Kv := Kv'; clear Kv'; have Km' := hidA (kIn_below hb Km.out); clear Km; have Km := Km'; clear Km'; clear hb; rw [HVe.out] at hi; have Iw := hidA hi; clear hi))
  go_upto_region 10 with ((go_at_call 32; (with_reducible refine ((tight_any _ cg Hg.out n5 m3 hmn.out V (some ⟨gv, 0, none⟩) cv Iw.out LW.out HW32.out lm om nm km Lm.out Km.out hm8.out)).mono ?_); rintro e w3 ⟨bk, ck, Rk, Ck, rfl, hg, hb⟩; have HB' := hidA (stepA HB.out hb); clear HB; have HB := HB'; clear HB'; have Hg' := hidA (Hg.out.belowA hb); clear Hg; have Hg := Hg'; clear Hg'; have Hh' := hidA (Hh.out.belowA hb); clear Hh; have Hh := Hh'; clear Hh'; have d0' := cellA hb d0; clear d0; have d0 := d0'; clear d0'; have d1' := cellA hb d1; clear d1; have d1 := d1'; clear d1'; have d2' := cellA hb d2; clear d2; have d2 := d2'; clear d2'; have d3' := cellA hb d3; clear d3; have d3 := d3'; clear d3'; have d4' := cellA hb d4; clear d4; have d4 := d4'; clear d4'; have d5' := cellA hb d5; clear d5; have d5 := d5'; clear d5'; have d6' := cellA hb d6; clear d6; have d6 := d6'; clear d6'; have d7' := cellA hb d7; clear d7; have d7 := d7'; clear d7'; have Ix' := hidA (intsIn_below hb Ix.out); clear Ix; have Ix := Ix'; clear Ix'; have Iy' := hidA (intsIn_below hb Iy.out); clear Iy; have Iy := Iy'; clear Iy'; have Iw' := hidA (intsIn_below hb Iw.out); clear Iw; have Iw := Iw'; clear Iw'; have Kv' := hidA (kIn_below hb Kv.out); clear Kv; have Kv := Kv'; clear Kv'; have Km' := hidA (kIn_below hb Km.out); clear Km; have Km := Km'; clear Km'; clear hb; have Hk := hidA hg; clear hg; rw [HKe.out] at Hk))
  go_upto_region 11 with ((go_at_call 19; (with_reducible refine ((join_r cg Hg.out ch Hh.out n5 m3)).mono ?_); rintro e w4 ⟨bj, cj, Rj, Cj, rfl, hg, hb⟩; have HB' := hidA (stepA HB.out hb); clear HB; have HB := HB'; clear HB'; have Hg' := hidA (Hg.out.belowA hb); clear Hg; have Hg := Hg'; clear Hg'; have Hh' := hidA (Hh.out.belowA hb); clear Hh; have Hh := Hh'; clear Hh'; have Hk' := hidA (Hk.out.belowA hb); clear Hk; have Hk := Hk'; clear Hk'; have d0' := cellA hb d0; clear d0; have d0 := d0'; clear d0'; have d1' := cellA hb d1; clear d1; have d1 := d1'; clear d1'; have d2' := cellA hb d2; clear d2; have d2 := d2'; clear d2'; have d3' := cellA hb d3; clear d3; have d3 := d3'; clear d3'; have d4' := cellA hb d4; clear d4; have d4 := d4'; clear d4'; have d5' := cellA hb d5; clear d5; have d5 := d5'; clear d5'; have d6' := cellA hb d6; clear d6; have d6 := d6'; clear d6'; have d7' := cellA hb d7; clear d7; have d7 := d7'; clear d7'; have Ix' := hidA (intsIn_below hb Ix.out); clear Ix; have Ix := Ix'; clear Ix'; have Iy' := hidA (intsIn_below hb Iy.out); clear Iy; have Iy := Iy'; clear Iy'; have Iw' := hidA (intsIn_below hb Iw.out); clear Iw; have Iw := Iw'; clear Iw'; have Kv' := hidA (kIn_below hb Kv.out); clear Kv; have Kv := Kv'; clear Kv'; have Km' := hidA (kIn_below hb Km.out); clear Km; have Km := Km'; clear Km'; clear hb; have Hj := hidA hg; clear hg))
  go_upto_region 13 with (first
    | ((go_at_call 23; (with_reducible refine (leq_r cg Hg.out cg Hg.out n5 m3 q0.out).mono ?_); rintro e v1 ⟨rfl, rfl⟩))
    | ((go_at_call 23; (with_reducible refine (leq_r cg Hg.out cj Hj.out n5 m3 qa.out).mono ?_); rintro e v1 ⟨rfl, rfl⟩))
    | ((go_at_call 23; (with_reducible refine (leq_r ch Hh.out cj Hj.out n5 m3 qb.out).mono ?_); rintro e v1 ⟨rfl, rfl⟩))
    | ((go_at_call 23; (with_reducible refine (leq_r cg Hg.out ch Hh.out n5 m3 q1.out).mono ?_); rintro e v1 ⟨rfl, rfl⟩))
    | ((go_at_call 19; (with_reducible refine ((join_r ch Hh.out cg Hg.out n5 m3)).mono ?_); rintro e w5 ⟨bp, cp, Rp, Cp, rfl, hg, hb⟩; have HB' := hidA (stepA HB.out hb); clear HB; have HB := HB'; clear HB'; have Hg' := hidA (Hg.out.belowA hb); clear Hg; have Hg := Hg'; clear Hg'; have Hh' := hidA (Hh.out.belowA hb); clear Hh; have Hh := Hh'; clear Hh'; have Hk' := hidA (Hk.out.belowA hb); clear Hk; have Hk := Hk'; clear Hk'; have Hj' := hidA (Hj.out.belowA hb); clear Hj; have Hj := Hj'; clear Hj'; have d0' := cellA hb d0; clear d0; have d0 := d0'; clear d0'; have d1' := cellA hb d1; clear d1; have d1 := d1'; clear d1'; have d2' := cellA hb d2; clear d2; have d2 := d2'; clear d2'; have d3' := cellA hb d3; clear d3; have d3 := d3'; clear d3'; have d4' := cellA hb d4; clear d4; have d4 := d4'; clear d4'; have d5' := cellA hb d5; clear d5; have d5 := d5'; clear d5'; have d6' := cellA hb d6; clear d6; have d6 := d6'; clear d6'; have d7' := cellA hb d7; clear d7; have d7 := d7'; clear d7'; have Ix' := hidA (intsIn_below hb Ix.out); clear Ix; have Ix := Ix'; clear Ix'; have Iy' := hidA (intsIn_below hb Iy.out); clear Iy; have Iy := Iy'; clear Iy'; have Iw' := hidA (intsIn_below hb Iw.out); clear Iw; have Iw := Iw'; clear Iw'; have Kv' := hidA (kIn_below hb Kv.out); clear Kv; have Kv := Kv'; clear Kv'; have Km' := hidA (kIn_below hb Km.out); clear Km; have Km := Km'; clear Km'; clear hb; have Hp := hidA hg; clear hg))
    | ((go_at_call 12; (with_reducible refine ((same_r cj Hj.out cp Hp.out n5 m3 qc.out)).mono ?_); rintro e w6 ⟨rfl, hb⟩; have HB' := hidA (stepA HB.out hb); clear HB; have HB := HB'; clear HB'; have Hg' := hidA (Hg.out.belowA hb); clear Hg; have Hg := Hg'; clear Hg'; have Hh' := hidA (Hh.out.belowA hb); clear Hh; have Hh := Hh'; clear Hh'; have Hk' := hidA (Hk.out.belowA hb); clear Hk; have Hk := Hk'; clear Hk'; have Hj' := hidA (Hj.out.belowA hb); clear Hj; have Hj := Hj'; clear Hj'; have Hp' := hidA (Hp.out.belowA hb); clear Hp; have Hp := Hp'; clear Hp'; have d0' := cellA hb d0; clear d0; have d0 := d0'; clear d0'; have d1' := cellA hb d1; clear d1; have d1 := d1'; clear d1'; have d2' := cellA hb d2; clear d2; have d2 := d2'; clear d2'; have d3' := cellA hb d3; clear d3; have d3 := d3'; clear d3'; have d4' := cellA hb d4; clear d4; have d4 := d4'; clear d4'; have d5' := cellA hb d5; clear d5; have d5 := d5'; clear d5'; have d6' := cellA hb d6; clear d6; have d6 := d6'; clear d6'; have d7' := cellA hb d7; clear d7; have d7 := d7'; clear d7'; have Ix' := hidA (intsIn_below hb Ix.out); clear Ix; have Ix := Ix'; clear Ix'; have Iy' := hidA (intsIn_below hb Iy.out); clear Iy; have Iy := Iy'; clear Iy'; have Iw' := hidA (intsIn_below hb Iw.out); clear Iw; have Iw := Iw'; clear Iw'; have Kv' := hidA (kIn_below hb Kv.out); clear Kv; have Kv := Kv'; clear Kv'; have Km' := hidA (kIn_below hb Km.out); clear Km; have Km := Km'; clear Km'; clear hb))
    | ((go_at_call 19; (with_reducible refine ((join_r cg Hg.out cg Hg.out n5 m3)).mono ?_); rintro e w7 ⟨br, cr, Rr, Cr, rfl, hg, hb⟩; have HB' := hidA (stepA HB.out hb); clear HB; have HB := HB'; clear HB'; have Hg' := hidA (Hg.out.belowA hb); clear Hg; have Hg := Hg'; clear Hg'; have Hh' := hidA (Hh.out.belowA hb); clear Hh; have Hh := Hh'; clear Hh'; have Hk' := hidA (Hk.out.belowA hb); clear Hk; have Hk := Hk'; clear Hk'; have Hj' := hidA (Hj.out.belowA hb); clear Hj; have Hj := Hj'; clear Hj'; have Hp' := hidA (Hp.out.belowA hb); clear Hp; have Hp := Hp'; clear Hp'; have d0' := cellA hb d0; clear d0; have d0 := d0'; clear d0'; have d1' := cellA hb d1; clear d1; have d1 := d1'; clear d1'; have d2' := cellA hb d2; clear d2; have d2 := d2'; clear d2'; have d3' := cellA hb d3; clear d3; have d3 := d3'; clear d3'; have d4' := cellA hb d4; clear d4; have d4 := d4'; clear d4'; have d5' := cellA hb d5; clear d5; have d5 := d5'; clear d5'; have d6' := cellA hb d6; clear d6; have d6 := d6'; clear d6'; have d7' := cellA hb d7; clear d7; have d7 := d7'; clear d7'; have Ix' := hidA (intsIn_below hb Ix.out); clear Ix; have Ix := Ix'; clear Ix'; have Iy' := hidA (intsIn_below hb Iy.out); clear Iy; have Iy := Iy'; clear Iy'; have Iw' := hidA (intsIn_below hb Iw.out); clear Iw; have Iw := Iw'; clear Iw'; have Kv' := hidA (kIn_below hb Kv.out); clear Kv; have Kv := Kv'; clear Kv'; have Km' := hidA (kIn_below hb Km.out); clear Km; have Km := Km'; clear Km'; clear hb; have Hr := hidA hg; clear hg))
    | ((go_at_call 12; (with_reducible refine ((same_r cr Hr.out cg Hg.out n5 m3 qd.out)).mono ?_); rintro e w8 ⟨rfl, hb⟩; have HB' := hidA (stepA HB.out hb); clear HB; have HB := HB'; clear HB'; have Hg' := hidA (Hg.out.belowA hb); clear Hg; have Hg := Hg'; clear Hg'; have Hh' := hidA (Hh.out.belowA hb); clear Hh; have Hh := Hh'; clear Hh'; have Hk' := hidA (Hk.out.belowA hb); clear Hk; have Hk := Hk'; clear Hk'; have Hj' := hidA (Hj.out.belowA hb); clear Hj; have Hj := Hj'; clear Hj'; have Hp' := hidA (Hp.out.belowA hb); clear Hp; have Hp := Hp'; clear Hp'; have Hr' := hidA (Hr.out.belowA hb); clear Hr; have Hr := Hr'; clear Hr'; have d0' := cellA hb d0; clear d0; have d0 := d0'; clear d0'; have d1' := cellA hb d1; clear d1; have d1 := d1'; clear d1'; have d2' := cellA hb d2; clear d2; have d2 := d2'; clear d2'; have d3' := cellA hb d3; clear d3; have d3 := d3'; clear d3'; have d4' := cellA hb d4; clear d4; have d4 := d4'; clear d4'; have d5' := cellA hb d5; clear d5; have d5 := d5'; clear d5'; have d6' := cellA hb d6; clear d6; have d6 := d6'; clear d6'; have d7' := cellA hb d7; clear d7; have d7 := d7'; clear d7'; have Ix' := hidA (intsIn_below hb Ix.out); clear Ix; have Ix := Ix'; clear Ix'; have Iy' := hidA (intsIn_below hb Iy.out); clear Iy; have Iy := Iy'; clear Iy'; have Iw' := hidA (intsIn_below hb Iw.out); clear Iw; have Iw := Iw'; clear Iw'; have Kv' := hidA (kIn_below hb Kv.out); clear Kv; have Kv := Kv'; clear Kv'; have Km' := hidA (kIn_below hb Km.out); clear Km; have Km := Km'; clear Km'; clear hb))
    | ((go_at_call 12; (with_reducible refine ((same_r cj Hj.out ch Hh.out n5 m3 qe.out)).mono ?_); rintro e w9 ⟨rfl, hb⟩; have HB' := hidA (stepA HB.out hb); clear HB; have HB := HB'; clear HB'; have Hg' := hidA (Hg.out.belowA hb); clear Hg; have Hg := Hg'; clear Hg'; have Hh' := hidA (Hh.out.belowA hb); clear Hh; have Hh := Hh'; clear Hh'; have Hk' := hidA (Hk.out.belowA hb); clear Hk; have Hk := Hk'; clear Hk'; have Hj' := hidA (Hj.out.belowA hb); clear Hj; have Hj := Hj'; clear Hj'; have Hp' := hidA (Hp.out.belowA hb); clear Hp; have Hp := Hp'; clear Hp'; have Hr' := hidA (Hr.out.belowA hb); clear Hr; have Hr := Hr'; clear Hr'; have d0' := cellA hb d0; clear d0; have d0 := d0'; clear d0'; have d1' := cellA hb d1; clear d1; have d1 := d1'; clear d1'; have d2' := cellA hb d2; clear d2; have d2 := d2'; clear d2'; have d3' := cellA hb d3; clear d3; have d3 := d3'; clear d3'; have d4' := cellA hb d4; clear d4; have d4 := d4'; clear d4'; have d5' := cellA hb d5; clear d5; have d5 := d5'; clear d5'; have d6' := cellA hb d6; clear d6; have d6 := d6'; clear d6'; have d7' := cellA hb d7; clear d7; have d7 := d7'; clear d7'; have Ix' := hidA (intsIn_below hb Ix.out); clear Ix; have Ix := Ix'; clear Ix'; have Iy' := hidA (intsIn_below hb Iy.out); clear Iy; have Iy := Iy'; clear Iy'; have Iw' := hidA (intsIn_below hb Iw.out); clear Iw; have Iw := Iw'; clear Iw'; have Kv' := hidA (kIn_below hb Kv.out); clear Kv; have Kv := Kv'; clear Kv'; have Km' := hidA (kIn_below hb Km.out); clear Km; have Km := Km'; clear Km'; clear hb)))
  clear  Ix Iy Kv Km q0 qa qb qc qd qe Hp Hr HVe HKe hv32 hm8 Lx Ly Lv Lm Zge Zhe hn hm
  go_cut [124] (fun s W => s = .bool false ∧ Below w9.heap.size w9 W)
  case first =>
    have HB9 := HB
    clear HB
    have HB := hidA (Below.refl w9.heap.size w9)
    have O1 := O9.out.h1
    have O2 := O9.out.h2
    have O3 := O9.out.h3
    clear q7 q8 q9 qf HK O9
    cases b1
    · cases b4
      · clear O1 O2 O3
        go_wp2_with (first
          | ((go_at_call 23; (with_reducible refine (leq_r cg Hg.out ch Hh.out n5 m3 q1.out).mono ?_); rintro e v1 ⟨rfl, rfl⟩))
          | ((go_at_call 23; (with_reducible refine (leq_r ch Hh.out cg Hg.out n5 m3 q2.out).mono ?_); rintro e v1 ⟨rfl, rfl⟩))
          | ((go_at_call 12; (with_reducible refine ((same_r cg Hg.out ch Hh.out n5 m3 q3.out)).mono ?_); rintro e w10 ⟨rfl, hb⟩; have HB' := hidA (stepA HB.out hb); clear HB; have HB := HB'; clear HB'; have Hg' := hidA (Hg.out.belowA hb); clear Hg; have Hg := Hg'; clear Hg'; have Hh' := hidA (Hh.out.belowA hb); clear Hh; have Hh := Hh'; clear Hh'; have Hk' := hidA (Hk.out.belowA hb); clear Hk; have Hk := Hk'; clear Hk'; have Hj' := hidA (Hj.out.belowA hb); clear Hj; have Hj := Hj'; clear Hj'; have Iw' := hidA (intsIn_below hb Iw.out); clear Iw; have Iw := Iw'; clear Iw'; clear hb))
          | ((go_at_call 23; (with_reducible refine (leq_r cg Hg.out ck Hk.out n5 m3 q4.out).mono ?_); rintro e v1 ⟨rfl, rfl⟩))
          | ((go_at_call 23; (with_reducible refine (leq_r ch Hh.out ck Hk.out n5 m3 q5.out).mono ?_); rintro e v1 ⟨rfl, rfl⟩))
          | ((go_at_call 23; (with_reducible refine (leq_r cj Hj.out ck Hk.out n5 m3 q6.out).mono ?_); rintro e v1 ⟨rfl, rfl⟩)))
        go_meet
        exact ⟨rfl, HB.out⟩
      · obtain rfl : b5 = b6 := O2 rfl
        clear O1 O2 O3
        cases b5
        · skip
          go_wp2_with (first
            | ((go_at_call 23; (with_reducible refine (leq_r cg Hg.out ch Hh.out n5 m3 q1.out).mono ?_); rintro e v1 ⟨rfl, rfl⟩))
            | ((go_at_call 23; (with_reducible refine (leq_r ch Hh.out cg Hg.out n5 m3 q2.out).mono ?_); rintro e v1 ⟨rfl, rfl⟩))
            | ((go_at_call 12; (with_reducible refine ((same_r cg Hg.out ch Hh.out n5 m3 q3.out)).mono ?_); rintro e w10 ⟨rfl, hb⟩; have HB' := hidA (stepA HB.out hb); clear HB; have HB := HB'; clear HB'; have Hg' := hidA (Hg.out.belowA hb); clear Hg; have Hg := Hg'; clear Hg'; have Hh' := hidA (Hh.out.belowA hb); clear Hh; have Hh := Hh'; clear Hh'; have Hk' := hidA (Hk.out.belowA hb); clear Hk; have Hk := Hk'; clear Hk'; have Hj' := hidA (Hj.out.belowA hb); clear Hj; have Hj := Hj'; clear Hj'; have Iw' := hidA (intsIn_below hb Iw.out); clear Iw; have Iw := Iw'; clear Iw'; clear hb))
            | ((go_at_call 23; (with_reducible refine (leq_r cg Hg.out ck Hk.out n5 m3 q4.out).mono ?_); rintro e v1 ⟨rfl, rfl⟩))
            | ((go_at_call 23; (with_reducible refine (leq_r ch Hh.out ck Hk.out n5 m3 q5.out).mono ?_); rintro e v1 ⟨rfl, rfl⟩))
            | ((go_at_call 23; (with_reducible refine (leq_r cj Hj.out ck Hk.out n5 m3 q6.out).mono ?_); rintro e v1 ⟨rfl, rfl⟩)))
          go_meet
          exact ⟨rfl, HB.out⟩
        · skip
          go_wp2_with (first
            | ((go_at_call 23; (with_reducible refine (leq_r cg Hg.out ch Hh.out n5 m3 q1.out).mono ?_); rintro e v1 ⟨rfl, rfl⟩))
            | ((go_at_call 23; (with_reducible refine (leq_r ch Hh.out cg Hg.out n5 m3 q2.out).mono ?_); rintro e v1 ⟨rfl, rfl⟩))
            | ((go_at_call 12; (with_reducible refine ((same_r cg Hg.out ch Hh.out n5 m3 q3.out)).mono ?_); rintro e w10 ⟨rfl, hb⟩; have HB' := hidA (stepA HB.out hb); clear HB; have HB := HB'; clear HB'; have Hg' := hidA (Hg.out.belowA hb); clear Hg; have Hg := Hg'; clear Hg'; have Hh' := hidA (Hh.out.belowA hb); clear Hh; have Hh := Hh'; clear Hh'; have Hk' := hidA (Hk.out.belowA hb); clear Hk; have Hk := Hk'; clear Hk'; have Hj' := hidA (Hj.out.belowA hb); clear Hj; have Hj := Hj'; clear Hj'; have Iw' := hidA (intsIn_below hb Iw.out); clear Iw; have Iw := Iw'; clear Iw'; clear hb))
            | ((go_at_call 23; (with_reducible refine (leq_r cg Hg.out ck Hk.out n5 m3 q4.out).mono ?_); rintro e v1 ⟨rfl, rfl⟩))
            | ((go_at_call 23; (with_reducible refine (leq_r ch Hh.out ck Hk.out n5 m3 q5.out).mono ?_); rintro e v1 ⟨rfl, rfl⟩))
            | ((go_at_call 23; (with_reducible refine (leq_r cj Hj.out ck Hk.out n5 m3 q6.out).mono ?_); rintro e v1 ⟨rfl, rfl⟩)))
          go_meet
          exact ⟨rfl, HB.out⟩
    · cases b2
      · clear O1
        cases b4
        · have O4 : b5 = false := by cases b5; · rfl
                                     · exact absurd (O3 rfl rfl) (by decide)
          subst O4
          clear O2 O3
          go_wp2_with (first
            | ((go_at_call 23; (with_reducible refine (leq_r cg Hg.out ch Hh.out n5 m3 q1.out).mono ?_); rintro e v1 ⟨rfl, rfl⟩))
            | ((go_at_call 23; (with_reducible refine (leq_r ch Hh.out cg Hg.out n5 m3 q2.out).mono ?_); rintro e v1 ⟨rfl, rfl⟩))
            | ((go_at_call 12; (with_reducible refine ((same_r cg Hg.out ch Hh.out n5 m3 q3.out)).mono ?_); rintro e w10 ⟨rfl, hb⟩; have HB' := hidA (stepA HB.out hb); clear HB; have HB := HB'; clear HB'; have Hg' := hidA (Hg.out.belowA hb); clear Hg; have Hg := Hg'; clear Hg'; have Hh' := hidA (Hh.out.belowA hb); clear Hh; have Hh := Hh'; clear Hh'; have Hk' := hidA (Hk.out.belowA hb); clear Hk; have Hk := Hk'; clear Hk'; have Hj' := hidA (Hj.out.belowA hb); clear Hj; have Hj := Hj'; clear Hj'; have Iw' := hidA (intsIn_below hb Iw.out); clear Iw; have Iw := Iw'; clear Iw'; clear hb))
            | ((go_at_call 23; (with_reducible refine (leq_r cg Hg.out ck Hk.out n5 m3 q4.out).mono ?_); rintro e v1 ⟨rfl, rfl⟩))
            | ((go_at_call 23; (with_reducible refine (leq_r ch Hh.out ck Hk.out n5 m3 q5.out).mono ?_); rintro e v1 ⟨rfl, rfl⟩))
            | ((go_at_call 23; (with_reducible refine (leq_r cj Hj.out ck Hk.out n5 m3 q6.out).mono ?_); rintro e v1 ⟨rfl, rfl⟩)))
          go_meet
          exact ⟨rfl, HB.out⟩
        · obtain rfl : b5 = b6 := O2 rfl
          clear O2 O3
          cases b5
          · skip
            go_wp2_with (first
              | ((go_at_call 23; (with_reducible refine (leq_r cg Hg.out ch Hh.out n5 m3 q1.out).mono ?_); rintro e v1 ⟨rfl, rfl⟩))
              | ((go_at_call 23; (with_reducible refine (leq_r ch Hh.out cg Hg.out n5 m3 q2.out).mono ?_); rintro e v1 ⟨rfl, rfl⟩))
              | ((go_at_call 12; (with_reducible refine ((same_r cg Hg.out ch Hh.out n5 m3 q3.out)).mono ?_); rintro e w10 ⟨rfl, hb⟩; have HB' := hidA (stepA HB.out hb); clear HB; have HB := HB'; clear HB'; have Hg' := hidA (Hg.out.belowA hb); clear Hg; have Hg := Hg'; clear Hg'; have Hh' := hidA (Hh.out.belowA hb); clear Hh; have Hh := Hh'; clear Hh'; have Hk' := hidA (Hk.out.belowA hb); clear Hk; have Hk := Hk'; clear Hk'; have Hj' := hidA (Hj.out.belowA hb); clear Hj; have Hj := Hj'; clear Hj'; have Iw' := hidA (intsIn_below hb Iw.out); clear Iw; have Iw := Iw'; clear Iw'; clear hb))
              | ((go_at_call 23; (with_reducible refine (leq_r cg Hg.out ck Hk.out n5 m3 q4.out).mono ?_); rintro e v1 ⟨rfl, rfl⟩))
              | ((go_at_call 23; (with_reducible refine (leq_r ch Hh.out ck Hk.out n5 m3 q5.out).mono ?_); rintro e v1 ⟨rfl, rfl⟩))
              | ((go_at_call 23; (with_reducible refine (leq_r cj Hj.out ck Hk.out n5 m3 q6.out).mono ?_); rintro e v1 ⟨rfl, rfl⟩)))
            go_meet
            exact ⟨rfl, HB.out⟩
          · skip
            go_wp2_with (first
              | ((go_at_call 23; (with_reducible refine (leq_r cg Hg.out ch Hh.out n5 m3 q1.out).mono ?_); rintro e v1 ⟨rfl, rfl⟩))
              | ((go_at_call 23; (with_reducible refine (leq_r ch Hh.out cg Hg.out n5 m3 q2.out).mono ?_); rintro e v1 ⟨rfl, rfl⟩))
              | ((go_at_call 12; (with_reducible refine ((same_r cg Hg.out ch Hh.out n5 m3 q3.out)).mono ?_); rintro e w10 ⟨rfl, hb⟩; have HB' := hidA (stepA HB.out hb); clear HB; have HB := HB'; clear HB'; have Hg' := hidA (Hg.out.belowA hb); clear Hg; have Hg := Hg'; clear Hg'; have Hh' := hidA (Hh.out.belowA hb); clear Hh; have Hh := Hh'; clear Hh'; have Hk' := hidA (Hk.out.belowA hb); clear Hk; have Hk := Hk'; clear Hk'; have Hj' := hidA (Hj.out.belowA hb); clear Hj; have Hj := Hj'; clear Hj'; have Iw' := hidA (intsIn_below hb Iw.out); clear Iw; have Iw := Iw'; clear Iw'; clear hb))
              | ((go_at_call 23; (with_reducible refine (leq_r cg Hg.out ck Hk.out n5 m3 q4.out).mono ?_); rintro e v1 ⟨rfl, rfl⟩))
              | ((go_at_call 23; (with_reducible refine (leq_r ch Hh.out ck Hk.out n5 m3 q5.out).mono ?_); rintro e v1 ⟨rfl, rfl⟩))
              | ((go_at_call 23; (with_reducible refine (leq_r cj Hj.out ck Hk.out n5 m3 q6.out).mono ?_); rintro e v1 ⟨rfl, rfl⟩)))
            go_meet
            exact ⟨rfl, HB.out⟩
      · obtain rfl : b3 = true := O1 rfl rfl
        clear O1
        cases b4
        · have O4 : b5 = false := by cases b5; · rfl
                                     · exact absurd (O3 rfl rfl) (by decide)
          subst O4
          clear O2 O3
          go_wp2_with (first
            | ((go_at_call 23; (with_reducible refine (leq_r cg Hg.out ch Hh.out n5 m3 q1.out).mono ?_); rintro e v1 ⟨rfl, rfl⟩))
            | ((go_at_call 23; (with_reducible refine (leq_r ch Hh.out cg Hg.out n5 m3 q2.out).mono ?_); rintro e v1 ⟨rfl, rfl⟩))
            | ((go_at_call 12; (with_reducible refine ((same_r cg Hg.out ch Hh.out n5 m3 q3.out)).mono ?_); rintro e w10 ⟨rfl, hb⟩; have HB' := hidA (stepA HB.out hb); clear HB; have HB := HB'; clear HB'; have Hg' := hidA (Hg.out.belowA hb); clear Hg; have Hg := Hg'; clear Hg'; have Hh' := hidA (Hh.out.belowA hb); clear Hh; have Hh := Hh'; clear Hh'; have Hk' := hidA (Hk.out.belowA hb); clear Hk; have Hk := Hk'; clear Hk'; have Hj' := hidA (Hj.out.belowA hb); clear Hj; have Hj := Hj'; clear Hj'; have Iw' := hidA (intsIn_below hb Iw.out); clear Iw; have Iw := Iw'; clear Iw'; clear hb))
            | ((go_at_call 23; (with_reducible refine (leq_r cg Hg.out ck Hk.out n5 m3 q4.out).mono ?_); rintro e v1 ⟨rfl, rfl⟩))
            | ((go_at_call 23; (with_reducible refine (leq_r ch Hh.out ck Hk.out n5 m3 q5.out).mono ?_); rintro e v1 ⟨rfl, rfl⟩))
            | ((go_at_call 23; (with_reducible refine (leq_r cj Hj.out ck Hk.out n5 m3 q6.out).mono ?_); rintro e v1 ⟨rfl, rfl⟩)))
          go_meet
          exact ⟨rfl, HB.out⟩
        · obtain rfl : b5 = b6 := O2 rfl
          clear O2 O3
          cases b5
          · skip
            go_wp2_with (first
              | ((go_at_call 23; (with_reducible refine (leq_r cg Hg.out ch Hh.out n5 m3 q1.out).mono ?_); rintro e v1 ⟨rfl, rfl⟩))
              | ((go_at_call 23; (with_reducible refine (leq_r ch Hh.out cg Hg.out n5 m3 q2.out).mono ?_); rintro e v1 ⟨rfl, rfl⟩))
              | ((go_at_call 12; (with_reducible refine ((same_r cg Hg.out ch Hh.out n5 m3 q3.out)).mono ?_); rintro e w10 ⟨rfl, hb⟩; have HB' := hidA (stepA HB.out hb); clear HB; have HB := HB'; clear HB'; have Hg' := hidA (Hg.out.belowA hb); clear Hg; have Hg := Hg'; clear Hg'; have Hh' := hidA (Hh.out.belowA hb); clear Hh; have Hh := Hh'; clear Hh'; have Hk' := hidA (Hk.out.belowA hb); clear Hk; have Hk := Hk'; clear Hk'; have Hj' := hidA (Hj.out.belowA hb); clear Hj; have Hj := Hj'; clear Hj'; have Iw' := hidA (intsIn_below hb Iw.out); clear Iw; have Iw := Iw'; clear Iw'; clear hb))
              | ((go_at_call 23; (with_reducible refine (leq_r cg Hg.out ck Hk.out n5 m3 q4.out).mono ?_); rintro e v1 ⟨rfl, rfl⟩))
              | ((go_at_call 23; (with_reducible refine (leq_r ch Hh.out ck Hk.out n5 m3 q5.out).mono ?_); rintro e v1 ⟨rfl, rfl⟩))
              | ((go_at_call 23; (with_reducible refine (leq_r cj Hj.out ck Hk.out n5 m3 q6.out).mono ?_); rintro e v1 ⟨rfl, rfl⟩)))
            go_meet
            exact ⟨rfl, HB.out⟩
          · skip
            go_wp2_with (first
              | ((go_at_call 23; (with_reducible refine (leq_r cg Hg.out ch Hh.out n5 m3 q1.out).mono ?_); rintro e v1 ⟨rfl, rfl⟩))
              | ((go_at_call 23; (with_reducible refine (leq_r ch Hh.out cg Hg.out n5 m3 q2.out).mono ?_); rintro e v1 ⟨rfl, rfl⟩))
              | ((go_at_call 12; (with_reducible refine ((same_r cg Hg.out ch Hh.out n5 m3 q3.out)).mono ?_); rintro e w10 ⟨rfl, hb⟩; have HB' := hidA (stepA HB.out hb); clear HB; have HB := HB'; clear HB'; have Hg' := hidA (Hg.out.belowA hb); clear Hg; have Hg := Hg'; clear Hg'; have Hh' := hidA (Hh.out.belowA hb); clear Hh; have Hh := Hh'; clear Hh'; have Hk' := hidA (Hk.out.belowA hb); clear Hk; have Hk := Hk'; clear Hk'; have Hj' := hidA (Hj.out.belowA hb); clear Hj; have Hj := Hj'; clear Hj'; have Iw' := hidA (intsIn_below hb Iw.out); clear Iw; have Iw := Iw'; clear Iw'; clear hb))
              | ((go_at_call 23; (with_reducible refine (leq_r cg Hg.out ck Hk.out n5 m3 q4.out).mono ?_); rintro e v1 ⟨rfl, rfl⟩))
              | ((go_at_call 23; (with_reducible refine (leq_r ch Hh.out ck Hk.out n5 m3 q5.out).mono ?_); rintro e v1 ⟨rfl, rfl⟩))
              | ((go_at_call 23; (with_reducible refine (leq_r cj Hj.out ck Hk.out n5 m3 q6.out).mono ?_); rintro e v1 ⟨rfl, rfl⟩)))
            go_meet
            exact ⟨rfl, HB.out⟩
  case rest =>
    obtain ⟨rfl, hb⟩ := hcut
    have HB' := hidA (stepA HB.out hb); clear HB; have HB := HB'; clear HB'; have Hg' := hidA (Hg.out.belowA hb); clear Hg; have Hg := Hg'; clear Hg'; have Hh' := hidA (Hh.out.belowA hb); clear Hh; have Hh := Hh'; clear Hh'; have Hk' := hidA (Hk.out.belowA hb); clear Hk; have Hk := Hk'; clear Hk'; have Hj' := hidA (Hj.out.belowA hb); clear Hj; have Hj := Hj'; clear Hj'; have Iw' := hidA (intsIn_below hb Iw.out); clear Iw; have Iw := Iw'; clear Iw'; clear hb
    have O4 := O9.out.h4
    have O5 := O9.out.h5
    clear O9 q1 q2 q3 q4 q5 q6
    cases b7
    · have e9 : b9 = false := by cases b9; · rfl
                                 · exact absurd (O5 rfl) (by decide)
      subst e9
      clear O4 O5
      go_wp2_with (first
        | ((go_at_call 34; (with_reducible refine (has_r ck Hk.out _ _ _ Iw.out LW.out hmn.out n5 HW32.out HK.out).mono ?_); rintro e v1 ⟨rfl, rfl⟩))
        | ((go_at_call 19; (with_reducible refine ((join_r ck Hk.out cg Hg.out n5 m3)).mono ?_); rintro e w10 ⟨bu, cu, Ru, Cu, rfl, hg, hb⟩; have HB' := hidA (stepA HB.out hb); clear HB; have HB := HB'; clear HB'; have Hg' := hidA (Hg.out.belowA hb); clear Hg; have Hg := Hg'; clear Hg'; have Hh' := hidA (Hh.out.belowA hb); clear Hh; have Hh := Hh'; clear Hh'; have Hk' := hidA (Hk.out.belowA hb); clear Hk; have Hk := Hk'; clear Hk'; have Hj' := hidA (Hj.out.belowA hb); clear Hj; have Hj := Hj'; clear Hj'; have Iw' := hidA (intsIn_below hb Iw.out); clear Iw; have Iw := Iw'; clear Iw'; clear hb; have Hu := hidA hg; clear hg))
        | ((go_at_call 34; (with_reducible refine (has_r cu Hu.out _ _ _ Iw.out LW.out hmn.out n5 HW32.out qf.out).mono ?_); rintro e v1 ⟨rfl, rfl⟩))
        | ((go_at_call 34; (with_reducible refine (has_r cg Hg.out _ _ _ Iw.out LW.out hmn.out n5 HW32.out q7.out).mono ?_); rintro e v1 ⟨rfl, rfl⟩))
        | ((go_at_call 34; (with_reducible refine (has_r cj Hj.out _ _ _ Iw.out LW.out hmn.out n5 HW32.out q8.out).mono ?_); rintro e v1 ⟨rfl, rfl⟩))
        | ((go_at_call 23; (with_reducible refine (leq_r ck Hk.out cg Hg.out n5 m3 q9.out).mono ?_); rintro e v1 ⟨rfl, rfl⟩)))
      go_ret
      exact ⟨rfl, HB.out⟩
    · obtain rfl : b8 = true := O4 rfl
      clear O4 O5
      cases b9
      · skip
        go_wp2_with (first
          | ((go_at_call 34; (with_reducible refine (has_r ck Hk.out _ _ _ Iw.out LW.out hmn.out n5 HW32.out HK.out).mono ?_); rintro e v1 ⟨rfl, rfl⟩))
          | ((go_at_call 19; (with_reducible refine ((join_r ck Hk.out cg Hg.out n5 m3)).mono ?_); rintro e w10 ⟨bu, cu, Ru, Cu, rfl, hg, hb⟩; have HB' := hidA (stepA HB.out hb); clear HB; have HB := HB'; clear HB'; have Hg' := hidA (Hg.out.belowA hb); clear Hg; have Hg := Hg'; clear Hg'; have Hh' := hidA (Hh.out.belowA hb); clear Hh; have Hh := Hh'; clear Hh'; have Hk' := hidA (Hk.out.belowA hb); clear Hk; have Hk := Hk'; clear Hk'; have Hj' := hidA (Hj.out.belowA hb); clear Hj; have Hj := Hj'; clear Hj'; have Iw' := hidA (intsIn_below hb Iw.out); clear Iw; have Iw := Iw'; clear Iw'; clear hb; have Hu := hidA hg; clear hg))
          | ((go_at_call 34; (with_reducible refine (has_r cu Hu.out _ _ _ Iw.out LW.out hmn.out n5 HW32.out qf.out).mono ?_); rintro e v1 ⟨rfl, rfl⟩))
          | ((go_at_call 34; (with_reducible refine (has_r cg Hg.out _ _ _ Iw.out LW.out hmn.out n5 HW32.out q7.out).mono ?_); rintro e v1 ⟨rfl, rfl⟩))
          | ((go_at_call 34; (with_reducible refine (has_r cj Hj.out _ _ _ Iw.out LW.out hmn.out n5 HW32.out q8.out).mono ?_); rintro e v1 ⟨rfl, rfl⟩))
          | ((go_at_call 23; (with_reducible refine (leq_r ck Hk.out cg Hg.out n5 m3 q9.out).mono ?_); rintro e v1 ⟨rfl, rfl⟩)))
        go_ret
        exact ⟨rfl, HB.out⟩
      · skip
        go_wp2_with (first
          | ((go_at_call 34; (with_reducible refine (has_r ck Hk.out _ _ _ Iw.out LW.out hmn.out n5 HW32.out HK.out).mono ?_); rintro e v1 ⟨rfl, rfl⟩))
          | ((go_at_call 19; (with_reducible refine ((join_r ck Hk.out cg Hg.out n5 m3)).mono ?_); rintro e w10 ⟨bu, cu, Ru, Cu, rfl, hg, hb⟩; have HB' := hidA (stepA HB.out hb); clear HB; have HB := HB'; clear HB'; have Hg' := hidA (Hg.out.belowA hb); clear Hg; have Hg := Hg'; clear Hg'; have Hh' := hidA (Hh.out.belowA hb); clear Hh; have Hh := Hh'; clear Hh'; have Hk' := hidA (Hk.out.belowA hb); clear Hk; have Hk := Hk'; clear Hk'; have Hj' := hidA (Hj.out.belowA hb); clear Hj; have Hj := Hj'; clear Hj'; have Iw' := hidA (intsIn_below hb Iw.out); clear Iw; have Iw := Iw'; clear Iw'; clear hb; have Hu := hidA hg; clear hg))
          | ((go_at_call 34; (with_reducible refine (has_r cu Hu.out _ _ _ Iw.out LW.out hmn.out n5 HW32.out qf.out).mono ?_); rintro e v1 ⟨rfl, rfl⟩))
          | ((go_at_call 34; (with_reducible refine (has_r cg Hg.out _ _ _ Iw.out LW.out hmn.out n5 HW32.out q7.out).mono ?_); rintro e v1 ⟨rfl, rfl⟩))
          | ((go_at_call 34; (with_reducible refine (has_r cj Hj.out _ _ _ Iw.out LW.out hmn.out n5 HW32.out q8.out).mono ?_); rintro e v1 ⟨rfl, rfl⟩))
          | ((go_at_call 23; (with_reducible refine (leq_r ck Hk.out cg Hg.out n5 m3 q9.out).mono ?_); rintro e v1 ⟨rfl, rfl⟩)))
        go_ret
        exact ⟨rfl, HB.out⟩
end Go.Proofs.Ytpfcfaakdhamlaa

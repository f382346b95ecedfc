import Derived.Test.YtpfcfaakdhamlaaJu
namespace Go.Proofs.Ytpfcfaakdhamlaa
open Go.RowKit Go.Instr Go.Deep
set_option maxRecDepth 100000
set_option linter.unusedVariables false
set_option linter.unusedSimpArgs false

/-! GapWidens' walk. -/
theorem wid_key (Zg Zh Zk : Nat → Nat → Int) (_ : Nat → Nat → Prop) (i j : Nat) : (widF Zg Zh i j = Zg i j ∧ widF (widF Zg Zh) Zk i j = Zg i j) ∨ (widF Zg Zh i j = Zg i j ∧ widF (widF Zg Zh) Zk i j = 1099511627776) ∨ (widF Zg Zh i j = 1099511627776 ∧ widF (widF Zg Zh) Zk i j = 1099511627776) := by
  rw [show widF (widF Zg Zh) Zk i j = if widF Zg Zh i j < Zk i j then 1099511627776 else widF Zg Zh i j from rfl]
  rw [show widF Zg Zh i j = if Zg i j < Zh i j then 1099511627776 else Zg i j from rfl]
  by_cases e1 : Zg i j < Zh i j
  · rw [if_pos e1]
    right; right
    refine ⟨rfl, ?_⟩
    split <;> rfl
  · rw [if_neg e1]
    by_cases e2 : Zg i j < Zk i j
    · rw [if_pos e2]; right; left; exact ⟨rfl, rfl⟩
    · rw [if_neg e2]; left; exact ⟨rfl, rfl⟩
set_option maxRecDepth 100000 in
set_option maxHeartbeats 4000000 in
theorem widens_walk (w : World) (xa xb : Nat) (hxa : xa < 256) (hxb : xb < 256) (lx : List Int) (ox : Option Addr) (nx kx : Nat) (Lx : lx.length = nx) (hlx : intsIn w lx (.slice ox nx kx)) (ya yb : Nat) (hya : ya < 256) (hyb : yb < 256) (ly : List Int) (oy : Option Addr) (ny ky : Nat) (Ly : ly.length = ny) (hly : intsIn w ly (.slice oy ny ky)) (za zb : Nat) (hza : za < 256) (hzb : zb < 256) (lz : List Int) (oz : Option Addr) (nz kz : Nat) (Lz : lz.length = nz) (hlz : intsIn w lz (.slice oz nz kz)) :
    Calls Try.prog 7 #[.agg #[.int .u8 (xa : Int), .int .u8 (xb : Int), .slice ox nx kx], .agg #[.int .u8 (ya : Int), .int .u8 (yb : Int), .slice oy ny ky], .agg #[.int .u8 (za : Int), .int .u8 (zb : Int), .slice oz nz kz]] w fun e w' => e = .returned (.bool true) ∧ Below w.heap.size w w' := by
  obtain ⟨w0, hw0⟩ : ∃ w0, (((w.alloc (.cells #[.int .u8 (xa : Int), .int .u8 (xb : Int), .slice ox nx kx] 24)).alloc (.cells #[.int .u8 (ya : Int), .int .u8 (yb : Int), .slice oy ny ky] 24)).alloc (.cells #[.int .u8 (za : Int), .int .u8 (zb : Int), .slice oz nz kz] 24)) = w0 := ⟨_, rfl⟩
  have B0 : Hid (Below w.heap.size w w0) := hidA (by rw [← hw0]; exact ((((Below.refl _ _).alloc (by first | exact Nat.le_refl _ | (simp; done) | (simp; omega) | omega) _).alloc (by first | exact Nat.le_refl _ | (simp; done) | (simp; omega) | omega) _).alloc (by first | exact Nat.le_refl _ | (simp; done) | (simp; omega) | omega) _))
  have hsz : w.heap.size + 1 + 1 < w0.heap.size := by rw [← hw0]; simp
  have PK : Hid (∀ W, Below w0.heap.size w0 W → W.cell? ⟨w.heap.size, 0, none⟩ = some (.int .u8 (xa : Int)) ∧ W.cell? ⟨w.heap.size, 1, none⟩ = some (.int .u8 (xb : Int)) ∧ W.cell? ⟨w.heap.size, 2, none⟩ = some (.slice ox nx kx) ∧ W.cell? ⟨w.heap.size + 1, 0, none⟩ = some (.int .u8 (ya : Int)) ∧ W.cell? ⟨w.heap.size + 1, 1, none⟩ = some (.int .u8 (yb : Int)) ∧ W.cell? ⟨w.heap.size + 1, 2, none⟩ = some (.slice oy ny ky) ∧ W.cell? ⟨w.heap.size + 1 + 1, 0, none⟩ = some (.int .u8 (za : Int)) ∧ W.cell? ⟨w.heap.size + 1 + 1, 1, none⟩ = some (.int .u8 (zb : Int)) ∧ W.cell? ⟨w.heap.size + 1 + 1, 2, none⟩ = some (.slice oz nz kz) ∧ w.heap.size < W.heap.size ∧ w.heap.size + 1 < W.heap.size ∧ w.heap.size + 1 + 1 < W.heap.size ∧ (∀ i, W.frozen? ⟨w.heap.size + 1, i, none⟩ = false) ∧ (∀ i, W.frozen? ⟨w.heap.size + 1 + 1, i, none⟩ = false)) := hidA (fun W hW => ⟨cellA hW (by rw [← hw0]; simp [go_sem]), cellA hW (by rw [← hw0]; simp [go_sem]), cellA hW (by rw [← hw0]; simp [go_sem]), cellA hW (by rw [← hw0]; simp [go_sem]), cellA hW (by rw [← hw0]; simp [go_sem]), cellA hW (by rw [← hw0]; simp [go_sem]), cellA hW (by rw [← hw0]; simp [go_sem]), cellA hW (by rw [← hw0]; simp [go_sem]), cellA hW (by rw [← hw0]; simp [go_sem]), (by have h0 := hW.size; have h1 := hsz; omega), (by have h0 := hW.size; have h1 := hsz; omega), (by have h0 := hW.size; have h1 := hsz; omega), (fun i => (hW.frozen (p := ⟨w.heap.size + 1, i, none⟩) (show w.heap.size + 1 < w0.heap.size by have h1 := hsz; omega)).trans (by rw [← hw0]; simp [go_sem])), (fun i => (hW.frozen (p := ⟨w.heap.size + 1 + 1, i, none⟩) (show w.heap.size + 1 + 1 < w0.heap.size by have h1 := hsz; omega)).trans (by rw [← hw0]; simp [go_sem]))⟩)
  have Hw := hidA hw0; clear hw0
  have HLx := hidA hlx
  clear hlx
  have HLy := hidA hly
  clear hly
  have HLz := hidA hlz
  clear hlz
  go_enter Try.func7, Try.ntmps7
  go_upto_region 1 with (fail)
  rw [Hw.out]
  clear Hw
  have HS : Hid (Below w0.heap.size w0 w0) := hidA (Below.refl _ _)
  obtain ⟨c0, c1, c2, c3, c4, c5, c6, c7, c8, z0, z1, z2, fr1, fr2⟩ := PK.out _ HS.out
  go_upto_region 4 with ((go_at_call 9; refine (examples_any _).mono ?_; rintro e w1 ⟨rfl, hb⟩; have hs1 := stepA HS.out hb; clear hb; have HS' := hidA hs1; clear HS hs1; clear c0 c1 c2 c3 c4 c5 c6 c7 c8 z0 z1 z2 fr1 fr2; have HS := HS'; clear HS'; obtain ⟨c0, c1, c2, c3, c4, c5, c6, c7, c8, z0, z1, z2, fr1, fr2⟩ := PK.out _ HS.out))
  go_upto_region 8 with (fail)
  obtain ⟨w2, hw2⟩ : ∃ w2, (((w1.setCell ⟨w.heap.size + 1, 0, none⟩ (.int .u8 (xa : Int))).setCell ⟨w.heap.size + 1, 1, none⟩ (.int .u8 (xb : Int))).setCell ⟨w.heap.size + 1 + 1, 0, none⟩ (.int .u8 (xa : Int))).setCell ⟨w.heap.size + 1 + 1, 1, none⟩ (.int .u8 (xb : Int)) = w2 := ⟨_, rfl⟩
  have HB : Hid (Below w.heap.size w w2) := hidA (by rw [← hw2]; exact (by repeat (first | with_reducible exact Below.refl _ _ | with_reducible exact HS.out | with_reducible exact B0.out | with_reducible refine Below.setCell ?_ (by first | omega | (dsimp only; omega) | (simp; done) | (simp; omega)) _ | with_reducible refine Below.alloc ?_ (by first | omega | (dsimp only; omega) | (simp; done) | (simp; omega)) _ | with_reducible refine Below.drew ?_ | with_reducible refine drewnA ?_ _ | with_reducible refine Below.trans ?_ (HS.out.mono (by first | omega | (dsimp only; omega) | (simp; done) | (simp; omega))) | with_reducible refine Below.trans ?_ (B0.out.mono (by first | omega | (dsimp only; omega) | (simp; done) | (simp; omega))))))
  have d0 : w2.cell? ⟨w.heap.size, 0, none⟩ = some (.int .u8 (xa : Int)) := by rw [← hw2]; simp [go_sem, c0, c1, c2, c3, c4, c5, c6, c7, c8]
  have d1 : w2.cell? ⟨w.heap.size, 1, none⟩ = some (.int .u8 (xb : Int)) := by rw [← hw2]; simp [go_sem, c0, c1, c2, c3, c4, c5, c6, c7, c8]
  have d2 : w2.cell? ⟨w.heap.size, 2, none⟩ = some (.slice ox nx kx) := by rw [← hw2]; simp [go_sem, c0, c1, c2, c3, c4, c5, c6, c7, c8]
  have d3 : w2.cell? ⟨w.heap.size + 1, 0, none⟩ = some (.int .u8 (xa : Int)) := by rw [← hw2]; simp [go_sem, c0, c1, c2, c3, c4, c5, c6, c7, c8]
  have d4 : w2.cell? ⟨w.heap.size + 1, 1, none⟩ = some (.int .u8 (xb : Int)) := by rw [← hw2]; simp [go_sem, c0, c1, c2, c3, c4, c5, c6, c7, c8]
  have d5 : w2.cell? ⟨w.heap.size + 1, 2, none⟩ = some (.slice oy ny ky) := by rw [← hw2]; simp [go_sem, c0, c1, c2, c3, c4, c5, c6, c7, c8]
  have d6 : w2.cell? ⟨w.heap.size + 1 + 1, 0, none⟩ = some (.int .u8 (xa : Int)) := by rw [← hw2]; simp [go_sem, c0, c1, c2, c3, c4, c5, c6, c7, c8]
  have d7 : w2.cell? ⟨w.heap.size + 1 + 1, 1, none⟩ = some (.int .u8 (xb : Int)) := by rw [← hw2]; simp [go_sem, c0, c1, c2, c3, c4, c5, c6, c7, c8]
  have d8 : w2.cell? ⟨w.heap.size + 1 + 1, 2, none⟩ = some (.slice oz nz kz) := by rw [← hw2]; simp [go_sem, c0, c1, c2, c3, c4, c5, c6, c7, c8]
  rw [hw2]
  clear hw2 c0 c1 c2 c3 c4 c5 c6 c7 c8 z0 z1 z2 fr1 fr2 PK B0 HS hsz
  have Ix := hidA (intsIn_below HB.out HLx.out)
  clear HLx
  have Iy := hidA (intsIn_below HB.out HLy.out)
  clear HLy
  have Iz := hidA (intsIn_below HB.out HLz.out)
  clear HLz
  obtain ⟨n, hn'⟩ : ∃ n, varsN xa = n := ⟨_, rfl⟩
  obtain ⟨m, hm'⟩ : ∃ m, parN xa xb = m := ⟨_, rfl⟩
  have n5 : n ≤ 5 := by rw [← hn']; exact (varsN_bd xa).2
  have m3 : m ≤ 3 := by rw [← hm']; exact (parN_bd xa xb).1
  have hn := hidA hn'
  have hm := hidA hm'
  clear hn' hm'
  obtain ⟨Zg, eg⟩ : ∃ Z, madeZ lx m = Z := ⟨_, rfl⟩
  obtain ⟨Zh, eh⟩ : ∃ Z, madeZ ly m = Z := ⟨_, rfl⟩
  obtain ⟨Zk, ek⟩ : ∃ Z, madeZ lz m = Z := ⟨_, rfl⟩
  have og := hidA (show Zok n m Zg by rw [← eg]; exact madeZ_ok _ _ _)
  have oh := hidA (show Zok n m Zh by rw [← eh]; exact madeZ_ok _ _ _)
  have oA := hidA (widF_ok (Y := Zh) og.out)
  have Zge := hidA eg
  have Zhe := hidA eh
  have Zke := hidA ek
  clear eg eh ek
  have Lx := hidA Lx
  have Ly := hidA Ly
  have Lz := hidA Lz
  have q1 : Hid (leqB n m Zg (widF Zg Zh) = true) := hidA (leqB_yes fun i hi j hj => by unfold widF; split; · exact og.out.le hi hj
                                                                                        · exact Int.le_refl _)
  have q2 : Hid (leqB n m Zh (widF Zg Zh) = true) := hidA (leqB_yes fun i hi j hj => by unfold widF; split; · exact oh.out.le hi hj
                                                                                        · omega)
  have q3 : Hid (leqB n m (widF Zg Zh) (widF (widF Zg Zh) Zk) = true) := hidA (leqB_yes fun i hi j hj => by
    rw [show widF (widF Zg Zh) Zk i j = if widF Zg Zh i j < Zk i j then 1099511627776 else widF Zg Zh i j from rfl]
    split
    · exact oA.out.le hi hj
    · exact Int.le_refl _)
  have q4 : Hid (sameB n m (widF Zg Zg) Zg = true) := hidA (sameB_yes fun i hi j hj => by unfold widF; rw [if_neg (Int.lt_irrefl _)])
  have key : Hid (∀ i j, (widF Zg Zh i j = Zg i j ∧ widF (widF Zg Zh) Zk i j = Zg i j) ∨ (widF Zg Zh i j = Zg i j ∧ widF (widF Zg Zh) Zk i j = 1099511627776) ∨ (widF Zg Zh i j = 1099511627776 ∧ widF (widF Zg Zh) Zk i j = 1099511627776)) := hidA (wid_key Zg Zh Zk (fun _ _ => True))
  go_upto_region 9 with ((go_at_call 10; (with_reducible refine ((made3 hn.out hm.out _ hxa hxb lx ox nx kx Lx.out Ix.out Zge.out)).mono ?_); rintro e w1 ⟨bg, cg, Rg, Cg, rfl, hg, hb⟩; have HB' := hidA (stepA HB.out hb); clear HB; have HB := HB'; clear HB'; have d0' := cellA hb d0; clear d0; have d0 := d0'; clear d0'; have d1' := cellA hb d1; clear d1; have d1 := d1'; clear d1'; have d2' := cellA hb d2; clear d2; have d2 := d2'; clear d2'; have d3' := cellA hb d3; clear d3; have d3 := d3'; clear d3'; have d4' := cellA hb d4; clear d4; have d4 := d4'; clear d4'; have d5' := cellA hb d5; clear d5; have d5 := d5'; clear d5'; have d6' := cellA hb d6; clear d6; have d6 := d6'; clear d6'; have d7' := cellA hb d7; clear d7; have d7 := d7'; clear d7'; have d8' := cellA hb d8; clear d8; have d8 := d8'; clear d8'; have Ix' := hidA (intsIn_below hb Ix.out); clear Ix; have Ix := Ix'; clear Ix'; have Iy' := hidA (intsIn_below hb Iy.out); clear Iy; have Iy := Iy'; clear Iy'; have Iz' := hidA (intsIn_below hb Iz.out); clear Iz; have Iz := Iz'; clear Iz'; clear hb; have Hg := hidA hg; clear hg))
  go_upto_region 10 with ((go_at_call 10; (with_reducible refine ((made3 hn.out hm.out _ hxa hxb ly oy ny ky Ly.out Iy.out Zhe.out)).mono ?_); rintro e w2 ⟨bh, ch, Rh, Ch, rfl, hg, hb⟩; have HB' := hidA (stepA HB.out hb); clear HB; have HB := HB'; clear HB'; have Hg' := hidA (Hg.out.belowA hb); clear Hg; have Hg := Hg'; clear Hg'; have d0' := cellA hb d0; clear d0; have d0 := d0'; clear d0'; have d1' := cellA hb d1; clear d1; have d1 := d1'; clear d1'; have d2' := cellA hb d2; clear d2; have d2 := d2'; clear d2'; have d3' := cellA hb d3; clear d3; have d3 := d3'; clear d3'; have d4' := cellA hb d4; clear d4; have d4 := d4'; clear d4'; have d5' := cellA hb d5; clear d5; have d5 := d5'; clear d5'; have d6' := cellA hb d6; clear d6; have d6 := d6'; clear d6'; have d7' := cellA hb d7; clear d7; have d7 := d7'; clear d7'; have d8' := cellA hb d8; clear d8; have d8 := d8'; clear d8'; have Ix' := hidA (intsIn_below hb Ix.out); clear Ix; have Ix := Ix'; clear Ix'; have Iy' := hidA (intsIn_below hb Iy.out); clear Iy; have Iy := Iy'; clear Iy'; have Iz' := hidA (intsIn_below hb Iz.out); clear Iz; have Iz := Iz'; clear Iz'; clear hb; have Hh := hidA hg; clear hg))
  go_upto_region 11 with ((go_at_call 21; (with_reducible refine ((widen_r cg Hg.out ch Hh.out n5 m3)).mono ?_); rintro e w3 ⟨ba, ca, Ra, Ca, rfl, hg, hb⟩; have HB' := hidA (stepA HB.out hb); clear HB; have HB := HB'; clear HB'; have Hg' := hidA (Hg.out.belowA hb); clear Hg; have Hg := Hg'; clear Hg'; have Hh' := hidA (Hh.out.belowA hb); clear Hh; have Hh := Hh'; clear Hh'; have d0' := cellA hb d0; clear d0; have d0 := d0'; clear d0'; have d1' := cellA hb d1; clear d1; have d1 := d1'; clear d1'; have d2' := cellA hb d2; clear d2; have d2 := d2'; clear d2'; have d3' := cellA hb d3; clear d3; have d3 := d3'; clear d3'; have d4' := cellA hb d4; clear d4; have d4 := d4'; clear d4'; have d5' := cellA hb d5; clear d5; have d5 := d5'; clear d5'; have d6' := cellA hb d6; clear d6; have d6 := d6'; clear d6'; have d7' := cellA hb d7; clear d7; have d7 := d7'; clear d7'; have d8' := cellA hb d8; clear d8; have d8 := d8'; clear d8'; have Ix' := hidA (intsIn_below hb Ix.out); clear Ix; have Ix := Ix'; clear Ix'; have Iy' := hidA (intsIn_below hb Iy.out); clear Iy; have Iy := Iy'; clear Iy'; have Iz' := hidA (intsIn_below hb Iz.out); clear Iz; have Iz := Iz'; clear Iz'; clear hb; have Ha := hidA hg; clear hg))
  go_upto_region 12 with (first
    | ((go_at_call 10; (with_reducible refine ((made3 hn.out hm.out _ hxa hxb lz oz nz kz Lz.out Iz.out Zke.out)).mono ?_); rintro e w4 ⟨bk, ck, Rk, Ck, rfl, hg, hb⟩; have HB' := hidA (stepA HB.out hb); clear HB; have HB := HB'; clear HB'; have Hg' := hidA (Hg.out.belowA hb); clear Hg; have Hg := Hg'; clear Hg'; have Hh' := hidA (Hh.out.belowA hb); clear Hh; have Hh := Hh'; clear Hh'; have Ha' := hidA (Ha.out.belowA hb); clear Ha; have Ha := Ha'; clear Ha'; have d0' := cellA hb d0; clear d0; have d0 := d0'; clear d0'; have d1' := cellA hb d1; clear d1; have d1 := d1'; clear d1'; have d2' := cellA hb d2; clear d2; have d2 := d2'; clear d2'; have d3' := cellA hb d3; clear d3; have d3 := d3'; clear d3'; have d4' := cellA hb d4; clear d4; have d4 := d4'; clear d4'; have d5' := cellA hb d5; clear d5; have d5 := d5'; clear d5'; have d6' := cellA hb d6; clear d6; have d6 := d6'; clear d6'; have d7' := cellA hb d7; clear d7; have d7 := d7'; clear d7'; have d8' := cellA hb d8; clear d8; have d8 := d8'; clear d8'; have Ix' := hidA (intsIn_below hb Ix.out); clear Ix; have Ix := Ix'; clear Ix'; have Iy' := hidA (intsIn_below hb Iy.out); clear Iy; have Iy := Iy'; clear Iy'; have Iz' := hidA (intsIn_below hb Iz.out); clear Iz; have Iz := Iz'; clear Iz'; clear hb; have Hk := hidA hg; clear hg))
    | ((go_at_call 21; (with_reducible refine ((widen_r ca Ha.out ck Hk.out n5 m3)).mono ?_); rintro e w5 ⟨bb, cb, Rb, Cb, rfl, hg, hb⟩; have HB' := hidA (stepA HB.out hb); clear HB; have HB := HB'; clear HB'; have Hg' := hidA (Hg.out.belowA hb); clear Hg; have Hg := Hg'; clear Hg'; have Hh' := hidA (Hh.out.belowA hb); clear Hh; have Hh := Hh'; clear Hh'; have Ha' := hidA (Ha.out.belowA hb); clear Ha; have Ha := Ha'; clear Ha'; have Hk' := hidA (Hk.out.belowA hb); clear Hk; have Hk := Hk'; clear Hk'; have d0' := cellA hb d0; clear d0; have d0 := d0'; clear d0'; have d1' := cellA hb d1; clear d1; have d1 := d1'; clear d1'; have d2' := cellA hb d2; clear d2; have d2 := d2'; clear d2'; have d3' := cellA hb d3; clear d3; have d3 := d3'; clear d3'; have d4' := cellA hb d4; clear d4; have d4 := d4'; clear d4'; have d5' := cellA hb d5; clear d5; have d5 := d5'; clear d5'; have d6' := cellA hb d6; clear d6; have d6 := d6'; clear d6'; have d7' := cellA hb d7; clear d7; have d7 := d7'; clear d7'; have d8' := cellA hb d8; clear d8; have d8 := d8'; clear d8'; have Ix' := hidA (intsIn_below hb Ix.out); clear Ix; have Ix := Ix'; clear Ix'; have Iy' := hidA (intsIn_below hb Iy.out); clear Iy; have Iy := Iy'; clear Iy'; have Iz' := hidA (intsIn_below hb Iz.out); clear Iz; have Iz := Iz'; clear Iz'; clear hb; have Hb := hidA hg; clear hg)))
  go_upto_region 14 with (first
    | ((go_at_call 23; (with_reducible refine (leq_r cg Hg.out ca Ha.out n5 m3 q1.out).mono ?_); rintro e v1 ⟨rfl, rfl⟩))
    | ((go_at_call 23; (with_reducible refine (leq_r ch Hh.out ca Ha.out n5 m3 q2.out).mono ?_); rintro e v1 ⟨rfl, rfl⟩))
    | ((go_at_call 23; (with_reducible refine (leq_r ca Ha.out cb Hb.out n5 m3 q3.out).mono ?_); rintro e v1 ⟨rfl, rfl⟩))
    | ((go_at_call 21; (with_reducible refine ((widen_r cg Hg.out cg Hg.out n5 m3)).mono ?_); rintro e w6 ⟨bp, cp, Rp, Cp, rfl, hg, hb⟩; have HB' := hidA (stepA HB.out hb); clear HB; have HB := HB'; clear HB'; have Hg' := hidA (Hg.out.belowA hb); clear Hg; have Hg := Hg'; clear Hg'; have Hh' := hidA (Hh.out.belowA hb); clear Hh; have Hh := Hh'; clear Hh'; have Ha' := hidA (Ha.out.belowA hb); clear Ha; have Ha := Ha'; clear Ha'; have Hk' := hidA (Hk.out.belowA hb); clear Hk; have Hk := Hk'; clear Hk'; have Hb' := hidA (Hb.out.belowA hb); clear Hb; have Hb := Hb'; clear Hb'; have d0' := cellA hb d0; clear d0; have d0 := d0'; clear d0'; have d1' := cellA hb d1; clear d1; have d1 := d1'; clear d1'; have d2' := cellA hb d2; clear d2; have d2 := d2'; clear d2'; have d3' := cellA hb d3; clear d3; have d3 := d3'; clear d3'; have d4' := cellA hb d4; clear d4; have d4 := d4'; clear d4'; have d5' := cellA hb d5; clear d5; have d5 := d5'; clear d5'; have d6' := cellA hb d6; clear d6; have d6 := d6'; clear d6'; have d7' := cellA hb d7; clear d7; have d7 := d7'; clear d7'; have d8' := cellA hb d8; clear d8; have d8 := d8'; clear d8'; have Ix' := hidA (intsIn_below hb Ix.out); clear Ix; have Ix := Ix'; clear Ix'; have Iy' := hidA (intsIn_below hb Iy.out); clear Iy; have Iy := Iy'; clear Iy'; have Iz' := hidA (intsIn_below hb Iz.out); clear Iz; have Iz := Iz'; clear Iz'; clear hb; have Hp := hidA hg; clear hg))
    | ((go_at_call 12; (with_reducible refine ((same_r cp Hp.out cg Hg.out n5 m3 q4.out)).mono ?_); rintro e w7 ⟨rfl, hb⟩; have HB' := hidA (stepA HB.out hb); clear HB; have HB := HB'; clear HB'; have Hg' := hidA (Hg.out.belowA hb); clear Hg; have Hg := Hg'; clear Hg'; have Hh' := hidA (Hh.out.belowA hb); clear Hh; have Hh := Hh'; clear Hh'; have Ha' := hidA (Ha.out.belowA hb); clear Ha; have Ha := Ha'; clear Ha'; have Hk' := hidA (Hk.out.belowA hb); clear Hk; have Hk := Hk'; clear Hk'; have Hb' := hidA (Hb.out.belowA hb); clear Hb; have Hb := Hb'; clear Hb'; have Hp' := hidA (Hp.out.belowA hb); clear Hp; have Hp := Hp'; clear Hp'; have d0' := cellA hb d0; clear d0; have d0 := d0'; clear d0'; have d1' := cellA hb d1; clear d1; have d1 := d1'; clear d1'; have d2' := cellA hb d2; clear d2; have d2 := d2'; clear d2'; have d3' := cellA hb d3; clear d3; have d3 := d3'; clear d3'; have d4' := cellA hb d4; clear d4; have d4 := d4'; clear d4'; have d5' := cellA hb d5; clear d5; have d5 := d5'; clear d5'; have d6' := cellA hb d6; clear d6; have d6 := d6'; clear d6'; have d7' := cellA hb d7; clear d7; have d7 := d7'; clear d7'; have d8' := cellA hb d8; clear d8; have d8 := d8'; clear d8'; have Ix' := hidA (intsIn_below hb Ix.out); clear Ix; have Ix := Ix'; clear Ix'; have Iy' := hidA (intsIn_below hb Iy.out); clear Iy; have Iy := Iy'; clear Iy'; have Iz' := hidA (intsIn_below hb Iz.out); clear Iz; have Iz := Iz'; clear Iz'; clear hb)))
  clear d0 d1 d2 d3 d4 d5 d6 d7 d8 Ix Iy Iz hn hm og oh oA Zge Zhe Zke Lx Ly Lz q1 q2 q3 q4 Hh Hk Hp
  generalize widF Zg Zh = A at *
  generalize widF A Zk = B at *
  go_wp2_with fail
  go_loopg [12] n (fun g i wr => ∃ k : Nat, k ≤ n ∧ g = n - k ∧ i = .int .i64 k ∧ wr = w7)
  case atStart => exact ⟨0, Nat.zero_le _, rfl, rfl, rfl⟩
  case round =>
    obtain ⟨k, hk, rfl, rfl, rfl⟩ := hrel
    by_cases hkn : k < n
    · have hkz : (k : Int) < (n : Int) := by omega
      have c1 := Hg.out.cellh hkn
      go_wp2_with fail
      go_loopg [13] m (fun g i wx => ∃ j : Nat, j ≤ m ∧ g = m - j ∧ i = .int .i64 j ∧ wx = wr)
      case atStart => exact ⟨0, Nat.zero_le _, rfl, rfl, rfl⟩
      case round =>
        obtain ⟨j, hj, rfl, rfl, rfl⟩ := hrel
        by_cases hjm : j < m
        · have hjz : (j : Int) < (m : Int) := by omega
          have c2 := Hg.out.cellv hkn hjm
          have BA := hidA (bound_in _ ca Ha.out k j hkn hjm (by omega) (by omega))
          have BB := hidA (bound_in _ cb Hb.out k j hkn hjm (by omega) (by omega))
          have K := key.out k j
          generalize Zg k j = z at *
          generalize A k j = x at *
          generalize B k j = y at *
          by_cases ez : z = 1099511627776
          · subst ez
            obtain ⟨rfl, rfl⟩ : x = 1099511627776 ∧ y = 1099511627776 := by omega
            clear K
            go_wp2_with (first | ((go_at_call 25; (with_reducible refine (BA.out).mono ?_); rintro e v1 ⟨rfl, rfl⟩)) | ((go_at_call 25; (with_reducible refine (BB.out).mono ?_); rintro e v1 ⟨rfl, rfl⟩)))
            go_roundg (m - (j + 1))
            case rel => exact ⟨j + 1, by omega, rfl, by go_num, rfl⟩
            case measure => omega
          · have b1 : (z == 1099511627776) = false := by simpa using ez
            have b2 : (z != 1099511627776) = true := by simpa using ez
            have b3 : ((1099511627776 : Int) == z) = false := by simp; omega
            have b4 : ((1099511627776 : Int) != z) = true := by simp; omega
            clear ez
            rcases K with ⟨rfl, rfl⟩ | ⟨rfl, rfl⟩ | ⟨rfl, rfl⟩
            all_goals
              go_wp2_with (first | ((go_at_call 25; (with_reducible refine (BA.out).mono ?_); rintro e v1 ⟨rfl, rfl⟩)) | ((go_at_call 25; (with_reducible refine (BB.out).mono ?_); rintro e v1 ⟨rfl, rfl⟩)))
              go_roundg (m - (j + 1))
              case rel => exact ⟨j + 1, by omega, rfl, by go_num, rfl⟩
              case measure => omega
        · obtain rfl : j = m := by omega
          go_wp2
          go_roundg (n - (k + 1))
          case rel => exact ⟨k + 1, by omega, rfl, by go_num, rfl⟩
          case measure => omega
    · obtain rfl : k = n := by omega
      go_wp2
      go_ret
      exact ⟨rfl, HB.out⟩
end Go.Proofs.Ytpfcfaakdhamlaa

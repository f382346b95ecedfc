import Derived.Test.YtdcaecpcofencaaJv
namespace Go.Proofs.Ytdcaecpcofencaa
open Go.RowKit Go.Instr Go.Deep
set_option maxRecDepth 100000
set_option linter.unusedVariables false
set_option linter.unusedSimpArgs false

/-! The reference's Shift. -/
theorem wrap_neg {c : Int} (h1 : -2147483648 ≤ c) (h2 : c ≤ 2147483648) : wrap64 (-c) = -c := by unfold wrap64; omega
def vB (op n : Int) (vars : Nat) : Bool := (op == 2) && (decide (0 ≤ n) && decide (n < (vars : Int)))
def nB (op v : Int) : Bool := (op == 1) && (decide (-2147483648 ≤ v) && decide (v ≤ 2147483648))
set_option maxRecDepth 100000 in
set_option maxHeartbeats 400000 in
theorem variable_any (op n v : Int) (oa : Option Addr) (len cap : Nat) (vars : Nat) (w : World) :
    Calls Try.prog 64 #[.agg #[.int .i64 op, .int .i64 n, .int .i64 v, .slice oa len cap], .int .i64 (vars : Int)] w fun e w' => e = .returned (.bool (vB op n vars)) ∧ Below w.heap.size w w' := by
  obtain ⟨r, hr⟩ : ∃ r, (vB op n vars) = r := ⟨_, rfl⟩
  have HR := hidA hr
  rw [hr]
  clear hr
  unfold vB at HR
  by_cases h1 : op = 2
  · have b1 : (op == 2) = true := by simpa using h1
    rw [b1] at HR
    by_cases h2 : 0 ≤ n
    · by_cases h3 : n < (vars : Int)
      · have HR2 : Hid (true = r) := hidA (by have := HR.out; simpa [h2, h3] using this)
        clear h1 HR
        go_enter Try.func64, Try.ntmps64
        go_wp2
        go_ret
        exact ⟨retB HR2.out, (by repeat (first | with_reducible exact Below.refl _ _ | with_reducible refine Below.setCell ?_ (by first | omega | (dsimp only; omega) | (simp; done) | (simp; omega)) _ | with_reducible refine Below.alloc ?_ (by first | omega | (dsimp only; omega) | (simp; done) | (simp; omega)) _ | with_reducible refine Below.drew ?_ | with_reducible refine drewnA ?_ _))⟩
      · have HR2 : Hid (false = r) := hidA (by have := HR.out; simpa [h2, h3] using this)
        have h3' : (vars : Int) ≤ n := by omega
        clear h1 HR h3
        go_enter Try.func64, Try.ntmps64
        go_wp2
        go_ret
        exact ⟨retB (by rw [← HR2.out]; simp; omega), (by repeat (first | with_reducible exact Below.refl _ _ | with_reducible refine Below.setCell ?_ (by first | omega | (dsimp only; omega) | (simp; done) | (simp; omega)) _ | with_reducible refine Below.alloc ?_ (by first | omega | (dsimp only; omega) | (simp; done) | (simp; omega)) _ | with_reducible refine Below.drew ?_ | with_reducible refine drewnA ?_ _))⟩
    · have HR2 : Hid (false = r) := hidA (by have := HR.out; simpa [h2] using this)
      have h2' : n < 0 := by omega
      clear h1 HR h2
      go_enter Try.func64, Try.ntmps64
      go_wp2
      go_ret
      exact ⟨retB HR2.out, (by repeat (first | with_reducible exact Below.refl _ _ | with_reducible refine Below.setCell ?_ (by first | omega | (dsimp only; omega) | (simp; done) | (simp; omega)) _ | with_reducible refine Below.alloc ?_ (by first | omega | (dsimp only; omega) | (simp; done) | (simp; omega)) _ | with_reducible refine Below.drew ?_ | with_reducible refine drewnA ?_ _))⟩
  · have b1 : (op == 2) = false := by simpa using h1
    rw [b1] at HR
    have HR2 : Hid (false = r) := hidA (by simpa using HR.out)
    clear h1 HR
    go_enter Try.func64, Try.ntmps64
    go_wp2
    go_ret
    exact ⟨retB HR2.out, (by repeat (first | with_reducible exact Below.refl _ _ | with_reducible refine Below.setCell ?_ (by first | omega | (dsimp only; omega) | (simp; done) | (simp; omega)) _ | with_reducible refine Below.alloc ?_ (by first | omega | (dsimp only; omega) | (simp; done) | (simp; omega)) _ | with_reducible refine Below.drew ?_ | with_reducible refine drewnA ?_ _))⟩
set_option maxRecDepth 100000 in
set_option maxHeartbeats 400000 in
theorem number_any (op n v : Int) (oa : Option Addr) (len cap : Nat) (w : World) :
    Calls Try.prog 65 #[.agg #[.int .i64 op, .int .i64 n, .int .i64 v, .slice oa len cap]] w fun e w' => e = .returned (.bool (nB op v)) ∧ Below w.heap.size w w' := by
  obtain ⟨r, hr⟩ : ∃ r, (nB op v) = r := ⟨_, rfl⟩
  have HR := hidA hr
  rw [hr]
  clear hr
  unfold nB at HR
  by_cases h1 : op = 1
  · have b1 : (op == 1) = true := by simpa using h1
    rw [b1] at HR
    by_cases h2 : -2147483648 ≤ v
    · by_cases h3 : v ≤ 2147483648
      · have HR2 : Hid (true = r) := hidA (by have := HR.out; simpa [h2, h3] using this)
        clear h1 HR
        go_enter Try.func65, Try.ntmps65
        go_wp2
        go_ret
        exact ⟨retB HR2.out, (by repeat (first | with_reducible exact Below.refl _ _ | with_reducible refine Below.setCell ?_ (by first | omega | (dsimp only; omega) | (simp; done) | (simp; omega)) _ | with_reducible refine Below.alloc ?_ (by first | omega | (dsimp only; omega) | (simp; done) | (simp; omega)) _ | with_reducible refine Below.drew ?_ | with_reducible refine drewnA ?_ _))⟩
      · have HR2 : Hid (false = r) := hidA (by have := HR.out; simpa [h2, h3] using this)
        have h3' : 2147483648 < v := by omega
        clear h1 HR h3
        go_enter Try.func65, Try.ntmps65
        go_wp2
        go_ret
        exact ⟨retB (by rw [← HR2.out]; simp; omega), (by repeat (first | with_reducible exact Below.refl _ _ | with_reducible refine Below.setCell ?_ (by first | omega | (dsimp only; omega) | (simp; done) | (simp; omega)) _ | with_reducible refine Below.alloc ?_ (by first | omega | (dsimp only; omega) | (simp; done) | (simp; omega)) _ | with_reducible refine Below.drew ?_ | with_reducible refine drewnA ?_ _))⟩
    · have HR2 : Hid (false = r) := hidA (by have := HR.out; simpa [h2] using this)
      have h2' : v < -2147483648 := by omega
      clear h1 HR h2
      go_enter Try.func65, Try.ntmps65
      go_wp2
      go_ret
      exact ⟨retB HR2.out, (by repeat (first | with_reducible exact Below.refl _ _ | with_reducible refine Below.setCell ?_ (by first | omega | (dsimp only; omega) | (simp; done) | (simp; omega)) _ | with_reducible refine Below.alloc ?_ (by first | omega | (dsimp only; omega) | (simp; done) | (simp; omega)) _ | with_reducible refine Below.drew ?_ | with_reducible refine drewnA ?_ _))⟩
  · have b1 : (op == 1) = false := by simpa using h1
    rw [b1] at HR
    have HR2 : Hid (false = r) := hidA (by simpa using HR.out)
    clear h1 HR
    go_enter Try.func65, Try.ntmps65
    go_wp2
    go_ret
    exact ⟨retB HR2.out, (by repeat (first | with_reducible exact Below.refl _ _ | with_reducible refine Below.setCell ?_ (by first | omega | (dsimp only; omega) | (simp; done) | (simp; omega)) _ | with_reducible refine Below.alloc ?_ (by first | omega | (dsimp only; omega) | (simp; done) | (simp; omega)) _ | with_reducible refine Below.drew ?_ | with_reducible refine drewnA ?_ _))⟩
theorem shiftT_var {vars : Nat} {op n : Int} (l : List Ex) (h : vB op n vars = true) : shiftT vars op n l = (n.toNat, 0, true) := by
  unfold vB at h
  simp at h
  obtain ⟨rfl, h1, h2⟩ := h
  unfold shiftT
  have e : formT 2 n l = (n, 0, true) := by unfold formT; simp
  rw [e]
  have hb : shiftB (vars : Int) n 0 true = true := by unfold shiftB; simp; omega
  rw [if_pos hb]
theorem shiftT_no {vars : Nat} {op n : Int} (h : vB op n vars = false) : shiftT vars op n [] = (0, 0, false) := by
  unfold shiftT
  by_cases h2 : op = 2
  · subst h2
    have e : formT 2 n [] = (n, 0, true) := by unfold formT; simp
    rw [e]
    rw [if_neg]
    intro hb
    unfold shiftB at hb
    unfold vB at h
    simp at hb h
    omega
  · have e : formT op n [] = (0, 0, false) := by unfold formT; simp [h2]
    rw [e]
    rw [if_neg (by unfold shiftB; simp)]
theorem shiftT_two {vars : Nat} {op n ao an av bo bn bv : Int} (la lb : List Ex) (h : vB op n vars = false) (hbv : -9223372036854775808 ≤ bv ∧ bv ≤ 9223372036854775807) :
    shiftT vars op n [.mk ao an av la, .mk bo bn bv lb] = if (op == 4 && (vB ao an vars && nB bo bv)) = true then (an.toNat, bv, true) else if (op == 4 && (nB ao av && vB bo bn vars)) = true then (bn.toNat, av, true) else if (op == 5 && (vB ao an vars && nB bo bv)) = true then (an.toNat, -bv, true) else (0, 0, false) := by
  have hw : wrap64 (-bv) = if bv = -9223372036854775808 then -9223372036854775808 else -bv := by unfold wrap64; split <;> omega
  unfold shiftT formT
  by_cases h2 : op = 2
  · subst h2
    rw [if_pos rfl, if_neg]
    · simp
    · intro hb
      unfold shiftB at hb
      unfold vB at h
      simp at hb h
      omega
  · rw [if_neg h2]
    clear h
    simp only [vB, nB, shiftB]
    by_cases h4 : op = 4
    · subst h4
      by_cases a2 : ao = 2
      · subst a2
        by_cases b1 : bo = 1
        · subst b1
          simp [and_assoc]
        · simp [b1]
      · by_cases a1 : ao = 1
        · subst a1
          by_cases b2 : bo = 2
          · subst b2
            simp
            congr 1
            simp only [eq_iff_iff]
            omega
          · simp [b2]
        · simp [a1, a2]
    · by_cases h5 : op = 5
      · subst h5
        by_cases a2 : ao = 2
        · subst a2
          by_cases b1 : bo = 1
          · subst b1
            simp
            rw [hw]
            by_cases hm : bv = -9223372036854775808
            · rw [if_pos hm]
              rw [if_neg (by omega), if_neg (by omega)]
            · rw [if_neg hm]
              congr 1
              simp only [eq_iff_iff]
              omega
          · simp [b1]
        · simp [a2]
      · simp [h4, h5]
/-- What the reference's Shift returns. -/
def shV (r : Nat × Int × Bool) : Value := .tuple #[.int .i64 (r.1 : Int), .int .i64 r.2.1, .bool r.2.2]
set_option maxRecDepth 100000 in
set_option maxHeartbeats 400000 in
theorem sh_var (op n v : Int) (oa : Option Addr) (len cap vars : Nat) (h : vB op n vars = true) (w : World) :
    Calls Try.prog 49 #[.agg #[.int .i64 op, .int .i64 n, .int .i64 v, .slice oa len cap], .int .i64 (vars : Int)] w fun e w' => e = .returned (.tuple #[.int .i64 n, .int .i64 0, .bool true]) ∧ Below w.heap.size w w' := by
  obtain ⟨w0, hw0⟩ : ∃ w0, (w.alloc (.cells #[.int .i64 op, .int .i64 n, .int .i64 v, .slice oa len cap] 34)) = w0 := ⟨_, rfl⟩
  have B0 : Hid (Below w.heap.size w w0) := hidA (by rw [← hw0]; exact ((Below.refl _ _).alloc (by first | exact Nat.le_refl _ | (simp; done) | (simp; omega) | omega) _))
  have hsz : w.heap.size < w0.heap.size := by rw [← hw0]; simp
  have PK : Hid (∀ W, Below w0.heap.size w0 W → W.cell? ⟨w.heap.size, 0, none⟩ = some (.int .i64 op) ∧ W.cell? ⟨w.heap.size, 1, none⟩ = some (.int .i64 n) ∧ W.cell? ⟨w.heap.size, 2, none⟩ = some (.int .i64 v) ∧ W.cell? ⟨w.heap.size, 3, none⟩ = some (.slice oa len cap) ∧ w.heap.size < W.heap.size) := hidA (fun W hW => ⟨cellA hW (by rw [← hw0]; simp [go_sem]), cellA hW (by rw [← hw0]; simp [go_sem]), cellA hW (by rw [← hw0]; simp [go_sem]), cellA hW (by rw [← hw0]; simp [go_sem]), (by have h0 := hW.size; have h1 := hsz; omega)⟩)
  have Hw := hidA hw0; clear hw0
  go_enter Try.func49, Try.ntmps49
  go_upto_region 1 with (fail)
  rw [Hw.out]
  clear Hw
  obtain ⟨c0, c1, c2, c3, z0⟩ := PK.out _ (Below.refl _ _)
  clear PK z0
  have HB := B0
  clear B0 hsz
  have CV := hidA (fun w => by have := variable_any op n v oa len cap vars w; rw [h] at this; exact this)
  clear h
  go_wp2_with ((go_at_call 64; (with_reducible refine (CV.out _).mono ?_); rintro e w1 ⟨rfl, hb⟩; have HB' := hidA (stepA HB.out hb); clear HB; have HB := HB'; clear HB'; have c0' := cellA hb c0; clear c0; have c0 := c0'; clear c0'; have c1' := cellA hb c1; clear c1; have c1 := c1'; clear c1'; have c2' := cellA hb c2; clear c2; have c2 := c2'; clear c2'; have c3' := cellA hb c3; clear c3; have c3 := c3'; clear c3'; clear hb))
  go_ret3
  exact ⟨rfl, HB.out⟩
set_option maxRecDepth 100000 in
set_option maxHeartbeats 400000 in
theorem sh_len (op n v : Int) (oa : Option Addr) (len cap vars : Nat) (h : vB op n vars = false) (hl : ((len : Int) == 2) = false) (hl2 : ((len : Int) != 2) = true) (w : World) :
    Calls Try.prog 49 #[.agg #[.int .i64 op, .int .i64 n, .int .i64 v, .slice oa len cap], .int .i64 (vars : Int)] w fun e w' => e = .returned (.tuple #[.int .i64 0, .int .i64 0, .bool false]) ∧ Below w.heap.size w w' := by
  obtain ⟨w0, hw0⟩ : ∃ w0, (w.alloc (.cells #[.int .i64 op, .int .i64 n, .int .i64 v, .slice oa len cap] 34)) = w0 := ⟨_, rfl⟩
  have B0 : Hid (Below w.heap.size w w0) := hidA (by rw [← hw0]; exact ((Below.refl _ _).alloc (by first | exact Nat.le_refl _ | (simp; done) | (simp; omega) | omega) _))
  have hsz : w.heap.size < w0.heap.size := by rw [← hw0]; simp
  have PK : Hid (∀ W, Below w0.heap.size w0 W → W.cell? ⟨w.heap.size, 0, none⟩ = some (.int .i64 op) ∧ W.cell? ⟨w.heap.size, 1, none⟩ = some (.int .i64 n) ∧ W.cell? ⟨w.heap.size, 2, none⟩ = some (.int .i64 v) ∧ W.cell? ⟨w.heap.size, 3, none⟩ = some (.slice oa len cap) ∧ w.heap.size < W.heap.size) := hidA (fun W hW => ⟨cellA hW (by rw [← hw0]; simp [go_sem]), cellA hW (by rw [← hw0]; simp [go_sem]), cellA hW (by rw [← hw0]; simp [go_sem]), cellA hW (by rw [← hw0]; simp [go_sem]), (by have h0 := hW.size; have h1 := hsz; omega)⟩)
  have Hw := hidA hw0; clear hw0
  go_enter Try.func49, Try.ntmps49
  go_upto_region 1 with (fail)
  rw [Hw.out]
  clear Hw
  obtain ⟨c0, c1, c2, c3, z0⟩ := PK.out _ (Below.refl _ _)
  clear PK z0
  have HB := B0
  clear B0 hsz
  have CV := hidA (fun w => by have := variable_any op n v oa len cap vars w; rw [h] at this; exact this)
  clear h
  go_wp2_with ((go_at_call 64; (with_reducible refine (CV.out _).mono ?_); rintro e w1 ⟨rfl, hb⟩; have HB' := hidA (stepA HB.out hb); clear HB; have HB := HB'; clear HB'; have c0' := cellA hb c0; clear c0; have c0 := c0'; clear c0'; have c1' := cellA hb c1; clear c1; have c1 := c1'; clear c1'; have c2' := cellA hb c2; clear c2; have c2 := c2'; clear c2'; have c3' := cellA hb c3; clear c3; have c3 := c3'; clear c3'; clear hb))
  go_ret3
  exact ⟨rfl, HB.out⟩
set_option maxRecDepth 100000 in
set_option maxHeartbeats 2000000 in
theorem sh_two (w : World) (op n v : Int) (q off cap vars : Nat) (ao an av bo bn bv : Int) (pa pb : Option Addr) (la ka lb kb : Nat) (y0 : w.cell? ⟨q, off, none⟩ = some (.int .i64 ao)) (y1 : w.cell? ⟨q, off + 1, none⟩ = some (.int .i64 an)) (y2 : w.cell? ⟨q, off + 2, none⟩ = some (.int .i64 av)) (y3 : w.cell? ⟨q, off + 3, none⟩ = some (.slice pa la ka)) (y4 : w.cell? ⟨q, off + 4, none⟩ = some (.int .i64 bo)) (y5 : w.cell? ⟨q, off + 5, none⟩ = some (.int .i64 bn)) (y6 : w.cell? ⟨q, off + 6, none⟩ = some (.int .i64 bv)) (y7 : w.cell? ⟨q, off + 7, none⟩ = some (.slice pb lb kb)) (h : vB op n vars = false) (va nb na vb p4 p5 : Bool) (hva : vB ao an vars = va) (hnb : nB bo bv = nb) (hna : nB ao av = na) (hvb : vB bo bn vars = vb) (h4 : (op == 4) = p4) (h5 : (op == 5) = p5) (hbv : nb = true → -2147483648 ≤ bv ∧ bv ≤ 2147483648) (NAF : va = true → na = false) :
    Calls Try.prog 49 #[.agg #[.int .i64 op, .int .i64 n, .int .i64 v, .slice (some ⟨q, off, none⟩) 2 cap], .int .i64 (vars : Int)] w fun e w' => e = .returned (if (p4 && (va && nb)) = true then .tuple #[.int .i64 an, .int .i64 bv, .bool true] else if (p4 && (na && vb)) = true then .tuple #[.int .i64 bn, .int .i64 av, .bool true] else if (p5 && (va && nb)) = true then .tuple #[.int .i64 an, .int .i64 (-bv), .bool true] else .tuple #[.int .i64 0, .int .i64 0, .bool false]) ∧ Below w.heap.size w w' := by
  obtain ⟨w0, hw0⟩ : ∃ w0, (w.alloc (.cells #[.int .i64 op, .int .i64 n, .int .i64 v, .slice (some ⟨q, off, none⟩) 2 cap] 34)) = w0 := ⟨_, rfl⟩
  have B0 : Hid (Below w.heap.size w w0) := hidA (by rw [← hw0]; exact ((Below.refl _ _).alloc (by first | exact Nat.le_refl _ | (simp; done) | (simp; omega) | omega) _))
  have hsz : w.heap.size < w0.heap.size := by rw [← hw0]; simp
  have PK : Hid (∀ W, Below w0.heap.size w0 W → W.cell? ⟨w.heap.size, 0, none⟩ = some (.int .i64 op) ∧ W.cell? ⟨w.heap.size, 1, none⟩ = some (.int .i64 n) ∧ W.cell? ⟨w.heap.size, 2, none⟩ = some (.int .i64 v) ∧ W.cell? ⟨w.heap.size, 3, none⟩ = some (.slice (some ⟨q, off, none⟩) 2 cap) ∧ w.heap.size < W.heap.size) := hidA (fun W hW => ⟨cellA hW (by rw [← hw0]; simp [go_sem]), cellA hW (by rw [← hw0]; simp [go_sem]), cellA hW (by rw [← hw0]; simp [go_sem]), cellA hW (by rw [← hw0]; simp [go_sem]), (by have h0 := hW.size; have h1 := hsz; omega)⟩)
  have Hw := hidA hw0; clear hw0
  go_enter Try.func49, Try.ntmps49
  go_upto_region 1 with (fail)
  rw [Hw.out]
  clear Hw
  obtain ⟨c0, c1, c2, c3, z0⟩ := PK.out _ (Below.refl _ _)
  clear PK z0
  have HB := B0
  have HBx := B0
  clear B0 hsz
  have CV := hidA (fun w => by have := variable_any op n v (some ⟨q, off, none⟩) 2 cap vars w; rw [h] at this; exact this)
  have CVa := hidA (fun w => by have := variable_any ao an av pa la ka vars w; rw [hva] at this; exact this)
  have CNb := hidA (fun w => by have := number_any bo bn bv pb lb kb w; rw [hnb] at this; exact this)
  have CNa := hidA (fun w => by have := number_any ao an av pa la ka w; rw [hna] at this; exact this)
  have CVb := hidA (fun w => by have := variable_any bo bn bv pb lb kb vars w; rw [hvb] at this; exact this)
  have y0 := cellA HBx.out y0
  have y1 := cellA HBx.out y1
  have y2 := cellA HBx.out y2
  have y3 := cellA HBx.out y3
  have y4 := cellA HBx.out y4
  have y5 := cellA HBx.out y5
  have y6 := cellA HBx.out y6
  have y7 := cellA HBx.out y7
  have HBV := hidA hbv
  clear h hva hnb hna hvb hbv
  go_upto_region 3 with ((go_at_call 64; (with_reducible refine (CV.out _).mono ?_); rintro e w1 ⟨rfl, hb⟩; have HB' := hidA (stepA HB.out hb); clear HB; have HB := HB'; clear HB'; have c0' := cellA hb c0; clear c0; have c0 := c0'; clear c0'; have c1' := cellA hb c1; clear c1; have c1 := c1'; clear c1'; have c2' := cellA hb c2; clear c2; have c2 := c2'; clear c2'; have c3' := cellA hb c3; clear c3; have c3 := c3'; clear c3'; have y0' := cellA hb y0; clear y0; have y0 := y0'; clear y0'; have y1' := cellA hb y1; clear y1; have y1 := y1'; clear y1'; have y2' := cellA hb y2; clear y2; have y2 := y2'; clear y2'; have y3' := cellA hb y3; clear y3; have y3 := y3'; clear y3'; have y4' := cellA hb y4; clear y4; have y4 := y4'; clear y4'; have y5' := cellA hb y5; clear y5; have y5 := y5'; clear y5'; have y6' := cellA hb y6; clear y6; have y6 := y6'; clear y6'; have y7' := cellA hb y7; clear y7; have y7 := y7'; clear y7'; clear hb))
  go_upto_region 6 with (fail)
  obtain ⟨A, hA⟩ : ∃ d, w1.heap.size = d := ⟨_, rfl⟩
  obtain ⟨w2, hw2⟩ : ∃ wx, w1.alloc (.cells #[.int .i64 ao, .int .i64 an, .int .i64 av, .slice pa la ka] 34) = wx := ⟨_, rfl⟩
  have hb : Below w1.heap.size w1 w2 := by rw [← hw2]; exact below_al _ _
  have a0 : w2.cell? ⟨A, 0, none⟩ = some (.int .i64 ao) := by rw [← hw2, ← hA]; simp [go_sem]
  have a1 : w2.cell? ⟨A, 1, none⟩ = some (.int .i64 an) := by rw [← hw2, ← hA]; simp [go_sem]
  have a2 : w2.cell? ⟨A, 2, none⟩ = some (.int .i64 av) := by rw [← hw2, ← hA]; simp [go_sem]
  have a3 : w2.cell? ⟨A, 3, none⟩ = some (.slice pa la ka) := by rw [← hw2, ← hA]; simp [go_sem]
  rw [hw2, hA]
  clear hw2
  have HB' := hidA (stepA HB.out hb); clear HB; have HB := HB'; clear HB'; have c0' := cellA hb c0; clear c0; have c0 := c0'; clear c0'; have c1' := cellA hb c1; clear c1; have c1 := c1'; clear c1'; have c2' := cellA hb c2; clear c2; have c2 := c2'; clear c2'; have c3' := cellA hb c3; clear c3; have c3 := c3'; clear c3'; have y0' := cellA hb y0; clear y0; have y0 := y0'; clear y0'; have y1' := cellA hb y1; clear y1; have y1 := y1'; clear y1'; have y2' := cellA hb y2; clear y2; have y2 := y2'; clear y2'; have y3' := cellA hb y3; clear y3; have y3 := y3'; clear y3'; have y4' := cellA hb y4; clear y4; have y4 := y4'; clear y4'; have y5' := cellA hb y5; clear y5; have y5 := y5'; clear y5'; have y6' := cellA hb y6; clear y6; have y6 := y6'; clear y6'; have y7' := cellA hb y7; clear y7; have y7 := y7'; clear y7'; clear hb
  clear hA
  go_upto_region 7 with (fail)
  obtain ⟨B, hB⟩ : ∃ d, w2.heap.size = d := ⟨_, rfl⟩
  obtain ⟨w3, hw2⟩ : ∃ wx, w2.alloc (.cells #[.int .i64 bo, .int .i64 bn, .int .i64 bv, .slice pb lb kb] 34) = wx := ⟨_, rfl⟩
  have hb : Below w2.heap.size w2 w3 := by rw [← hw2]; exact below_al _ _
  have b0 : w3.cell? ⟨B, 0, none⟩ = some (.int .i64 bo) := by rw [← hw2, ← hB]; simp [go_sem]
  have b1 : w3.cell? ⟨B, 1, none⟩ = some (.int .i64 bn) := by rw [← hw2, ← hB]; simp [go_sem]
  have b2 : w3.cell? ⟨B, 2, none⟩ = some (.int .i64 bv) := by rw [← hw2, ← hB]; simp [go_sem]
  have b3 : w3.cell? ⟨B, 3, none⟩ = some (.slice pb lb kb) := by rw [← hw2, ← hB]; simp [go_sem]
  rw [hw2, hB]
  clear hw2
  have HB' := hidA (stepA HB.out hb); clear HB; have HB := HB'; clear HB'; have c0' := cellA hb c0; clear c0; have c0 := c0'; clear c0'; have c1' := cellA hb c1; clear c1; have c1 := c1'; clear c1'; have c2' := cellA hb c2; clear c2; have c2 := c2'; clear c2'; have c3' := cellA hb c3; clear c3; have c3 := c3'; clear c3'; have y0' := cellA hb y0; clear y0; have y0 := y0'; clear y0'; have y1' := cellA hb y1; clear y1; have y1 := y1'; clear y1'; have y2' := cellA hb y2; clear y2; have y2 := y2'; clear y2'; have y3' := cellA hb y3; clear y3; have y3 := y3'; clear y3'; have y4' := cellA hb y4; clear y4; have y4 := y4'; clear y4'; have y5' := cellA hb y5; clear y5; have y5 := y5'; clear y5'; have y6' := cellA hb y6; clear y6; have y6 := y6'; clear y6'; have y7' := cellA hb y7; clear y7; have y7 := y7'; clear y7'; have a0' := cellA hb a0; clear a0; have a0 := a0'; clear a0'; have a1' := cellA hb a1; clear a1; have a1 := a1'; clear a1'; have a2' := cellA hb a2; clear a2; have a2 := a2'; clear a2'; have a3' := cellA hb a3; clear a3; have a3 := a3'; clear a3'; clear hb
  clear hB
  cases p4
  · cases p5
    · skip
      go_wp2
      go_ret3
      exact ⟨rfl, (by repeat (first | with_reducible exact Below.refl _ _ | with_reducible exact HB.out | with_reducible refine Below.setCell ?_ (by first | omega | (dsimp only; omega) | (simp; done) | (simp; omega)) _ | with_reducible refine Below.alloc ?_ (by first | omega | (dsimp only; omega) | (simp; done) | (simp; omega)) _ | with_reducible refine Below.drew ?_ | with_reducible refine drewnA ?_ _ | with_reducible refine Below.trans ?_ (HB.out.mono (by first | omega | (dsimp only; omega) | (simp; done) | (simp; omega)))))⟩
    · cases va
      · skip
        go_wp2_with fail
        ((go_at_call 64; (with_reducible refine (CVa.out _).mono ?_); rintro e w2 ⟨rfl, hb⟩; have HB' := hidA (stepA HB.out hb); clear HB; have HB := HB'; clear HB'; have c0' := cellA hb c0; clear c0; have c0 := c0'; clear c0'; have c1' := cellA hb c1; clear c1; have c1 := c1'; clear c1'; have c2' := cellA hb c2; clear c2; have c2 := c2'; clear c2'; have c3' := cellA hb c3; clear c3; have c3 := c3'; clear c3'; have y0' := cellA hb y0; clear y0; have y0 := y0'; clear y0'; have y1' := cellA hb y1; clear y1; have y1 := y1'; clear y1'; have y2' := cellA hb y2; clear y2; have y2 := y2'; clear y2'; have y3' := cellA hb y3; clear y3; have y3 := y3'; clear y3'; have y4' := cellA hb y4; clear y4; have y4 := y4'; clear y4'; have y5' := cellA hb y5; clear y5; have y5 := y5'; clear y5'; have y6' := cellA hb y6; clear y6; have y6 := y6'; clear y6'; have y7' := cellA hb y7; clear y7; have y7 := y7'; clear y7'; have a0' := cellA hb a0; clear a0; have a0 := a0'; clear a0'; have a1' := cellA hb a1; clear a1; have a1 := a1'; clear a1'; have a2' := cellA hb a2; clear a2; have a2 := a2'; clear a2'; have a3' := cellA hb a3; clear a3; have a3 := a3'; clear a3'; have b0' := cellA hb b0; clear b0; have b0 := b0'; clear b0'; have b1' := cellA hb b1; clear b1; have b1 := b1'; clear b1'; have b2' := cellA hb b2; clear b2; have b2 := b2'; clear b2'; have b3' := cellA hb b3; clear b3; have b3 := b3'; clear b3'; clear hb))
        go_wp2
        go_ret3
        exact ⟨rfl, (by repeat (first | with_reducible exact Below.refl _ _ | with_reducible exact HB.out | with_reducible refine Below.setCell ?_ (by first | omega | (dsimp only; omega) | (simp; done) | (simp; omega)) _ | with_reducible refine Below.alloc ?_ (by first | omega | (dsimp only; omega) | (simp; done) | (simp; omega)) _ | with_reducible refine Below.drew ?_ | with_reducible refine drewnA ?_ _ | with_reducible refine Below.trans ?_ (HB.out.mono (by first | omega | (dsimp only; omega) | (simp; done) | (simp; omega)))))⟩
      · cases nb
        · skip
          go_wp2_with fail
          ((go_at_call 64; (with_reducible refine (CVa.out _).mono ?_); rintro e w2 ⟨rfl, hb⟩; have HB' := hidA (stepA HB.out hb); clear HB; have HB := HB'; clear HB'; have c0' := cellA hb c0; clear c0; have c0 := c0'; clear c0'; have c1' := cellA hb c1; clear c1; have c1 := c1'; clear c1'; have c2' := cellA hb c2; clear c2; have c2 := c2'; clear c2'; have c3' := cellA hb c3; clear c3; have c3 := c3'; clear c3'; have y0' := cellA hb y0; clear y0; have y0 := y0'; clear y0'; have y1' := cellA hb y1; clear y1; have y1 := y1'; clear y1'; have y2' := cellA hb y2; clear y2; have y2 := y2'; clear y2'; have y3' := cellA hb y3; clear y3; have y3 := y3'; clear y3'; have y4' := cellA hb y4; clear y4; have y4 := y4'; clear y4'; have y5' := cellA hb y5; clear y5; have y5 := y5'; clear y5'; have y6' := cellA hb y6; clear y6; have y6 := y6'; clear y6'; have y7' := cellA hb y7; clear y7; have y7 := y7'; clear y7'; have a0' := cellA hb a0; clear a0; have a0 := a0'; clear a0'; have a1' := cellA hb a1; clear a1; have a1 := a1'; clear a1'; have a2' := cellA hb a2; clear a2; have a2 := a2'; clear a2'; have a3' := cellA hb a3; clear a3; have a3 := a3'; clear a3'; have b0' := cellA hb b0; clear b0; have b0 := b0'; clear b0'; have b1' := cellA hb b1; clear b1; have b1 := b1'; clear b1'; have b2' := cellA hb b2; clear b2; have b2 := b2'; clear b2'; have b3' := cellA hb b3; clear b3; have b3 := b3'; clear b3'; clear hb))
          go_wp2_with fail
          ((go_at_call 65; (with_reducible refine (CNb.out _).mono ?_); rintro e w3 ⟨rfl, hb⟩; have HB' := hidA (stepA HB.out hb); clear HB; have HB := HB'; clear HB'; have c0' := cellA hb c0; clear c0; have c0 := c0'; clear c0'; have c1' := cellA hb c1; clear c1; have c1 := c1'; clear c1'; have c2' := cellA hb c2; clear c2; have c2 := c2'; clear c2'; have c3' := cellA hb c3; clear c3; have c3 := c3'; clear c3'; have y0' := cellA hb y0; clear y0; have y0 := y0'; clear y0'; have y1' := cellA hb y1; clear y1; have y1 := y1'; clear y1'; have y2' := cellA hb y2; clear y2; have y2 := y2'; clear y2'; have y3' := cellA hb y3; clear y3; have y3 := y3'; clear y3'; have y4' := cellA hb y4; clear y4; have y4 := y4'; clear y4'; have y5' := cellA hb y5; clear y5; have y5 := y5'; clear y5'; have y6' := cellA hb y6; clear y6; have y6 := y6'; clear y6'; have y7' := cellA hb y7; clear y7; have y7 := y7'; clear y7'; have a0' := cellA hb a0; clear a0; have a0 := a0'; clear a0'; have a1' := cellA hb a1; clear a1; have a1 := a1'; clear a1'; have a2' := cellA hb a2; clear a2; have a2 := a2'; clear a2'; have a3' := cellA hb a3; clear a3; have a3 := a3'; clear a3'; have b0' := cellA hb b0; clear b0; have b0 := b0'; clear b0'; have b1' := cellA hb b1; clear b1; have b1 := b1'; clear b1'; have b2' := cellA hb b2; clear b2; have b2 := b2'; clear b2'; have b3' := cellA hb b3; clear b3; have b3 := b3'; clear b3'; clear hb))
          go_wp2
          go_ret3
          exact ⟨rfl, (by repeat (first | with_reducible exact Below.refl _ _ | with_reducible exact HB.out | with_reducible refine Below.setCell ?_ (by first | omega | (dsimp only; omega) | (simp; done) | (simp; omega)) _ | with_reducible refine Below.alloc ?_ (by first | omega | (dsimp only; omega) | (simp; done) | (simp; omega)) _ | with_reducible refine Below.drew ?_ | with_reducible refine drewnA ?_ _ | with_reducible refine Below.trans ?_ (HB.out.mono (by first | omega | (dsimp only; omega) | (simp; done) | (simp; omega)))))⟩
        · skip
          go_wp2_with fail
          ((go_at_call 64; (with_reducible refine (CVa.out _).mono ?_); rintro e w2 ⟨rfl, hb⟩; have HB' := hidA (stepA HB.out hb); clear HB; have HB := HB'; clear HB'; have c0' := cellA hb c0; clear c0; have c0 := c0'; clear c0'; have c1' := cellA hb c1; clear c1; have c1 := c1'; clear c1'; have c2' := cellA hb c2; clear c2; have c2 := c2'; clear c2'; have c3' := cellA hb c3; clear c3; have c3 := c3'; clear c3'; have y0' := cellA hb y0; clear y0; have y0 := y0'; clear y0'; have y1' := cellA hb y1; clear y1; have y1 := y1'; clear y1'; have y2' := cellA hb y2; clear y2; have y2 := y2'; clear y2'; have y3' := cellA hb y3; clear y3; have y3 := y3'; clear y3'; have y4' := cellA hb y4; clear y4; have y4 := y4'; clear y4'; have y5' := cellA hb y5; clear y5; have y5 := y5'; clear y5'; have y6' := cellA hb y6; clear y6; have y6 := y6'; clear y6'; have y7' := cellA hb y7; clear y7; have y7 := y7'; clear y7'; have a0' := cellA hb a0; clear a0; have a0 := a0'; clear a0'; have a1' := cellA hb a1; clear a1; have a1 := a1'; clear a1'; have a2' := cellA hb a2; clear a2; have a2 := a2'; clear a2'; have a3' := cellA hb a3; clear a3; have a3 := a3'; clear a3'; have b0' := cellA hb b0; clear b0; have b0 := b0'; clear b0'; have b1' := cellA hb b1; clear b1; have b1 := b1'; clear b1'; have b2' := cellA hb b2; clear b2; have b2 := b2'; clear b2'; have b3' := cellA hb b3; clear b3; have b3 := b3'; clear b3'; clear hb))
          go_wp2_with fail
          ((go_at_call 65; (with_reducible refine (CNb.out _).mono ?_); rintro e w3 ⟨rfl, hb⟩; have HB' := hidA (stepA HB.out hb); clear HB; have HB := HB'; clear HB'; have c0' := cellA hb c0; clear c0; have c0 := c0'; clear c0'; have c1' := cellA hb c1; clear c1; have c1 := c1'; clear c1'; have c2' := cellA hb c2; clear c2; have c2 := c2'; clear c2'; have c3' := cellA hb c3; clear c3; have c3 := c3'; clear c3'; have y0' := cellA hb y0; clear y0; have y0 := y0'; clear y0'; have y1' := cellA hb y1; clear y1; have y1 := y1'; clear y1'; have y2' := cellA hb y2; clear y2; have y2 := y2'; clear y2'; have y3' := cellA hb y3; clear y3; have y3 := y3'; clear y3'; have y4' := cellA hb y4; clear y4; have y4 := y4'; clear y4'; have y5' := cellA hb y5; clear y5; have y5 := y5'; clear y5'; have y6' := cellA hb y6; clear y6; have y6 := y6'; clear y6'; have y7' := cellA hb y7; clear y7; have y7 := y7'; clear y7'; have a0' := cellA hb a0; clear a0; have a0 := a0'; clear a0'; have a1' := cellA hb a1; clear a1; have a1 := a1'; clear a1'; have a2' := cellA hb a2; clear a2; have a2 := a2'; clear a2'; have a3' := cellA hb a3; clear a3; have a3 := a3'; clear a3'; have b0' := cellA hb b0; clear b0; have b0 := b0'; clear b0'; have b1' := cellA hb b1; clear b1; have b1 := b1'; clear b1'; have b2' := cellA hb b2; clear b2; have b2 := b2'; clear b2'; have b3' := cellA hb b3; clear b3; have b3 := b3'; clear b3'; clear hb))
          go_upto_region 12 with (fail)
          go_quiet (fail)
          go_wp2
          go_ret3
          exact ⟨by rw [wrap_neg (HBV.out (by simp)).1 (HBV.out (by simp)).2]; rfl, (by repeat (first | with_reducible exact Below.refl _ _ | with_reducible exact HB.out | with_reducible refine Below.setCell ?_ (by first | omega | (dsimp only; omega) | (simp; done) | (simp; omega)) _ | with_reducible refine Below.alloc ?_ (by first | omega | (dsimp only; omega) | (simp; done) | (simp; omega)) _ | with_reducible refine Below.drew ?_ | with_reducible refine drewnA ?_ _ | with_reducible refine Below.trans ?_ (HB.out.mono (by first | omega | (dsimp only; omega) | (simp; done) | (simp; omega)))))⟩
  · have p5f : p5 = false := by cases p5; · rfl
                                · simp at h4 h5; omega
    subst p5f
    cases va
    · cases na
      · skip
        go_wp2_with fail
        ((go_at_call 64; (with_reducible refine (CVa.out _).mono ?_); rintro e w2 ⟨rfl, hb⟩; have HB' := hidA (stepA HB.out hb); clear HB; have HB := HB'; clear HB'; have c0' := cellA hb c0; clear c0; have c0 := c0'; clear c0'; have c1' := cellA hb c1; clear c1; have c1 := c1'; clear c1'; have c2' := cellA hb c2; clear c2; have c2 := c2'; clear c2'; have c3' := cellA hb c3; clear c3; have c3 := c3'; clear c3'; have y0' := cellA hb y0; clear y0; have y0 := y0'; clear y0'; have y1' := cellA hb y1; clear y1; have y1 := y1'; clear y1'; have y2' := cellA hb y2; clear y2; have y2 := y2'; clear y2'; have y3' := cellA hb y3; clear y3; have y3 := y3'; clear y3'; have y4' := cellA hb y4; clear y4; have y4 := y4'; clear y4'; have y5' := cellA hb y5; clear y5; have y5 := y5'; clear y5'; have y6' := cellA hb y6; clear y6; have y6 := y6'; clear y6'; have y7' := cellA hb y7; clear y7; have y7 := y7'; clear y7'; have a0' := cellA hb a0; clear a0; have a0 := a0'; clear a0'; have a1' := cellA hb a1; clear a1; have a1 := a1'; clear a1'; have a2' := cellA hb a2; clear a2; have a2 := a2'; clear a2'; have a3' := cellA hb a3; clear a3; have a3 := a3'; clear a3'; have b0' := cellA hb b0; clear b0; have b0 := b0'; clear b0'; have b1' := cellA hb b1; clear b1; have b1 := b1'; clear b1'; have b2' := cellA hb b2; clear b2; have b2 := b2'; clear b2'; have b3' := cellA hb b3; clear b3; have b3 := b3'; clear b3'; clear hb))
        go_wp2_with fail
        ((go_at_call 65; (with_reducible refine (CNa.out _).mono ?_); rintro e w3 ⟨rfl, hb⟩; have HB' := hidA (stepA HB.out hb); clear HB; have HB := HB'; clear HB'; have c0' := cellA hb c0; clear c0; have c0 := c0'; clear c0'; have c1' := cellA hb c1; clear c1; have c1 := c1'; clear c1'; have c2' := cellA hb c2; clear c2; have c2 := c2'; clear c2'; have c3' := cellA hb c3; clear c3; have c3 := c3'; clear c3'; have y0' := cellA hb y0; clear y0; have y0 := y0'; clear y0'; have y1' := cellA hb y1; clear y1; have y1 := y1'; clear y1'; have y2' := cellA hb y2; clear y2; have y2 := y2'; clear y2'; have y3' := cellA hb y3; clear y3; have y3 := y3'; clear y3'; have y4' := cellA hb y4; clear y4; have y4 := y4'; clear y4'; have y5' := cellA hb y5; clear y5; have y5 := y5'; clear y5'; have y6' := cellA hb y6; clear y6; have y6 := y6'; clear y6'; have y7' := cellA hb y7; clear y7; have y7 := y7'; clear y7'; have a0' := cellA hb a0; clear a0; have a0 := a0'; clear a0'; have a1' := cellA hb a1; clear a1; have a1 := a1'; clear a1'; have a2' := cellA hb a2; clear a2; have a2 := a2'; clear a2'; have a3' := cellA hb a3; clear a3; have a3 := a3'; clear a3'; have b0' := cellA hb b0; clear b0; have b0 := b0'; clear b0'; have b1' := cellA hb b1; clear b1; have b1 := b1'; clear b1'; have b2' := cellA hb b2; clear b2; have b2 := b2'; clear b2'; have b3' := cellA hb b3; clear b3; have b3 := b3'; clear b3'; clear hb))
        go_wp2
        go_ret3
        exact ⟨rfl, (by repeat (first | with_reducible exact Below.refl _ _ | with_reducible exact HB.out | with_reducible refine Below.setCell ?_ (by first | omega | (dsimp only; omega) | (simp; done) | (simp; omega)) _ | with_reducible refine Below.alloc ?_ (by first | omega | (dsimp only; omega) | (simp; done) | (simp; omega)) _ | with_reducible refine Below.drew ?_ | with_reducible refine drewnA ?_ _ | with_reducible refine Below.trans ?_ (HB.out.mono (by first | omega | (dsimp only; omega) | (simp; done) | (simp; omega)))))⟩
      · cases vb
        · skip
          go_wp2_with fail
          ((go_at_call 64; (with_reducible refine (CVa.out _).mono ?_); rintro e w2 ⟨rfl, hb⟩; have HB' := hidA (stepA HB.out hb); clear HB; have HB := HB'; clear HB'; have c0' := cellA hb c0; clear c0; have c0 := c0'; clear c0'; have c1' := cellA hb c1; clear c1; have c1 := c1'; clear c1'; have c2' := cellA hb c2; clear c2; have c2 := c2'; clear c2'; have c3' := cellA hb c3; clear c3; have c3 := c3'; clear c3'; have y0' := cellA hb y0; clear y0; have y0 := y0'; clear y0'; have y1' := cellA hb y1; clear y1; have y1 := y1'; clear y1'; have y2' := cellA hb y2; clear y2; have y2 := y2'; clear y2'; have y3' := cellA hb y3; clear y3; have y3 := y3'; clear y3'; have y4' := cellA hb y4; clear y4; have y4 := y4'; clear y4'; have y5' := cellA hb y5; clear y5; have y5 := y5'; clear y5'; have y6' := cellA hb y6; clear y6; have y6 := y6'; clear y6'; have y7' := cellA hb y7; clear y7; have y7 := y7'; clear y7'; have a0' := cellA hb a0; clear a0; have a0 := a0'; clear a0'; have a1' := cellA hb a1; clear a1; have a1 := a1'; clear a1'; have a2' := cellA hb a2; clear a2; have a2 := a2'; clear a2'; have a3' := cellA hb a3; clear a3; have a3 := a3'; clear a3'; have b0' := cellA hb b0; clear b0; have b0 := b0'; clear b0'; have b1' := cellA hb b1; clear b1; have b1 := b1'; clear b1'; have b2' := cellA hb b2; clear b2; have b2 := b2'; clear b2'; have b3' := cellA hb b3; clear b3; have b3 := b3'; clear b3'; clear hb))
          go_wp2_with fail
          ((go_at_call 65; (with_reducible refine (CNa.out _).mono ?_); rintro e w3 ⟨rfl, hb⟩; have HB' := hidA (stepA HB.out hb); clear HB; have HB := HB'; clear HB'; have c0' := cellA hb c0; clear c0; have c0 := c0'; clear c0'; have c1' := cellA hb c1; clear c1; have c1 := c1'; clear c1'; have c2' := cellA hb c2; clear c2; have c2 := c2'; clear c2'; have c3' := cellA hb c3; clear c3; have c3 := c3'; clear c3'; have y0' := cellA hb y0; clear y0; have y0 := y0'; clear y0'; have y1' := cellA hb y1; clear y1; have y1 := y1'; clear y1'; have y2' := cellA hb y2; clear y2; have y2 := y2'; clear y2'; have y3' := cellA hb y3; clear y3; have y3 := y3'; clear y3'; have y4' := cellA hb y4; clear y4; have y4 := y4'; clear y4'; have y5' := cellA hb y5; clear y5; have y5 := y5'; clear y5'; have y6' := cellA hb y6; clear y6; have y6 := y6'; clear y6'; have y7' := cellA hb y7; clear y7; have y7 := y7'; clear y7'; have a0' := cellA hb a0; clear a0; have a0 := a0'; clear a0'; have a1' := cellA hb a1; clear a1; have a1 := a1'; clear a1'; have a2' := cellA hb a2; clear a2; have a2 := a2'; clear a2'; have a3' := cellA hb a3; clear a3; have a3 := a3'; clear a3'; have b0' := cellA hb b0; clear b0; have b0 := b0'; clear b0'; have b1' := cellA hb b1; clear b1; have b1 := b1'; clear b1'; have b2' := cellA hb b2; clear b2; have b2 := b2'; clear b2'; have b3' := cellA hb b3; clear b3; have b3 := b3'; clear b3'; clear hb))
          go_wp2_with fail
          ((go_at_call 64; (with_reducible refine (CVb.out _).mono ?_); rintro e w4 ⟨rfl, hb⟩; have HB' := hidA (stepA HB.out hb); clear HB; have HB := HB'; clear HB'; have c0' := cellA hb c0; clear c0; have c0 := c0'; clear c0'; have c1' := cellA hb c1; clear c1; have c1 := c1'; clear c1'; have c2' := cellA hb c2; clear c2; have c2 := c2'; clear c2'; have c3' := cellA hb c3; clear c3; have c3 := c3'; clear c3'; have y0' := cellA hb y0; clear y0; have y0 := y0'; clear y0'; have y1' := cellA hb y1; clear y1; have y1 := y1'; clear y1'; have y2' := cellA hb y2; clear y2; have y2 := y2'; clear y2'; have y3' := cellA hb y3; clear y3; have y3 := y3'; clear y3'; have y4' := cellA hb y4; clear y4; have y4 := y4'; clear y4'; have y5' := cellA hb y5; clear y5; have y5 := y5'; clear y5'; have y6' := cellA hb y6; clear y6; have y6 := y6'; clear y6'; have y7' := cellA hb y7; clear y7; have y7 := y7'; clear y7'; have a0' := cellA hb a0; clear a0; have a0 := a0'; clear a0'; have a1' := cellA hb a1; clear a1; have a1 := a1'; clear a1'; have a2' := cellA hb a2; clear a2; have a2 := a2'; clear a2'; have a3' := cellA hb a3; clear a3; have a3 := a3'; clear a3'; have b0' := cellA hb b0; clear b0; have b0 := b0'; clear b0'; have b1' := cellA hb b1; clear b1; have b1 := b1'; clear b1'; have b2' := cellA hb b2; clear b2; have b2 := b2'; clear b2'; have b3' := cellA hb b3; clear b3; have b3 := b3'; clear b3'; clear hb))
          go_wp2
          go_ret3
          exact ⟨rfl, (by repeat (first | with_reducible exact Below.refl _ _ | with_reducible exact HB.out | with_reducible refine Below.setCell ?_ (by first | omega | (dsimp only; omega) | (simp; done) | (simp; omega)) _ | with_reducible refine Below.alloc ?_ (by first | omega | (dsimp only; omega) | (simp; done) | (simp; omega)) _ | with_reducible refine Below.drew ?_ | with_reducible refine drewnA ?_ _ | with_reducible refine Below.trans ?_ (HB.out.mono (by first | omega | (dsimp only; omega) | (simp; done) | (simp; omega)))))⟩
        · skip
          go_wp2_with fail
          ((go_at_call 64; (with_reducible refine (CVa.out _).mono ?_); rintro e w2 ⟨rfl, hb⟩; have HB' := hidA (stepA HB.out hb); clear HB; have HB := HB'; clear HB'; have c0' := cellA hb c0; clear c0; have c0 := c0'; clear c0'; have c1' := cellA hb c1; clear c1; have c1 := c1'; clear c1'; have c2' := cellA hb c2; clear c2; have c2 := c2'; clear c2'; have c3' := cellA hb c3; clear c3; have c3 := c3'; clear c3'; have y0' := cellA hb y0; clear y0; have y0 := y0'; clear y0'; have y1' := cellA hb y1; clear y1; have y1 := y1'; clear y1'; have y2' := cellA hb y2; clear y2; have y2 := y2'; clear y2'; have y3' := cellA hb y3; clear y3; have y3 := y3'; clear y3'; have y4' := cellA hb y4; clear y4; have y4 := y4'; clear y4'; have y5' := cellA hb y5; clear y5; have y5 := y5'; clear y5'; have y6' := cellA hb y6; clear y6; have y6 := y6'; clear y6'; have y7' := cellA hb y7; clear y7; have y7 := y7'; clear y7'; have a0' := cellA hb a0; clear a0; have a0 := a0'; clear a0'; have a1' := cellA hb a1; clear a1; have a1 := a1'; clear a1'; have a2' := cellA hb a2; clear a2; have a2 := a2'; clear a2'; have a3' := cellA hb a3; clear a3; have a3 := a3'; clear a3'; have b0' := cellA hb b0; clear b0; have b0 := b0'; clear b0'; have b1' := cellA hb b1; clear b1; have b1 := b1'; clear b1'; have b2' := cellA hb b2; clear b2; have b2 := b2'; clear b2'; have b3' := cellA hb b3; clear b3; have b3 := b3'; clear b3'; clear hb))
          go_wp2_with fail
          ((go_at_call 65; (with_reducible refine (CNa.out _).mono ?_); rintro e w3 ⟨rfl, hb⟩; have HB' := hidA (stepA HB.out hb); clear HB; have HB := HB'; clear HB'; have c0' := cellA hb c0; clear c0; have c0 := c0'; clear c0'; have c1' := cellA hb c1; clear c1; have c1 := c1'; clear c1'; have c2' := cellA hb c2; clear c2; have c2 := c2'; clear c2'; have c3' := cellA hb c3; clear c3; have c3 := c3'; clear c3'; have y0' := cellA hb y0; clear y0; have y0 := y0'; clear y0'; have y1' := cellA hb y1; clear y1; have y1 := y1'; clear y1'; have y2' := cellA hb y2; clear y2; have y2 := y2'; clear y2'; have y3' := cellA hb y3; clear y3; have y3 := y3'; clear y3'; have y4' := cellA hb y4; clear y4; have y4 := y4'; clear y4'; have y5' := cellA hb y5; clear y5; have y5 := y5'; clear y5'; have y6' := cellA hb y6; clear y6; have y6 := y6'; clear y6'; have y7' := cellA hb y7; clear y7; have y7 := y7'; clear y7'; have a0' := cellA hb a0; clear a0; have a0 := a0'; clear a0'; have a1' := cellA hb a1; clear a1; have a1 := a1'; clear a1'; have a2' := cellA hb a2; clear a2; have a2 := a2'; clear a2'; have a3' := cellA hb a3; clear a3; have a3 := a3'; clear a3'; have b0' := cellA hb b0; clear b0; have b0 := b0'; clear b0'; have b1' := cellA hb b1; clear b1; have b1 := b1'; clear b1'; have b2' := cellA hb b2; clear b2; have b2 := b2'; clear b2'; have b3' := cellA hb b3; clear b3; have b3 := b3'; clear b3'; clear hb))
          go_wp2_with fail
          ((go_at_call 64; (with_reducible refine (CVb.out _).mono ?_); rintro e w4 ⟨rfl, hb⟩; have HB' := hidA (stepA HB.out hb); clear HB; have HB := HB'; clear HB'; have c0' := cellA hb c0; clear c0; have c0 := c0'; clear c0'; have c1' := cellA hb c1; clear c1; have c1 := c1'; clear c1'; have c2' := cellA hb c2; clear c2; have c2 := c2'; clear c2'; have c3' := cellA hb c3; clear c3; have c3 := c3'; clear c3'; have y0' := cellA hb y0; clear y0; have y0 := y0'; clear y0'; have y1' := cellA hb y1; clear y1; have y1 := y1'; clear y1'; have y2' := cellA hb y2; clear y2; have y2 := y2'; clear y2'; have y3' := cellA hb y3; clear y3; have y3 := y3'; clear y3'; have y4' := cellA hb y4; clear y4; have y4 := y4'; clear y4'; have y5' := cellA hb y5; clear y5; have y5 := y5'; clear y5'; have y6' := cellA hb y6; clear y6; have y6 := y6'; clear y6'; have y7' := cellA hb y7; clear y7; have y7 := y7'; clear y7'; have a0' := cellA hb a0; clear a0; have a0 := a0'; clear a0'; have a1' := cellA hb a1; clear a1; have a1 := a1'; clear a1'; have a2' := cellA hb a2; clear a2; have a2 := a2'; clear a2'; have a3' := cellA hb a3; clear a3; have a3 := a3'; clear a3'; have b0' := cellA hb b0; clear b0; have b0 := b0'; clear b0'; have b1' := cellA hb b1; clear b1; have b1 := b1'; clear b1'; have b2' := cellA hb b2; clear b2; have b2 := b2'; clear b2'; have b3' := cellA hb b3; clear b3; have b3 := b3'; clear b3'; clear hb))
          go_upto_region 10 with (fail)
          go_quiet (fail)
          go_wp2
          go_ret3
          exact ⟨rfl, (by repeat (first | with_reducible exact Below.refl _ _ | with_reducible exact HB.out | with_reducible refine Below.setCell ?_ (by first | omega | (dsimp only; omega) | (simp; done) | (simp; omega)) _ | with_reducible refine Below.alloc ?_ (by first | omega | (dsimp only; omega) | (simp; done) | (simp; omega)) _ | with_reducible refine Below.drew ?_ | with_reducible refine drewnA ?_ _ | with_reducible refine Below.trans ?_ (HB.out.mono (by first | omega | (dsimp only; omega) | (simp; done) | (simp; omega)))))⟩
    · have naf : na = false := NAF rfl
      subst naf
      cases nb
      · skip
        go_wp2_with fail
        ((go_at_call 64; (with_reducible refine (CVa.out _).mono ?_); rintro e w2 ⟨rfl, hb⟩; have HB' := hidA (stepA HB.out hb); clear HB; have HB := HB'; clear HB'; have c0' := cellA hb c0; clear c0; have c0 := c0'; clear c0'; have c1' := cellA hb c1; clear c1; have c1 := c1'; clear c1'; have c2' := cellA hb c2; clear c2; have c2 := c2'; clear c2'; have c3' := cellA hb c3; clear c3; have c3 := c3'; clear c3'; have y0' := cellA hb y0; clear y0; have y0 := y0'; clear y0'; have y1' := cellA hb y1; clear y1; have y1 := y1'; clear y1'; have y2' := cellA hb y2; clear y2; have y2 := y2'; clear y2'; have y3' := cellA hb y3; clear y3; have y3 := y3'; clear y3'; have y4' := cellA hb y4; clear y4; have y4 := y4'; clear y4'; have y5' := cellA hb y5; clear y5; have y5 := y5'; clear y5'; have y6' := cellA hb y6; clear y6; have y6 := y6'; clear y6'; have y7' := cellA hb y7; clear y7; have y7 := y7'; clear y7'; have a0' := cellA hb a0; clear a0; have a0 := a0'; clear a0'; have a1' := cellA hb a1; clear a1; have a1 := a1'; clear a1'; have a2' := cellA hb a2; clear a2; have a2 := a2'; clear a2'; have a3' := cellA hb a3; clear a3; have a3 := a3'; clear a3'; have b0' := cellA hb b0; clear b0; have b0 := b0'; clear b0'; have b1' := cellA hb b1; clear b1; have b1 := b1'; clear b1'; have b2' := cellA hb b2; clear b2; have b2 := b2'; clear b2'; have b3' := cellA hb b3; clear b3; have b3 := b3'; clear b3'; clear hb))
        go_wp2_with fail
        ((go_at_call 65; (with_reducible refine (CNb.out _).mono ?_); rintro e w3 ⟨rfl, hb⟩; have HB' := hidA (stepA HB.out hb); clear HB; have HB := HB'; clear HB'; have c0' := cellA hb c0; clear c0; have c0 := c0'; clear c0'; have c1' := cellA hb c1; clear c1; have c1 := c1'; clear c1'; have c2' := cellA hb c2; clear c2; have c2 := c2'; clear c2'; have c3' := cellA hb c3; clear c3; have c3 := c3'; clear c3'; have y0' := cellA hb y0; clear y0; have y0 := y0'; clear y0'; have y1' := cellA hb y1; clear y1; have y1 := y1'; clear y1'; have y2' := cellA hb y2; clear y2; have y2 := y2'; clear y2'; have y3' := cellA hb y3; clear y3; have y3 := y3'; clear y3'; have y4' := cellA hb y4; clear y4; have y4 := y4'; clear y4'; have y5' := cellA hb y5; clear y5; have y5 := y5'; clear y5'; have y6' := cellA hb y6; clear y6; have y6 := y6'; clear y6'; have y7' := cellA hb y7; clear y7; have y7 := y7'; clear y7'; have a0' := cellA hb a0; clear a0; have a0 := a0'; clear a0'; have a1' := cellA hb a1; clear a1; have a1 := a1'; clear a1'; have a2' := cellA hb a2; clear a2; have a2 := a2'; clear a2'; have a3' := cellA hb a3; clear a3; have a3 := a3'; clear a3'; have b0' := cellA hb b0; clear b0; have b0 := b0'; clear b0'; have b1' := cellA hb b1; clear b1; have b1 := b1'; clear b1'; have b2' := cellA hb b2; clear b2; have b2 := b2'; clear b2'; have b3' := cellA hb b3; clear b3; have b3 := b3'; clear b3'; clear hb))
        go_wp2_with fail
        ((go_at_call 65; (with_reducible refine (CNa.out _).mono ?_); rintro e w4 ⟨rfl, hb⟩; have HB' := hidA (stepA HB.out hb); clear HB; have HB := HB'; clear HB'; have c0' := cellA hb c0; clear c0; have c0 := c0'; clear c0'; have c1' := cellA hb c1; clear c1; have c1 := c1'; clear c1'; have c2' := cellA hb c2; clear c2; have c2 := c2'; clear c2'; have c3' := cellA hb c3; clear c3; have c3 := c3'; clear c3'; have y0' := cellA hb y0; clear y0; have y0 := y0'; clear y0'; have y1' := cellA hb y1; clear y1; have y1 := y1'; clear y1'; have y2' := cellA hb y2; clear y2; have y2 := y2'; clear y2'; have y3' := cellA hb y3; clear y3; have y3 := y3'; clear y3'; have y4' := cellA hb y4; clear y4; have y4 := y4'; clear y4'; have y5' := cellA hb y5; clear y5; have y5 := y5'; clear y5'; have y6' := cellA hb y6; clear y6; have y6 := y6'; clear y6'; have y7' := cellA hb y7; clear y7; have y7 := y7'; clear y7'; have a0' := cellA hb a0; clear a0; have a0 := a0'; clear a0'; have a1' := cellA hb a1; clear a1; have a1 := a1'; clear a1'; have a2' := cellA hb a2; clear a2; have a2 := a2'; clear a2'; have a3' := cellA hb a3; clear a3; have a3 := a3'; clear a3'; have b0' := cellA hb b0; clear b0; have b0 := b0'; clear b0'; have b1' := cellA hb b1; clear b1; have b1 := b1'; clear b1'; have b2' := cellA hb b2; clear b2; have b2 := b2'; clear b2'; have b3' := cellA hb b3; clear b3; have b3 := b3'; clear b3'; clear hb))
        go_wp2
        go_ret3
        exact ⟨rfl, (by repeat (first | with_reducible exact Below.refl _ _ | with_reducible exact HB.out | with_reducible refine Below.setCell ?_ (by first | omega | (dsimp only; omega) | (simp; done) | (simp; omega)) _ | with_reducible refine Below.alloc ?_ (by first | omega | (dsimp only; omega) | (simp; done) | (simp; omega)) _ | with_reducible refine Below.drew ?_ | with_reducible refine drewnA ?_ _ | with_reducible refine Below.trans ?_ (HB.out.mono (by first | omega | (dsimp only; omega) | (simp; done) | (simp; omega)))))⟩
      · skip
        go_wp2_with fail
        ((go_at_call 64; (with_reducible refine (CVa.out _).mono ?_); rintro e w2 ⟨rfl, hb⟩; have HB' := hidA (stepA HB.out hb); clear HB; have HB := HB'; clear HB'; have c0' := cellA hb c0; clear c0; have c0 := c0'; clear c0'; have c1' := cellA hb c1; clear c1; have c1 := c1'; clear c1'; have c2' := cellA hb c2; clear c2; have c2 := c2'; clear c2'; have c3' := cellA hb c3; clear c3; have c3 := c3'; clear c3'; have y0' := cellA hb y0; clear y0; have y0 := y0'; clear y0'; have y1' := cellA hb y1; clear y1; have y1 := y1'; clear y1'; have y2' := cellA hb y2; clear y2; have y2 := y2'; clear y2'; have y3' := cellA hb y3; clear y3; have y3 := y3'; clear y3'; have y4' := cellA hb y4; clear y4; have y4 := y4'; clear y4'; have y5' := cellA hb y5; clear y5; have y5 := y5'; clear y5'; have y6' := cellA hb y6; clear y6; have y6 := y6'; clear y6'; have y7' := cellA hb y7; clear y7; have y7 := y7'; clear y7'; have a0' := cellA hb a0; clear a0; have a0 := a0'; clear a0'; have a1' := cellA hb a1; clear a1; have a1 := a1'; clear a1'; have a2' := cellA hb a2; clear a2; have a2 := a2'; clear a2'; have a3' := cellA hb a3; clear a3; have a3 := a3'; clear a3'; have b0' := cellA hb b0; clear b0; have b0 := b0'; clear b0'; have b1' := cellA hb b1; clear b1; have b1 := b1'; clear b1'; have b2' := cellA hb b2; clear b2; have b2 := b2'; clear b2'; have b3' := cellA hb b3; clear b3; have b3 := b3'; clear b3'; clear hb))
        go_wp2_with fail
        ((go_at_call 65; (with_reducible refine (CNb.out _).mono ?_); rintro e w3 ⟨rfl, hb⟩; have HB' := hidA (stepA HB.out hb); clear HB; have HB := HB'; clear HB'; have c0' := cellA hb c0; clear c0; have c0 := c0'; clear c0'; have c1' := cellA hb c1; clear c1; have c1 := c1'; clear c1'; have c2' := cellA hb c2; clear c2; have c2 := c2'; clear c2'; have c3' := cellA hb c3; clear c3; have c3 := c3'; clear c3'; have y0' := cellA hb y0; clear y0; have y0 := y0'; clear y0'; have y1' := cellA hb y1; clear y1; have y1 := y1'; clear y1'; have y2' := cellA hb y2; clear y2; have y2 := y2'; clear y2'; have y3' := cellA hb y3; clear y3; have y3 := y3'; clear y3'; have y4' := cellA hb y4; clear y4; have y4 := y4'; clear y4'; have y5' := cellA hb y5; clear y5; have y5 := y5'; clear y5'; have y6' := cellA hb y6; clear y6; have y6 := y6'; clear y6'; have y7' := cellA hb y7; clear y7; have y7 := y7'; clear y7'; have a0' := cellA hb a0; clear a0; have a0 := a0'; clear a0'; have a1' := cellA hb a1; clear a1; have a1 := a1'; clear a1'; have a2' := cellA hb a2; clear a2; have a2 := a2'; clear a2'; have a3' := cellA hb a3; clear a3; have a3 := a3'; clear a3'; have b0' := cellA hb b0; clear b0; have b0 := b0'; clear b0'; have b1' := cellA hb b1; clear b1; have b1 := b1'; clear b1'; have b2' := cellA hb b2; clear b2; have b2 := b2'; clear b2'; have b3' := cellA hb b3; clear b3; have b3 := b3'; clear b3'; clear hb))
        go_upto_region 8 with (fail)
        go_quiet (fail)
        go_wp2
        go_ret3
        exact ⟨rfl, (by repeat (first | with_reducible exact Below.refl _ _ | with_reducible exact HB.out | with_reducible refine Below.setCell ?_ (by first | omega | (dsimp only; omega) | (simp; done) | (simp; omega)) _ | with_reducible refine Below.alloc ?_ (by first | omega | (dsimp only; omega) | (simp; done) | (simp; omega)) _ | with_reducible refine Below.drew ?_ | with_reducible refine drewnA ?_ _ | with_reducible refine Below.trans ?_ (HB.out.mono (by first | omega | (dsimp only; omega) | (simp; done) | (simp; omega)))))⟩
/-- The expressions of the laws. -/
def ExOk (l : List Ex) : Prop := l = [] ∨ ∃ ao an av bo bn bv, l = [.mk ao an av [], .mk bo bn bv []] ∧ -9223372036854775808 ≤ bv ∧ bv ≤ 9223372036854775807
theorem rshift_any (w : World) (op n v : Int) (l : List Ex) (hok : ExOk l) (oa : Option Addr) (len cap vars : Nat) (hlen : l.length = len) (hx : exIn w (.mk op n v l) (.agg #[.int .i64 op, .int .i64 n, .int .i64 v, .slice oa len cap])) :
    Calls Try.prog 49 #[.agg #[.int .i64 op, .int .i64 n, .int .i64 v, .slice oa len cap], .int .i64 (vars : Int)] w fun e w' => e = .returned (shV (shiftT vars op n l)) ∧ Below w.heap.size w w' := by
  by_cases hv : vB op n vars = true
  · rw [shiftT_var l hv]
    have hn : ((n.toNat : Nat) : Int) = n := by unfold vB at hv; simp at hv; omega
    have := sh_var op n v oa len cap vars hv w
    unfold shV
    simp only [hn]
    exact this
  · rw [Bool.not_eq_true] at hv
    rcases hok with rfl | ⟨ao, an, av, bo, bn, bv, rfl, b1, b2⟩
    · rw [shiftT_no hv]
      subst hlen
      exact sh_len op n v oa 0 cap vars hv (by decide) (by decide) w
    · subst hlen
      rw [exIn] at hx
      obtain ⟨oa', cap', h1, -, -, h4⟩ := hx
      injection h1 with h1
      simp only [Array.mk.injEq, List.cons.injEq, Value.slice.injEq] at h1
      obtain ⟨-, -, -, ⟨rfl, -, rfl⟩, -⟩ := h1
      obtain ⟨b, off, x0, x1, x2, x3, rfl, c0, c1, c2, c3, e1⟩ := exsIn_at h4 0 _ rfl
      obtain ⟨b', off', y0, y1, y2, y3, hb, d0, d1, d2, d3, e2⟩ := exsIn_at h4 1 _ rfl
      injection hb with hb
      injection hb with hb1 hb2 _
      subst hb1 hb2
      rw [exIn] at e1 e2
      obtain ⟨pa, ka, e1, -, -, -⟩ := e1
      obtain ⟨pb, kb, e2, -, -, -⟩ := e2
      simp only [Value.agg.injEq, Array.mk.injEq, List.toArray_eq_toArray_eq, List.cons.injEq, and_true, List.toArray_inj] at e1 e2
      obtain ⟨rfl, rfl, rfl, rfl⟩ := e1
      obtain ⟨rfl, rfl, rfl, rfl⟩ := e2
      have k := sh_two w op n v b off cap vars ao an av bo bn bv pa pb _ ka _ kb (by simpa using c0) (by simpa using c1) (by simpa using c2) (by simpa using c3) (by simpa using d0) (by simpa using d1) (by simpa using d2) (by simpa using d3) hv _ _ _ _ _ _ rfl rfl rfl rfl rfl rfl (fun h => by unfold nB at h; simp at h; omega) (fun h => by unfold vB at h; unfold nB; simp at h ⊢; omega)
      refine k.mono (fun e w' h => ⟨h.1.trans ?_, h.2⟩)
      rw [shiftT_two [] [] hv ⟨b1, b2⟩]
      congr 1
      have ha : vB ao an vars = true → ((an.toNat : Nat) : Int) = an := fun h => by unfold vB at h; simp at h; omega
      have hb : vB bo bn vars = true → ((bn.toNat : Nat) : Int) = bn := fun h => by unfold vB at h; simp at h; omega
      unfold shV
      split
      · rename_i h
        simp at h
        simp [ha h.2.1]
      · split
        · rename_i h
          simp at h
          simp [hb h.2.2]
        · split
          · rename_i h
            simp at h
            simp [ha h.2.1]
          · rfl
end Go.Proofs.Ytdcaecpcofencaa

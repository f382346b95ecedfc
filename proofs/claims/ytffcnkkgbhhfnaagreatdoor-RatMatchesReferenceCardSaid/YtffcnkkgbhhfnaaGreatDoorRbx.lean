import Derived.Test.YtffcnkkgbhhfnaaGreatDoorRby
namespace Go.Proofs.YtffcnkkgbhhfnaaGreatDoor
open Go.RowKit Go.Instr
set_option linter.unusedVariables false

/-! The reference's 'AddIn'. -/
theorem field_q (r : Int) (p : Option Addr) (n c : Nat) (w : World) : (Instr.field 52 (.agg #[.slice p n c, .int .i64 r]) 1).run Tryz.prog w = .ok (.int .i64 r) w := by kernel_rfl
theorem field_d (r : Int) (p : Option Addr) (n c : Nat) (w : World) : (Instr.field 52 (.agg #[.slice p n c, .int .i64 r]) 0).run Tryz.prog w = .ok (.slice p n c) w := by kernel_rfl
attribute [local go_sem] field_q field_d
theorem BitsAt.len {w : World} {v : Value} {l : List Nat} (h : BitsAt w v l) : ∃ p c, v = .slice p l.length c := by
  obtain ⟨p, c, rfl, -⟩ := h
  exact ⟨_, _, rfl⟩
theorem Past.lt {w : World} {v : Value} {l : List Nat} (h : BitsAt w v l) (h0 : l.length ≠ 0) : ∀ p n c, v = .slice (some p) n c → p.block < w.heap.size := by
  intro p n c e
  obtain ⟨p', c', e', -, -, -, h4⟩ := h
  obtain ⟨b, o, hp, h5⟩ := h4 h0
  rw [e] at e'
  simp only [Value.slice.injEq] at e'
  obtain ⟨rfl, -, -⟩ := e'
  obtain rfl := Option.some.inj hp
  have := h5 0 (by omega)
  rcases Nat.lt_or_ge b w.heap.size with h' | h'
  · exact h'
  · simp [World.cell?, Array.getElem?_eq_none h'] at this
theorem wrap_div (a g : Nat) (h : a ≤ 4611686018427387904) : IntKind.i64.wrap ((a : Int) / (g : Int)) = ((a / g : Nat) : Int) := by
  have := Nat.div_le_self a g
  rw [← Int.natCast_ediv, IntKind.wrap_i64]
  obtain ⟨q, hq⟩ : ∃ q, a / g = q := ⟨_, rfl⟩
  rw [hq] at this ⊢
  omega
theorem off_past {B nf : Nat} {v : Value} (h : Past B v) (hn : nf < B) : ∀ p n c, v = .slice (some p) n c → p.block ≠ nf := fun p n c e => by have := h p n c e; omega
theorem off_lt {w : World} {v : Value} {l : List Nat} (h : BitsAt w v l) (h0 : l.length ≠ 0) : ∀ p n c, v = .slice (some p) n c → p.block ≠ w.heap.size := fun p n c e => by have := Past.lt h h0 p n c e; omega
theorem BitsAt.setOff {w : World} {B : Nat} {v : Value} {l : List Nat} (h : BitsAt w v l) (hp : l.length ≠ 0 → ∀ p n c, v = .slice (some p) n c → p.block ≠ B) (o : Nat) (x : Value) : BitsAt (w.setCell ⟨B, o, none⟩ x) v l := by
  obtain ⟨p, c, rfl, h1, h2, h3, h4⟩ := h
  refine ⟨p, c, rfl, h1, h2, h3, fun h0 => ?_⟩
  obtain ⟨b, o', rfl, h5⟩ := h4 h0
  have hb := hp h0 _ _ _ rfl
  simp only at hb
  refine ⟨b, o', rfl, fun i hi => ?_⟩
  rw [World.cell?_setCell_far _ _ _ _ (show B ≠ b by omega)]
  exact h5 i hi
theorem box2_set {w : World} {b : Nat} {x y : Value} (h : Box2 w b x y) (u v : Value) : Box2 ((w.setCell ⟨b, 0, none⟩ u).setCell ⟨b, 1, none⟩ v) b u v := by
  obtain ⟨g0, g1, f0, f1, g4⟩ := h
  exact ⟨by simp [go_sem, g0, g1], by simp [go_sem, g0, g1], by simp [go_sem, f0], by simp [go_sem, f1], by simpa using g4⟩
def sv_sum (aN bN : Int) (da db g : Nat) : Int := aN * ((db / g : Nat) : Int) + bN * ((da / g : Nat) : Int)
def fr3 (r : Rat) : Value := .agg #[.int .i64 (numR r), .int .i64 (denR r), .int .i64 (errR r)]
/-- A result's box of three cells. -/
def Box3 (w : World) (b : Nat) (x y z : Value) : Prop := (w.cell? ⟨b, 0, none⟩ = some x ∧ w.cell? ⟨b, 1, none⟩ = some y ∧ w.cell? ⟨b, 2, none⟩ = some z) ∧ (w.frozen? ⟨b, 0, none⟩ = false ∧ w.frozen? ⟨b, 1, none⟩ = false ∧ w.frozen? ⟨b, 2, none⟩ = false) ∧ b < w.heap.size
theorem Box3.below {w w' : World} {b : Nat} {x y z : Value} (h : Box3 w b x y z) (hb : Below w.heap.size w w') : Box3 w' b x y z :=
  ⟨⟨cell_below hb h.1.1, cell_below hb h.1.2.1, cell_below hb h.1.2.2⟩, ⟨(hb.frozen (p := ⟨b, 0, none⟩) h.2.2).trans h.2.1.1, (hb.frozen (p := ⟨b, 1, none⟩) h.2.2).trans h.2.1.2.1, (hb.frozen (p := ⟨b, 2, none⟩) h.2.2).trans h.2.1.2.2⟩, Nat.lt_of_lt_of_le h.2.2 hb.size⟩
theorem box3_new (w : World) (x y z : Value) (t : TypeId) : Box3 (w.alloc (.cells #[x, y, z] t)) w.heap.size x y z := ⟨⟨by simp [go_sem], by simp [go_sem], by simp [go_sem]⟩, ⟨by simp [go_sem], by simp [go_sem], by simp [go_sem]⟩, by simp⟩
theorem far3 (w : World) (B b o : Nat) (u v x : Value) (h : B ≠ b) {y : Value} (hc : w.cell? ⟨b, o, none⟩ = some y) : (((w.setCell ⟨B, 0, none⟩ u).setCell ⟨B, 1, none⟩ v).setCell ⟨B, 2, none⟩ x).cell? ⟨b, o, none⟩ = some y :=
  (World.cell?_setCell_far _ _ _ _ h).trans ((World.cell?_setCell_far _ _ _ _ h).trans ((World.cell?_setCell_far _ _ _ _ h).trans hc))
theorem divide_bits (v : Value) (n m : Nat) (hn : n < 2 ^ 250) (hm : 1 ≤ m) (hm2 : m ≤ 4611686018427387904) (w : World) (hv : BitsAt w v (bitsN n)) :
    Calls Tryz.prog 36 #[v, .int .i64 (m : Int)] w fun e w' => ∃ p q c, e = .returned (.agg #[.slice p q c, .int .i64 ((n % m : Nat) : Int)]) ∧ BitsAt w' (.slice p q c) (bitsN (n / m)) ∧ Below w.heap.size w w' := by
  have ln := bits_len hn
  have := rdivide_any v _ m (bit_bits _) (by omega) hm hm2 w hv
  rw [vl_bitsN] at this
  refine this.mono fun e w' ⟨z, h1, h2, h3, h4⟩ => ?_
  obtain ⟨p, q, c, rfl⟩ := h2.slice
  exact ⟨p, q, c, h1, h2, h3⟩
theorem bits_sl (n : Nat) (hn : n ≤ 9223372036854775807) (w : World) :
    Calls Tryz.prog 39 #[.int .i64 (n : Int)] w fun e w' => ∃ p q c, e = .returned (.slice p q c) ∧ BitsAt w' (.slice p q c) (bitsN n) ∧ Below w.heap.size w w' := (bits_any n hn w).mono fun e w' ⟨z, h1, h2, h3, h4⟩ => by
  obtain ⟨p, q, c, rfl⟩ := h2.slice
  exact ⟨p, q, c, h1, h2, h3⟩
theorem times_sl (x y : Value) (n m : Nat) (hn : n < 2 ^ 200) (hm : m < 2 ^ 200) (w : World) (hx : BitsAt w x (bitsN n)) (hy : BitsAt w y (bitsN m)) :
    Calls Tryz.prog 38 #[x, y] w fun e w' => ∃ p q c, e = .returned (.slice p q c) ∧ BitsAt w' (.slice p q c) (bitsN (n * m)) ∧ Below w.heap.size w w' := by
  have := rtimes_any x y _ _ (bit_bits _) (bit_bits _) (bitsN_len 200 n hn) (bitsN_len 200 m hm) w hx hy
  rw [vl_bitsN, vl_bitsN] at this
  refine this.mono fun e w' ⟨z, h1, h2, h3, h4⟩ => ?_
  obtain ⟨p, q, c, rfl⟩ := h2.slice
  exact ⟨p, q, c, h1, h2, h3⟩
theorem product_sl (a b : Int) (ha : a.natAbs ≤ 4611686018427387904) (hb : b.natAbs ≤ 4611686018427387904) (w : World) :
    Calls Tryz.prog 35 #[.int .i64 a, .int .i64 b] w fun e w' => ∃ s p q c, e = .returned (.agg #[.bool s, .slice p q c]) ∧ BitsAt w' (.slice p q c) (bitsN (a.natAbs * b.natAbs)) ∧ sv s (a.natAbs * b.natAbs) = a * b ∧ Below w.heap.size w w' :=
  (product_bits a b (by omega) (by omega) (by omega) (by omega) w).mono fun e w' ⟨z, h1, h2, h3, h4⟩ => by
  obtain ⟨p, q, c, rfl⟩ := h2.slice
  exact ⟨_, p, q, c, h1, h2, sv_mul a b, h3⟩
theorem sum_sl (na nb : Bool) (x y : Value) (n m : Nat) (hn : n < 2 ^ 240) (hm : m < 2 ^ 240) (w : World) (hx : BitsAt w x (bitsN n)) (hy : BitsAt w y (bitsN m)) :
    Calls Tryz.prog 34 #[.agg #[.bool na, x], .agg #[.bool nb, y]] w fun e w' => ∃ (b : Bool) (k : Nat) (p : Option Addr) (c : Nat), e = .returned (.agg #[.bool b, .slice p (bitsN k).length c]) ∧ BitsAt w' (.slice p (bitsN k).length c) (bitsN k) ∧ sv b k = sv na n + sv nb m ∧ k ≤ n + m ∧ Past w.heap.size (.slice p (bitsN k).length c) ∧ Below w.heap.size w w' := by
  have h3 := Nat.pow_le_pow_right (show 0 < 2 by omega) (show 240 ≤ 250 by omega)
  refine (sum_bits na nb x y n m (Nat.lt_of_lt_of_le hn h3) (Nat.lt_of_lt_of_le hm h3) w hx hy).mono fun e w' ⟨b, z, k, h1, h2, h3, h4, h5, h6⟩ => ?_
  obtain ⟨p, c, rfl⟩ := h2.len
  exact ⟨b, k, p, c, h1, h2, h3, h4, h6, h5⟩
theorem prod_lt {a b : Nat} (ha : a ≤ 4611686018427387904) (hb : b ≤ 4611686018427387904) : a * b < 2 ^ 126 := by
  have := Nat.mul_le_mul ha hb
  have h2 : (4611686018427387904 * 4611686018427387904 : Nat) < 2 ^ 126 := by decide +kernel
  omega
set_option maxRecDepth 100000 in
set_option maxHeartbeats 16000000 in
theorem addin_bits {aN bN : Int} {da db : Nat} (a : Fr aN da) (b : Fr bN db) (w : World) :
    Calls Tryz.prog 11 #[.agg #[.int .i64 aN, .int .i64 (da : Int)], .agg #[.int .i64 bN, .int .i64 (db : Int)]] w fun e w' => e = .returned (fr3 (Rat.divInt aN da + Rat.divInt bN db)) ∧ Below w.heap.size w w' := by
  have a1 := a.pos; have a2 := a.le; have a3 := a.lo; have a4 := a.hi
  have b1 := b.pos; have b2 := b.le; have b3 := b.lo; have b4 := b.hi
  have AM := hid (fun g hg bt nt hs h hh => add_math a b g hg bt nt hs h hh)
  have GC := hid (fun w => rgcd_any da db (by omega) (by omega) w)
  obtain ⟨g, hg⟩ : ∃ g, Nat.gcd da db = g := ⟨_, rfl⟩
  have hg0 : 0 < g := hg ▸ Nat.gcd_pos_of_pos_left _ (by omega)
  have hgle : g ≤ da := hg ▸ Nat.gcd_le_left _ (by omega)
  rw [hg] at GC
  have HG := hid hg.symm
  clear hg a b
  have hda : da / g ≤ da := Nat.div_le_self _ _
  have hdb : db / g ≤ db := Nat.div_le_self _ _
  have P1 := hid (fun w => product_sl aN ((db / g : Nat) : Int) (by omega) (by rw [Int.natAbs_natCast]; omega) w)
  have P2 := hid (fun w => product_sl bN ((da / g : Nat) : Int) (by omega) (by rw [Int.natAbs_natCast]; omega) w)
  have hp1 := prod_lt (show aN.natAbs ≤ 4611686018427387904 by omega) (show ((db / g : Nat) : Int).natAbs ≤ 4611686018427387904 by rw [Int.natAbs_natCast]; omega)
  have hp2 := prod_lt (show bN.natAbs ≤ 4611686018427387904 by omega) (show ((da / g : Nat) : Int).natAbs ≤ 4611686018427387904 by rw [Int.natAbs_natCast]; omega)
  have h126 := Nat.pow_lt_pow_right (show 1 < 2 by omega) (show 126 < 240 by omega)
  obtain ⟨m1, hm1⟩ : ∃ m, aN.natAbs * ((db / g : Nat) : Int).natAbs = m := ⟨_, rfl⟩
  obtain ⟨m2, hm2⟩ : ∃ m, bN.natAbs * ((da / g : Nat) : Int).natAbs = m := ⟨_, rfl⟩
  rw [hm1] at P1 hp1
  rw [hm2] at P2 hp2
  have HP1 := hid (Nat.lt_trans hp1 h126)
  have HP2 := hid (Nat.lt_trans hp2 h126)
  have HPB := hid (And.intro hp1 hp2)
  clear hm1 hm2 hp1 hp2 h126
  have e1 := hid (wrap_div db g (by omega))
  have e2 := hid (wrap_div da g (by omega))
  obtain ⟨w0, hw0⟩ : ∃ w0, ((w.alloc (.cells #[.int .i64 aN, .int .i64 (da : Int)] 25)).alloc (.cells #[.int .i64 bN, .int .i64 (db : Int)] 25)).alloc (.cells #[.int .i64 0, .int .i64 0, .int .i64 0] 28) = w0 := ⟨_, rfl⟩
  have A0 := hid (show Box2 w0 w.heap.size (.int .i64 aN) (.int .i64 (da : Int)) by
    rw [← hw0]; exact ((box2_new w _ _ _).below (below_a0 _ _)).below (below_a0 _ _))
  have C0 := hid (show Box2 w0 (w.heap.size + 1) (.int .i64 bN) (.int .i64 (db : Int)) by
    have h := (box2_new (w.alloc (.cells #[.int .i64 aN, .int .i64 (da : Int)] 25)) (.int .i64 bN) (.int .i64 (db : Int)) 25).below (below_a0 _ (.cells #[.int .i64 0, .int .i64 0, .int .i64 0] 28))
    rw [World.size_alloc] at h
    rw [← hw0]; exact h)
  have R0 := hid (show Box3 w0 (w.heap.size + 2) (.int .i64 0) (.int .i64 0) (.int .i64 0) by
    have h := box3_new ((w.alloc (.cells #[.int .i64 aN, .int .i64 (da : Int)] 25)).alloc (.cells #[.int .i64 bN, .int .i64 (db : Int)] 25)) (.int .i64 0) (.int .i64 0) (.int .i64 0) 28
    rw [World.size_alloc, World.size_alloc] at h
    rw [← hw0]; exact h)
  have B0 := hid (show Below w.heap.size w w0 by rw [← hw0]; exact below_a (below_a (below_a0 _ _) _) _)
  have hz0 : w.heap.size + 3 ≤ w0.heap.size := by rw [← hw0]; simp
  have Hw := hid hw0
  clear hw0
  obtain ⟨c0, c1, -, -, -⟩ := A0.out
  obtain ⟨d0, d1, -, -, -⟩ := C0.out
  have x1 : ¬ (g : Int) = 0 := by omega
  have x2 : ((g : Int) == 0) = false := by rw [beq_eq_false_iff_ne]; omega
  have x3 : (1 : Int) ≤ (g : Int) := by omega
  have x6 : ¬ g = 0 := by omega
  have x4 : (0 : Int) ≤ (da : Int) := by omega
  have x5 : (0 : Int) ≤ (db : Int) := by omega
  have hsd := (Below.refl w0.heap.size w0).drew
  go_enter Tryz.func11, Tryz.ntmps11
  go_wp2_with fail
  rw [Hw.out]
  refine (GC.out _).mono ?_
  rintro e wq ⟨rfl, hwq⟩
  rw [hwq]
  clear hwq
  go_upto_region 2 with fail
  go_cut [6] (fun f wx => ∃ (nf : Nat) (bt : Bool) (nt : Nat) (pt : Option Addr) (ct : Nat), f = .pointer (some ⟨nf, 0, none⟩) ∧ Hid (BitsAt wx (.slice pt (bitsN nt).length ct) (bitsN nt) ∧ Box2 wx nf (.bool bt) (.slice pt (bitsN nt).length ct) ∧ sv bt nt = sv_sum aN bN da db g ∧ nt < 2 ^ 127 ∧ Below w0.heap.size w0 wx ∧ w0.heap.size ≤ nf))
  case first =>
    refine wp_region_held_drew (S := fun W' => (W'.cell? ⟨w.heap.size, 0, none⟩ = some (.int .i64 aN) ∧ W'.cell? ⟨w.heap.size, 1, none⟩ = some (.int .i64 (da : Int)) ∧ W'.cell? ⟨w.heap.size + 1, 0, none⟩ = some (.int .i64 bN) ∧ W'.cell? ⟨w.heap.size + 1, 1, none⟩ = some (.int .i64 (db : Int)))) (by kernel_rfl) ?_ (fun hHeld => ?_)
    · exact ⟨c0, c1, d0, d1⟩
    have hB := hsd
    obtain ⟨wD, hwD⟩ : ∃ wD, w0.drew = wD := ⟨_, rfl⟩
    rw [hwD] at hHeld hB ⊢
    clear hwD
    refine wpAnyH_take (i := 0) (oi := ({ dst := some 13, op := Op.fieldAddr 25 (Operand.tmp 2) 0, type := 0, pos := "ref.go:220", after := #[], guard := none } : Oper)) (v := ?_) rfl (by kernel_rfl) (by kernel_rfl) (by kernel_rfl) (fun _ _ _ h => h) (Or.inl ⟨by rfl, ?_⟩) (by assumption) ?_
    rotate_left
    · intro w hSw; (try dsimp only at hSw); go_simp <;> with_reducible rfl
    (try simp only [Act.put, List.setIfInBounds_toArray, List.set_cons_zero, List.set_cons_succ])
    refine wpAnyH_take (i := 1) (oi := ({ dst := some 14, op := Op.load 3 (Operand.tmp 13), type := 3, pos := "ref.go:220", after := #[{ on := 0, ground := Ground.data }], guard := none } : Oper)) (v := ?_) rfl (by kernel_rfl) (by kernel_rfl) (by kernel_rfl) (fun _ _ _ h => h) (Or.inl ⟨by rfl, ?_⟩) (by assumption) ?_
    rotate_left
    · intro w hSw; (try dsimp only at hSw); go_simp <;> with_reducible rfl
    (try simp only [Act.put, List.setIfInBounds_toArray, List.set_cons_zero, List.set_cons_succ])
    refine wpAnyH_take (i := 2) (oi := ({ dst := some 15, op := Op.fieldAddr 25 (Operand.tmp 3) 1, type := 0, pos := "ref.go:220", after := #[], guard := none } : Oper)) (v := ?_) rfl (by kernel_rfl) (by kernel_rfl) (by kernel_rfl) (fun _ _ _ h => h) (Or.inl ⟨by rfl, ?_⟩) (by assumption) ?_
    rotate_left
    · intro w hSw; (try dsimp only at hSw); go_simp <;> with_reducible rfl
    (try simp only [Act.put, List.setIfInBounds_toArray, List.set_cons_zero, List.set_cons_succ])
    refine wpAnyH_take (i := 3) (oi := ({ dst := some 16, op := Op.load 3 (Operand.tmp 15), type := 3, pos := "ref.go:220", after := #[{ on := 2, ground := Ground.data }], guard := none } : Oper)) (v := ?_) rfl (by kernel_rfl) (by kernel_rfl) (by kernel_rfl) (fun _ _ _ h => h) (Or.inl ⟨by rfl, ?_⟩) (by assumption) ?_
    rotate_left
    · intro w hSw; (try dsimp only at hSw); go_simp <;> with_reducible rfl
    (try simp only [Act.put, List.setIfInBounds_toArray, List.set_cons_zero, List.set_cons_succ])
    refine wpAnyH_take (i := 4) (oi := ({ dst := some 17, op := Op.move (Operand.tmp 5), type := 3, pos := "ref.go:220", after := #[], guard := none } : Oper)) (v := ?_) rfl (by kernel_rfl) (by kernel_rfl) (by kernel_rfl) (fun _ _ _ h => h) (Or.inl ⟨by rfl, ?_⟩) (by assumption) ?_
    rotate_left
    · intro w hSw; (try dsimp only at hSw); go_simp <;> with_reducible rfl
    (try simp only [Act.put, List.setIfInBounds_toArray, List.set_cons_zero, List.set_cons_succ])
    refine wpAnyH_take (i := 5) (oi := ({ dst := some 18, op := Op.binOp BinOp.quo 3 (Operand.tmp 16) (Operand.tmp 17) 3, type := 3, pos := "ref.go:220", after := #[{ on := 3, ground := Ground.data }, { on := 4, ground := Ground.data }], guard := none } : Oper)) (v := ?_) rfl (by kernel_rfl) (by kernel_rfl) (by kernel_rfl) (fun _ _ _ h => h) (Or.inl ⟨by rfl, ?_⟩) (by assumption) ?_
    rotate_left
    · intro w hSw; (try dsimp only at hSw); go_simp <;> with_reducible rfl
    (try simp only [Act.put, List.setIfInBounds_toArray, List.set_cons_zero, List.set_cons_succ])
    refine wpAnyH_take (i := 7) (oi := ({ dst := some 20, op := Op.fieldAddr 25 (Operand.tmp 3) 0, type := 0, pos := "ref.go:220", after := #[], guard := none } : Oper)) (v := ?_) rfl (by kernel_rfl) (by kernel_rfl) (by kernel_rfl) (fun _ _ _ h => h) (Or.inl ⟨by rfl, ?_⟩) (by assumption) ?_
    rotate_left
    · intro w hSw; (try dsimp only at hSw); go_simp <;> with_reducible rfl
    (try simp only [Act.put, List.setIfInBounds_toArray, List.set_cons_zero, List.set_cons_succ])
    refine wpAnyH_take (i := 8) (oi := ({ dst := some 21, op := Op.load 3 (Operand.tmp 20), type := 3, pos := "ref.go:220", after := #[{ on := 7, ground := Ground.data }], guard := none } : Oper)) (v := ?_) rfl (by kernel_rfl) (by kernel_rfl) (by kernel_rfl) (fun _ _ _ h => h) (Or.inl ⟨by rfl, ?_⟩) (by assumption) ?_
    rotate_left
    · intro w hSw; (try dsimp only at hSw); go_simp <;> with_reducible rfl
    (try simp only [Act.put, List.setIfInBounds_toArray, List.set_cons_zero, List.set_cons_succ])
    refine wpAnyH_take (i := 9) (oi := ({ dst := some 22, op := Op.fieldAddr 25 (Operand.tmp 2) 1, type := 0, pos := "ref.go:220", after := #[], guard := none } : Oper)) (v := ?_) rfl (by kernel_rfl) (by kernel_rfl) (by kernel_rfl) (fun _ _ _ h => h) (Or.inl ⟨by rfl, ?_⟩) (by assumption) ?_
    rotate_left
    · intro w hSw; (try dsimp only at hSw); go_simp <;> with_reducible rfl
    (try simp only [Act.put, List.setIfInBounds_toArray, List.set_cons_zero, List.set_cons_succ])
    refine wpAnyH_take (i := 10) (oi := ({ dst := some 23, op := Op.load 3 (Operand.tmp 22), type := 3, pos := "ref.go:220", after := #[{ on := 9, ground := Ground.data }], guard := none } : Oper)) (v := ?_) rfl (by kernel_rfl) (by kernel_rfl) (by kernel_rfl) (fun _ _ _ h => h) (Or.inl ⟨by rfl, ?_⟩) (by assumption) ?_
    rotate_left
    · intro w hSw; (try dsimp only at hSw); go_simp <;> with_reducible rfl
    (try simp only [Act.put, List.setIfInBounds_toArray, List.set_cons_zero, List.set_cons_succ])
    refine wpAnyH_take (i := 11) (oi := ({ dst := some 24, op := Op.move (Operand.tmp 5), type := 3, pos := "ref.go:220", after := #[], guard := none } : Oper)) (v := ?_) rfl (by kernel_rfl) (by kernel_rfl) (by kernel_rfl) (fun _ _ _ h => h) (Or.inl ⟨by rfl, ?_⟩) (by assumption) ?_
    rotate_left
    · intro w hSw; (try dsimp only at hSw); go_simp <;> with_reducible rfl
    (try simp only [Act.put, List.setIfInBounds_toArray, List.set_cons_zero, List.set_cons_succ])
    refine wpAnyH_take (i := 12) (oi := ({ dst := some 25, op := Op.binOp BinOp.quo 3 (Operand.tmp 23) (Operand.tmp 24) 3, type := 3, pos := "ref.go:220", after := #[{ on := 10, ground := Ground.data }, { on := 11, ground := Ground.data }], guard := none } : Oper)) (v := ?_) rfl (by kernel_rfl) (by kernel_rfl) (by kernel_rfl) (fun _ _ _ h => h) (Or.inl ⟨by rfl, ?_⟩) (by assumption) ?_
    rotate_left
    · intro w hSw; (try dsimp only at hSw); go_simp <;> with_reducible rfl
    (try simp only [Act.put, List.setIfInBounds_toArray, List.set_cons_zero, List.set_cons_succ])
    refine wpAnyH_ready (rs := [6, 15]) (by kernel_rfl) (by simp) ?_
    refine (AllReadyH.cons (o := ({ dst := some 19, op := Op.call { callee := Callee.value (Operand.func 35), args := #[Operand.tmp 14, Operand.tmp 18], argTypes := #[3, 3] }, type := 48, pos := "ref.go:220", after := #[{ on := 1, ground := Ground.data }, { on := 5, ground := Ground.data }], guard := none } : Oper)) rfl (fun K hK => ?_) (AllReadyH.cons (o := ({ dst := some 6, op := Op.alloc 48, type := 0, pos := "ref.go:220", after := #[], guard := none } : Oper)) rfl (fun K hK => ?_) AllReadyH.nil))
    · skip
      go_simp
      rw [e1.out]
      go_at_call 35
      with_reducible refine (P1.out _).mono ?_
      rintro e y19 ⟨s1, p1, q1, k1, rfl, hz1r, hs1, hst⟩
      have hz1 := hid hz1r
      clear hz1r
      have hB := below_step hB hst
      clear hst hHeld
      first | (with_reducible refine hK.out _ _ ?_ (fun hHeld => ?_)) | (go_wp2_with fail; with_reducible refine hK.out _ _ ?_ (fun hHeld => ?_))
      · exact ⟨cell_below hB c0, cell_below hB c1, cell_below hB d0, cell_below hB d1⟩
      clear hK K
      (try simp only [Act.put, List.setIfInBounds_toArray, List.set_cons_zero, List.set_cons_succ])
      refine wpAnyH_ready (rs := [13, 15]) (by kernel_rfl) (by simp) ?_
      refine (AllReadyH.cons (o := ({ dst := some 26, op := Op.call { callee := Callee.value (Operand.func 35), args := #[Operand.tmp 21, Operand.tmp 25], argTypes := #[3, 3] }, type := 48, pos := "ref.go:220", after := #[{ on := 8, ground := Ground.data }, { on := 12, ground := Ground.data }, { on := 6, ground := Ground.chain }], guard := none } : Oper)) rfl (fun K hK => ?_) (AllReadyH.cons (o := ({ dst := some 6, op := Op.alloc 48, type := 0, pos := "ref.go:220", after := #[], guard := none } : Oper)) rfl (fun K hK => ?_) AllReadyH.nil))
      · skip
        go_simp
        rw [e2.out]
        go_at_call 35
        with_reducible refine (P2.out _).mono ?_
        rintro e y26 ⟨s2, p2, q2, k2, rfl, hz2r, hs2, hst⟩
        have hz1 := hid (hz1.out.below hst)
        have hz2 := hid hz2r
        clear hz2r
        have hB := below_step hB hst
        clear hst hHeld
        first | (with_reducible refine hK.out _ _ ?_ (fun hHeld => ?_)) | (go_wp2_with fail; with_reducible refine hK.out _ _ ?_ (fun hHeld => ?_))
        · exact ⟨cell_below hB c0, cell_below hB c1, cell_below hB d0, cell_below hB d1⟩
        clear hK K
        (try simp only [Act.put, List.setIfInBounds_toArray, List.set_cons_zero, List.set_cons_succ])
        refine wpAnyH_ready (rs := [14, 15]) (by kernel_rfl) (by simp) ?_
        refine (AllReadyH.cons (o := ({ dst := some 27, op := Op.call { callee := Callee.value (Operand.func 34), args := #[Operand.tmp 19, Operand.tmp 26], argTypes := #[48, 48] }, type := 48, pos := "ref.go:220", after := #[{ on := 6, ground := Ground.data }, { on := 13, ground := Ground.data }, { on := 13, ground := Ground.chain }], guard := none } : Oper)) rfl (fun K hK => ?_) (AllReadyH.cons (o := ({ dst := some 6, op := Op.alloc 48, type := 0, pos := "ref.go:220", after := #[], guard := none } : Oper)) rfl (fun K hK => ?_) AllReadyH.nil))
        · skip
          go_simp
          go_at_call 34
          with_reducible refine (sum_sl s1 s2 _ _ m1 m2 HP1.out HP2.out _ hz1.out hz2.out).mono ?_
          rintro e y27 ⟨bt, nt, pt, ct, rfl, hztr, hts, htl, hpz, hst⟩
          skip
          have hz1 := hid (hz1.out.below hst)
          have hz2 := hid (hz2.out.below hst)
          have hzt := hid hztr
          clear hztr
          have hB := below_step hB hst
          clear hst hHeld
          first | (with_reducible refine hK.out _ _ ?_ (fun hHeld => ?_)) | (go_wp2_with fail; with_reducible refine hK.out _ _ ?_ (fun hHeld => ?_))
          · exact ⟨cell_below hB c0, cell_below hB c1, cell_below hB d0, cell_below hB d1⟩
          clear hK K
          (try simp only [Act.put, List.setIfInBounds_toArray, List.set_cons_zero, List.set_cons_succ])
          refine wpAnyH_ready (rs := [15]) (by kernel_rfl) (by simp) ?_
          refine (AllReadyH.cons (o := ({ dst := some 6, op := Op.alloc 48, type := 0, pos := "ref.go:220", after := #[], guard := none } : Oper)) rfl (fun K hK => ?_) AllReadyH.nil)
          go_simp
          obtain ⟨Wa6, hWa⟩ : ∃ Wa, (y27).alloc (.cells #[.bool false, .slice none 0 0] 48) = Wa := ⟨_, rfl⟩
          obtain ⟨nf, hnf⟩ : ∃ nf, (y27).heap.size = nf := ⟨_, rfl⟩
          have hst : Below (y27).heap.size (y27) Wa6 := by rw [← hWa]; exact below_a0 _ _
          have hbx6 := hid (show Box2 Wa6 nf (.bool false) (.slice none 0 0) by rw [← hWa, ← hnf]; exact box2_new _ _ _ _)
          have hle_nf : w0.heap.size ≤ nf := by rw [← hnf]; exact hB.size
          try rw [hnf]
          rw [hWa]
          have hoff := hid (fun (h0 : (bitsN nt).length ≠ 0) => hnf ▸ off_lt hzt.out h0)
          have hz1 := hid (hz1.out.below hst)
          have hz2 := hid (hz2.out.below hst)
          have hzt := hid (hzt.out.below hst)
          have hB := below_step hB hst
          clear hst hWa hnf hHeld
          first | (with_reducible refine hK.out _ _ ?_ (fun hHeld => ?_)) | (go_wp2_with fail; with_reducible refine hK.out _ _ ?_ (fun hHeld => ?_))
          · exact ⟨cell_below hB c0, cell_below hB c1, cell_below hB d0, cell_below hB d1⟩
          clear hK K
          (try simp only [Act.put, List.setIfInBounds_toArray, List.set_cons_zero, List.set_cons_succ])
          refine wpAnyH_ready (rs := [16]) (by kernel_rfl) (by simp) ?_
          refine (AllReadyH.cons (o := ({ dst := none, op := Op.store 48 (Operand.tmp 6) (Operand.tmp 27), type := 0, pos := "ref.go:220", after := #[{ on := 15, ground := Ground.data }, { on := 14, ground := Ground.data }, { on := 14, ground := Ground.chain }, { on := 0, ground := Ground.phase }, { on := 1, ground := Ground.phase }, { on := 2, ground := Ground.phase }, { on := 3, ground := Ground.phase }, { on := 4, ground := Ground.phase }, { on := 5, ground := Ground.phase }, { on := 6, ground := Ground.phase }, { on := 7, ground := Ground.phase }, { on := 8, ground := Ground.phase }, { on := 9, ground := Ground.phase }, { on := 10, ground := Ground.phase }, { on := 11, ground := Ground.phase }, { on := 12, ground := Ground.phase }, { on := 13, ground := Ground.phase }, { on := 14, ground := Ground.phase }, { on := 15, ground := Ground.phase }], guard := none } : Oper)) rfl (fun K hK => ?_) AllReadyH.nil)
          go_simp
          obtain ⟨g0, g1, f0, f1, g4⟩ := hbx6.out
          have ES := hid (show ((Wa6.setCell ⟨nf, 0, none⟩ (.bool bt)).setCell ⟨nf, 1, none⟩ (.slice pt (bitsN nt).length ct)).cell? ⟨w.heap.size, 0, none⟩ = some (.int .i64 aN) ∧ ((Wa6.setCell ⟨nf, 0, none⟩ (.bool bt)).setCell ⟨nf, 1, none⟩ (.slice pt (bitsN nt).length ct)).cell? ⟨w.heap.size, 1, none⟩ = some (.int .i64 (da : Int)) ∧ ((Wa6.setCell ⟨nf, 0, none⟩ (.bool bt)).setCell ⟨nf, 1, none⟩ (.slice pt (bitsN nt).length ct)).cell? ⟨w.heap.size + 1, 0, none⟩ = some (.int .i64 bN) ∧ ((Wa6.setCell ⟨nf, 0, none⟩ (.bool bt)).setCell ⟨nf, 1, none⟩ (.slice pt (bitsN nt).length ct)).cell? ⟨w.heap.size + 1, 1, none⟩ = some (.int .i64 (db : Int)) from ⟨far2 _ nf _ _ _ _ (by omega) (cell_below hB c0), far2 _ nf _ _ _ _ (by omega) (cell_below hB c1), far2 _ nf _ _ _ _ (by omega) (cell_below hB d0), far2 _ nf _ _ _ _ (by omega) (cell_below hB d1)⟩)
          have FIN := hid (show BitsAt ((Wa6.setCell ⟨nf, 0, none⟩ (.bool bt)).setCell ⟨nf, 1, none⟩ (.slice pt (bitsN nt).length ct)) (.slice pt (bitsN nt).length ct) (bitsN nt) ∧ Box2 ((Wa6.setCell ⟨nf, 0, none⟩ (.bool bt)).setCell ⟨nf, 1, none⟩ (.slice pt (bitsN nt).length ct)) nf (.bool bt) (.slice pt (bitsN nt).length ct) ∧ sv bt nt = sv_sum aN bN da db g ∧ nt < 2 ^ 127 ∧ Below w0.heap.size w0 ((Wa6.setCell ⟨nf, 0, none⟩ (.bool bt)).setCell ⟨nf, 1, none⟩ (.slice pt (bitsN nt).length ct)) ∧ w0.heap.size ≤ nf from ⟨(hzt.out.setOff hoff.out 0 _).setOff hoff.out 1 _, box2_set hbx6.out _ _, by rw [hts, hs1, hs2]; rfl, by have := HPB.out; omega, (hB.setCell (p := ⟨nf, 0, none⟩) hle_nf _).setCell (p := ⟨nf, 1, none⟩) hle_nf _, hle_nf⟩)
          go_simp
          clear hHeld
          first | (with_reducible refine hK.out _ _ ?_ (fun hHeld => ?_)) | (go_wp2_with fail; with_reducible refine hK.out _ _ ?_ (fun hHeld => ?_))
          · exact ES.out
          clear hK K
          (try simp only [Act.put, List.setIfInBounds_toArray, List.set_cons_zero, List.set_cons_succ])
          refine wpAnyH_done (by kernel_rfl) ?_ _
          clear hHeld
          go_wp2_with fail
          go_meet
          exact ⟨nf, bt, nt, pt, ct, rfl, FIN⟩
        · skip
          go_simp
          obtain ⟨Wa6, hWa⟩ : ∃ Wa, (y26).alloc (.cells #[.bool false, .slice none 0 0] 48) = Wa := ⟨_, rfl⟩
          obtain ⟨nf, hnf⟩ : ∃ nf, (y26).heap.size = nf := ⟨_, rfl⟩
          have hst : Below (y26).heap.size (y26) Wa6 := by rw [← hWa]; exact below_a0 _ _
          have hbx6 := hid (show Box2 Wa6 nf (.bool false) (.slice none 0 0) by rw [← hWa, ← hnf]; exact box2_new _ _ _ _)
          have hle_nf : w0.heap.size ≤ nf := by rw [← hnf]; exact hB.size
          try rw [hnf]
          rw [hWa]
          skip
          have hz1 := hid (hz1.out.below hst)
          have hz2 := hid (hz2.out.below hst)
          have hB := below_step hB hst
          clear hst hWa hnf hHeld
          first | (with_reducible refine hK.out _ _ ?_ (fun hHeld => ?_)) | (go_wp2_with fail; with_reducible refine hK.out _ _ ?_ (fun hHeld => ?_))
          · exact ⟨cell_below hB c0, cell_below hB c1, cell_below hB d0, cell_below hB d1⟩
          clear hK K
          (try simp only [Act.put, List.setIfInBounds_toArray, List.set_cons_zero, List.set_cons_succ])
          refine wpAnyH_ready (rs := [14]) (by kernel_rfl) (by simp) ?_
          refine (AllReadyH.cons (o := ({ dst := some 27, op := Op.call { callee := Callee.value (Operand.func 34), args := #[Operand.tmp 19, Operand.tmp 26], argTypes := #[48, 48] }, type := 48, pos := "ref.go:220", after := #[{ on := 6, ground := Ground.data }, { on := 13, ground := Ground.data }, { on := 13, ground := Ground.chain }], guard := none } : Oper)) rfl (fun K hK => ?_) AllReadyH.nil)
          go_simp
          go_at_call 34
          with_reducible refine (sum_sl s1 s2 _ _ m1 m2 HP1.out HP2.out _ hz1.out hz2.out).mono ?_
          rintro e y27 ⟨bt, nt, pt, ct, rfl, hztr, hts, htl, hpz, hst⟩
          have hoff := hid (fun (h0 : (bitsN nt).length ≠ 0) => off_past hpz hbx6.out.2.2.2.2)
          have hz1 := hid (hz1.out.below hst)
          have hz2 := hid (hz2.out.below hst)
          have hbx6 := hid (hbx6.out.below hst)
          have hzt := hid hztr
          clear hztr
          have hB := below_step hB hst
          clear hst hHeld
          first | (with_reducible refine hK.out _ _ ?_ (fun hHeld => ?_)) | (go_wp2_with fail; with_reducible refine hK.out _ _ ?_ (fun hHeld => ?_))
          · exact ⟨cell_below hB c0, cell_below hB c1, cell_below hB d0, cell_below hB d1⟩
          clear hK K
          (try simp only [Act.put, List.setIfInBounds_toArray, List.set_cons_zero, List.set_cons_succ])
          refine wpAnyH_ready (rs := [16]) (by kernel_rfl) (by simp) ?_
          refine (AllReadyH.cons (o := ({ dst := none, op := Op.store 48 (Operand.tmp 6) (Operand.tmp 27), type := 0, pos := "ref.go:220", after := #[{ on := 15, ground := Ground.data }, { on := 14, ground := Ground.data }, { on := 14, ground := Ground.chain }, { on := 0, ground := Ground.phase }, { on := 1, ground := Ground.phase }, { on := 2, ground := Ground.phase }, { on := 3, ground := Ground.phase }, { on := 4, ground := Ground.phase }, { on := 5, ground := Ground.phase }, { on := 6, ground := Ground.phase }, { on := 7, ground := Ground.phase }, { on := 8, ground := Ground.phase }, { on := 9, ground := Ground.phase }, { on := 10, ground := Ground.phase }, { on := 11, ground := Ground.phase }, { on := 12, ground := Ground.phase }, { on := 13, ground := Ground.phase }, { on := 14, ground := Ground.phase }, { on := 15, ground := Ground.phase }], guard := none } : Oper)) rfl (fun K hK => ?_) AllReadyH.nil)
          go_simp
          obtain ⟨g0, g1, f0, f1, g4⟩ := hbx6.out
          have ES := hid (show ((y27.setCell ⟨nf, 0, none⟩ (.bool bt)).setCell ⟨nf, 1, none⟩ (.slice pt (bitsN nt).length ct)).cell? ⟨w.heap.size, 0, none⟩ = some (.int .i64 aN) ∧ ((y27.setCell ⟨nf, 0, none⟩ (.bool bt)).setCell ⟨nf, 1, none⟩ (.slice pt (bitsN nt).length ct)).cell? ⟨w.heap.size, 1, none⟩ = some (.int .i64 (da : Int)) ∧ ((y27.setCell ⟨nf, 0, none⟩ (.bool bt)).setCell ⟨nf, 1, none⟩ (.slice pt (bitsN nt).length ct)).cell? ⟨w.heap.size + 1, 0, none⟩ = some (.int .i64 bN) ∧ ((y27.setCell ⟨nf, 0, none⟩ (.bool bt)).setCell ⟨nf, 1, none⟩ (.slice pt (bitsN nt).length ct)).cell? ⟨w.heap.size + 1, 1, none⟩ = some (.int .i64 (db : Int)) from ⟨far2 _ nf _ _ _ _ (by omega) (cell_below hB c0), far2 _ nf _ _ _ _ (by omega) (cell_below hB c1), far2 _ nf _ _ _ _ (by omega) (cell_below hB d0), far2 _ nf _ _ _ _ (by omega) (cell_below hB d1)⟩)
          have FIN := hid (show BitsAt ((y27.setCell ⟨nf, 0, none⟩ (.bool bt)).setCell ⟨nf, 1, none⟩ (.slice pt (bitsN nt).length ct)) (.slice pt (bitsN nt).length ct) (bitsN nt) ∧ Box2 ((y27.setCell ⟨nf, 0, none⟩ (.bool bt)).setCell ⟨nf, 1, none⟩ (.slice pt (bitsN nt).length ct)) nf (.bool bt) (.slice pt (bitsN nt).length ct) ∧ sv bt nt = sv_sum aN bN da db g ∧ nt < 2 ^ 127 ∧ Below w0.heap.size w0 ((y27.setCell ⟨nf, 0, none⟩ (.bool bt)).setCell ⟨nf, 1, none⟩ (.slice pt (bitsN nt).length ct)) ∧ w0.heap.size ≤ nf from ⟨(hzt.out.setOff hoff.out 0 _).setOff hoff.out 1 _, box2_set hbx6.out _ _, by rw [hts, hs1, hs2]; rfl, by have := HPB.out; omega, (hB.setCell (p := ⟨nf, 0, none⟩) hle_nf _).setCell (p := ⟨nf, 1, none⟩) hle_nf _, hle_nf⟩)
          go_simp
          clear hHeld
          first | (with_reducible refine hK.out _ _ ?_ (fun hHeld => ?_)) | (go_wp2_with fail; with_reducible refine hK.out _ _ ?_ (fun hHeld => ?_))
          · exact ES.out
          clear hK K
          (try simp only [Act.put, List.setIfInBounds_toArray, List.set_cons_zero, List.set_cons_succ])
          refine wpAnyH_done (by kernel_rfl) ?_ _
          clear hHeld
          go_wp2_with fail
          go_meet
          exact ⟨nf, bt, nt, pt, ct, rfl, FIN⟩
      · skip
        go_simp
        obtain ⟨Wa6, hWa⟩ : ∃ Wa, (y19).alloc (.cells #[.bool false, .slice none 0 0] 48) = Wa := ⟨_, rfl⟩
        obtain ⟨nf, hnf⟩ : ∃ nf, (y19).heap.size = nf := ⟨_, rfl⟩
        have hst : Below (y19).heap.size (y19) Wa6 := by rw [← hWa]; exact below_a0 _ _
        have hbx6 := hid (show Box2 Wa6 nf (.bool false) (.slice none 0 0) by rw [← hWa, ← hnf]; exact box2_new _ _ _ _)
        have hle_nf : w0.heap.size ≤ nf := by rw [← hnf]; exact hB.size
        try rw [hnf]
        rw [hWa]
        skip
        have hz1 := hid (hz1.out.below hst)
        have hB := below_step hB hst
        clear hst hWa hnf hHeld
        first | (with_reducible refine hK.out _ _ ?_ (fun hHeld => ?_)) | (go_wp2_with fail; with_reducible refine hK.out _ _ ?_ (fun hHeld => ?_))
        · exact ⟨cell_below hB c0, cell_below hB c1, cell_below hB d0, cell_below hB d1⟩
        clear hK K
        (try simp only [Act.put, List.setIfInBounds_toArray, List.set_cons_zero, List.set_cons_succ])
        refine wpAnyH_ready (rs := [13]) (by kernel_rfl) (by simp) ?_
        refine (AllReadyH.cons (o := ({ dst := some 26, op := Op.call { callee := Callee.value (Operand.func 35), args := #[Operand.tmp 21, Operand.tmp 25], argTypes := #[3, 3] }, type := 48, pos := "ref.go:220", after := #[{ on := 8, ground := Ground.data }, { on := 12, ground := Ground.data }, { on := 6, ground := Ground.chain }], guard := none } : Oper)) rfl (fun K hK => ?_) AllReadyH.nil)
        go_simp
        rw [e2.out]
        go_at_call 35
        with_reducible refine (P2.out _).mono ?_
        rintro e y26 ⟨s2, p2, q2, k2, rfl, hz2r, hs2, hst⟩
        have hz1 := hid (hz1.out.below hst)
        have hbx6 := hid (hbx6.out.below hst)
        have hz2 := hid hz2r
        clear hz2r
        have hB := below_step hB hst
        clear hst hHeld
        first | (with_reducible refine hK.out _ _ ?_ (fun hHeld => ?_)) | (go_wp2_with fail; with_reducible refine hK.out _ _ ?_ (fun hHeld => ?_))
        · exact ⟨cell_below hB c0, cell_below hB c1, cell_below hB d0, cell_below hB d1⟩
        clear hK K
        (try simp only [Act.put, List.setIfInBounds_toArray, List.set_cons_zero, List.set_cons_succ])
        refine wpAnyH_ready (rs := [14]) (by kernel_rfl) (by simp) ?_
        refine (AllReadyH.cons (o := ({ dst := some 27, op := Op.call { callee := Callee.value (Operand.func 34), args := #[Operand.tmp 19, Operand.tmp 26], argTypes := #[48, 48] }, type := 48, pos := "ref.go:220", after := #[{ on := 6, ground := Ground.data }, { on := 13, ground := Ground.data }, { on := 13, ground := Ground.chain }], guard := none } : Oper)) rfl (fun K hK => ?_) AllReadyH.nil)
        go_simp
        go_at_call 34
        with_reducible refine (sum_sl s1 s2 _ _ m1 m2 HP1.out HP2.out _ hz1.out hz2.out).mono ?_
        rintro e y27 ⟨bt, nt, pt, ct, rfl, hztr, hts, htl, hpz, hst⟩
        have hoff := hid (fun (h0 : (bitsN nt).length ≠ 0) => off_past hpz hbx6.out.2.2.2.2)
        have hz1 := hid (hz1.out.below hst)
        have hbx6 := hid (hbx6.out.below hst)
        have hz2 := hid (hz2.out.below hst)
        have hzt := hid hztr
        clear hztr
        have hB := below_step hB hst
        clear hst hHeld
        first | (with_reducible refine hK.out _ _ ?_ (fun hHeld => ?_)) | (go_wp2_with fail; with_reducible refine hK.out _ _ ?_ (fun hHeld => ?_))
        · exact ⟨cell_below hB c0, cell_below hB c1, cell_below hB d0, cell_below hB d1⟩
        clear hK K
        (try simp only [Act.put, List.setIfInBounds_toArray, List.set_cons_zero, List.set_cons_succ])
        refine wpAnyH_ready (rs := [16]) (by kernel_rfl) (by simp) ?_
        refine (AllReadyH.cons (o := ({ dst := none, op := Op.store 48 (Operand.tmp 6) (Operand.tmp 27), type := 0, pos := "ref.go:220", after := #[{ on := 15, ground := Ground.data }, { on := 14, ground := Ground.data }, { on := 14, ground := Ground.chain }, { on := 0, ground := Ground.phase }, { on := 1, ground := Ground.phase }, { on := 2, ground := Ground.phase }, { on := 3, ground := Ground.phase }, { on := 4, ground := Ground.phase }, { on := 5, ground := Ground.phase }, { on := 6, ground := Ground.phase }, { on := 7, ground := Ground.phase }, { on := 8, ground := Ground.phase }, { on := 9, ground := Ground.phase }, { on := 10, ground := Ground.phase }, { on := 11, ground := Ground.phase }, { on := 12, ground := Ground.phase }, { on := 13, ground := Ground.phase }, { on := 14, ground := Ground.phase }, { on := 15, ground := Ground.phase }], guard := none } : Oper)) rfl (fun K hK => ?_) AllReadyH.nil)
        go_simp
        obtain ⟨g0, g1, f0, f1, g4⟩ := hbx6.out
        have ES := hid (show ((y27.setCell ⟨nf, 0, none⟩ (.bool bt)).setCell ⟨nf, 1, none⟩ (.slice pt (bitsN nt).length ct)).cell? ⟨w.heap.size, 0, none⟩ = some (.int .i64 aN) ∧ ((y27.setCell ⟨nf, 0, none⟩ (.bool bt)).setCell ⟨nf, 1, none⟩ (.slice pt (bitsN nt).length ct)).cell? ⟨w.heap.size, 1, none⟩ = some (.int .i64 (da : Int)) ∧ ((y27.setCell ⟨nf, 0, none⟩ (.bool bt)).setCell ⟨nf, 1, none⟩ (.slice pt (bitsN nt).length ct)).cell? ⟨w.heap.size + 1, 0, none⟩ = some (.int .i64 bN) ∧ ((y27.setCell ⟨nf, 0, none⟩ (.bool bt)).setCell ⟨nf, 1, none⟩ (.slice pt (bitsN nt).length ct)).cell? ⟨w.heap.size + 1, 1, none⟩ = some (.int .i64 (db : Int)) from ⟨far2 _ nf _ _ _ _ (by omega) (cell_below hB c0), far2 _ nf _ _ _ _ (by omega) (cell_below hB c1), far2 _ nf _ _ _ _ (by omega) (cell_below hB d0), far2 _ nf _ _ _ _ (by omega) (cell_below hB d1)⟩)
        have FIN := hid (show BitsAt ((y27.setCell ⟨nf, 0, none⟩ (.bool bt)).setCell ⟨nf, 1, none⟩ (.slice pt (bitsN nt).length ct)) (.slice pt (bitsN nt).length ct) (bitsN nt) ∧ Box2 ((y27.setCell ⟨nf, 0, none⟩ (.bool bt)).setCell ⟨nf, 1, none⟩ (.slice pt (bitsN nt).length ct)) nf (.bool bt) (.slice pt (bitsN nt).length ct) ∧ sv bt nt = sv_sum aN bN da db g ∧ nt < 2 ^ 127 ∧ Below w0.heap.size w0 ((y27.setCell ⟨nf, 0, none⟩ (.bool bt)).setCell ⟨nf, 1, none⟩ (.slice pt (bitsN nt).length ct)) ∧ w0.heap.size ≤ nf from ⟨(hzt.out.setOff hoff.out 0 _).setOff hoff.out 1 _, box2_set hbx6.out _ _, by rw [hts, hs1, hs2]; rfl, by have := HPB.out; omega, (hB.setCell (p := ⟨nf, 0, none⟩) hle_nf _).setCell (p := ⟨nf, 1, none⟩) hle_nf _, hle_nf⟩)
        go_simp
        clear hHeld
        first | (with_reducible refine hK.out _ _ ?_ (fun hHeld => ?_)) | (go_wp2_with fail; with_reducible refine hK.out _ _ ?_ (fun hHeld => ?_))
        · exact ES.out
        clear hK K
        (try simp only [Act.put, List.setIfInBounds_toArray, List.set_cons_zero, List.set_cons_succ])
        refine wpAnyH_done (by kernel_rfl) ?_ _
        clear hHeld
        go_wp2_with fail
        go_meet
        exact ⟨nf, bt, nt, pt, ct, rfl, FIN⟩
    · skip
      go_simp
      obtain ⟨Wa6, hWa⟩ : ∃ Wa, (wD).alloc (.cells #[.bool false, .slice none 0 0] 48) = Wa := ⟨_, rfl⟩
      obtain ⟨nf, hnf⟩ : ∃ nf, (wD).heap.size = nf := ⟨_, rfl⟩
      have hst : Below (wD).heap.size (wD) Wa6 := by rw [← hWa]; exact below_a0 _ _
      have hbx6 := hid (show Box2 Wa6 nf (.bool false) (.slice none 0 0) by rw [← hWa, ← hnf]; exact box2_new _ _ _ _)
      have hle_nf : w0.heap.size ≤ nf := by rw [← hnf]; exact hB.size
      try rw [hnf]
      rw [hWa]
      skip
      have hB := below_step hB hst
      clear hst hWa hnf hHeld
      first | (with_reducible refine hK.out _ _ ?_ (fun hHeld => ?_)) | (go_wp2_with fail; with_reducible refine hK.out _ _ ?_ (fun hHeld => ?_))
      · exact ⟨cell_below hB c0, cell_below hB c1, cell_below hB d0, cell_below hB d1⟩
      clear hK K
      (try simp only [Act.put, List.setIfInBounds_toArray, List.set_cons_zero, List.set_cons_succ])
      refine wpAnyH_ready (rs := [6]) (by kernel_rfl) (by simp) ?_
      refine (AllReadyH.cons (o := ({ dst := some 19, op := Op.call { callee := Callee.value (Operand.func 35), args := #[Operand.tmp 14, Operand.tmp 18], argTypes := #[3, 3] }, type := 48, pos := "ref.go:220", after := #[{ on := 1, ground := Ground.data }, { on := 5, ground := Ground.data }], guard := none } : Oper)) rfl (fun K hK => ?_) AllReadyH.nil)
      go_simp
      rw [e1.out]
      go_at_call 35
      with_reducible refine (P1.out _).mono ?_
      rintro e y19 ⟨s1, p1, q1, k1, rfl, hz1r, hs1, hst⟩
      have hbx6 := hid (hbx6.out.below hst)
      have hz1 := hid hz1r
      clear hz1r
      have hB := below_step hB hst
      clear hst hHeld
      first | (with_reducible refine hK.out _ _ ?_ (fun hHeld => ?_)) | (go_wp2_with fail; with_reducible refine hK.out _ _ ?_ (fun hHeld => ?_))
      · exact ⟨cell_below hB c0, cell_below hB c1, cell_below hB d0, cell_below hB d1⟩
      clear hK K
      (try simp only [Act.put, List.setIfInBounds_toArray, List.set_cons_zero, List.set_cons_succ])
      refine wpAnyH_ready (rs := [13]) (by kernel_rfl) (by simp) ?_
      refine (AllReadyH.cons (o := ({ dst := some 26, op := Op.call { callee := Callee.value (Operand.func 35), args := #[Operand.tmp 21, Operand.tmp 25], argTypes := #[3, 3] }, type := 48, pos := "ref.go:220", after := #[{ on := 8, ground := Ground.data }, { on := 12, ground := Ground.data }, { on := 6, ground := Ground.chain }], guard := none } : Oper)) rfl (fun K hK => ?_) AllReadyH.nil)
      go_simp
      rw [e2.out]
      go_at_call 35
      with_reducible refine (P2.out _).mono ?_
      rintro e y26 ⟨s2, p2, q2, k2, rfl, hz2r, hs2, hst⟩
      have hbx6 := hid (hbx6.out.below hst)
      have hz1 := hid (hz1.out.below hst)
      have hz2 := hid hz2r
      clear hz2r
      have hB := below_step hB hst
      clear hst hHeld
      first | (with_reducible refine hK.out _ _ ?_ (fun hHeld => ?_)) | (go_wp2_with fail; with_reducible refine hK.out _ _ ?_ (fun hHeld => ?_))
      · exact ⟨cell_below hB c0, cell_below hB c1, cell_below hB d0, cell_below hB d1⟩
      clear hK K
      (try simp only [Act.put, List.setIfInBounds_toArray, List.set_cons_zero, List.set_cons_succ])
      refine wpAnyH_ready (rs := [14]) (by kernel_rfl) (by simp) ?_
      refine (AllReadyH.cons (o := ({ dst := some 27, op := Op.call { callee := Callee.value (Operand.func 34), args := #[Operand.tmp 19, Operand.tmp 26], argTypes := #[48, 48] }, type := 48, pos := "ref.go:220", after := #[{ on := 6, ground := Ground.data }, { on := 13, ground := Ground.data }, { on := 13, ground := Ground.chain }], guard := none } : Oper)) rfl (fun K hK => ?_) AllReadyH.nil)
      go_simp
      go_at_call 34
      with_reducible refine (sum_sl s1 s2 _ _ m1 m2 HP1.out HP2.out _ hz1.out hz2.out).mono ?_
      rintro e y27 ⟨bt, nt, pt, ct, rfl, hztr, hts, htl, hpz, hst⟩
      have hoff := hid (fun (h0 : (bitsN nt).length ≠ 0) => off_past hpz hbx6.out.2.2.2.2)
      have hbx6 := hid (hbx6.out.below hst)
      have hz1 := hid (hz1.out.below hst)
      have hz2 := hid (hz2.out.below hst)
      have hzt := hid hztr
      clear hztr
      have hB := below_step hB hst
      clear hst hHeld
      first | (with_reducible refine hK.out _ _ ?_ (fun hHeld => ?_)) | (go_wp2_with fail; with_reducible refine hK.out _ _ ?_ (fun hHeld => ?_))
      · exact ⟨cell_below hB c0, cell_below hB c1, cell_below hB d0, cell_below hB d1⟩
      clear hK K
      (try simp only [Act.put, List.setIfInBounds_toArray, List.set_cons_zero, List.set_cons_succ])
      refine wpAnyH_ready (rs := [16]) (by kernel_rfl) (by simp) ?_
      refine (AllReadyH.cons (o := ({ dst := none, op := Op.store 48 (Operand.tmp 6) (Operand.tmp 27), type := 0, pos := "ref.go:220", after := #[{ on := 15, ground := Ground.data }, { on := 14, ground := Ground.data }, { on := 14, ground := Ground.chain }, { on := 0, ground := Ground.phase }, { on := 1, ground := Ground.phase }, { on := 2, ground := Ground.phase }, { on := 3, ground := Ground.phase }, { on := 4, ground := Ground.phase }, { on := 5, ground := Ground.phase }, { on := 6, ground := Ground.phase }, { on := 7, ground := Ground.phase }, { on := 8, ground := Ground.phase }, { on := 9, ground := Ground.phase }, { on := 10, ground := Ground.phase }, { on := 11, ground := Ground.phase }, { on := 12, ground := Ground.phase }, { on := 13, ground := Ground.phase }, { on := 14, ground := Ground.phase }, { on := 15, ground := Ground.phase }], guard := none } : Oper)) rfl (fun K hK => ?_) AllReadyH.nil)
      go_simp
      obtain ⟨g0, g1, f0, f1, g4⟩ := hbx6.out
      have ES := hid (show ((y27.setCell ⟨nf, 0, none⟩ (.bool bt)).setCell ⟨nf, 1, none⟩ (.slice pt (bitsN nt).length ct)).cell? ⟨w.heap.size, 0, none⟩ = some (.int .i64 aN) ∧ ((y27.setCell ⟨nf, 0, none⟩ (.bool bt)).setCell ⟨nf, 1, none⟩ (.slice pt (bitsN nt).length ct)).cell? ⟨w.heap.size, 1, none⟩ = some (.int .i64 (da : Int)) ∧ ((y27.setCell ⟨nf, 0, none⟩ (.bool bt)).setCell ⟨nf, 1, none⟩ (.slice pt (bitsN nt).length ct)).cell? ⟨w.heap.size + 1, 0, none⟩ = some (.int .i64 bN) ∧ ((y27.setCell ⟨nf, 0, none⟩ (.bool bt)).setCell ⟨nf, 1, none⟩ (.slice pt (bitsN nt).length ct)).cell? ⟨w.heap.size + 1, 1, none⟩ = some (.int .i64 (db : Int)) from ⟨far2 _ nf _ _ _ _ (by omega) (cell_below hB c0), far2 _ nf _ _ _ _ (by omega) (cell_below hB c1), far2 _ nf _ _ _ _ (by omega) (cell_below hB d0), far2 _ nf _ _ _ _ (by omega) (cell_below hB d1)⟩)
      have FIN := hid (show BitsAt ((y27.setCell ⟨nf, 0, none⟩ (.bool bt)).setCell ⟨nf, 1, none⟩ (.slice pt (bitsN nt).length ct)) (.slice pt (bitsN nt).length ct) (bitsN nt) ∧ Box2 ((y27.setCell ⟨nf, 0, none⟩ (.bool bt)).setCell ⟨nf, 1, none⟩ (.slice pt (bitsN nt).length ct)) nf (.bool bt) (.slice pt (bitsN nt).length ct) ∧ sv bt nt = sv_sum aN bN da db g ∧ nt < 2 ^ 127 ∧ Below w0.heap.size w0 ((y27.setCell ⟨nf, 0, none⟩ (.bool bt)).setCell ⟨nf, 1, none⟩ (.slice pt (bitsN nt).length ct)) ∧ w0.heap.size ≤ nf from ⟨(hzt.out.setOff hoff.out 0 _).setOff hoff.out 1 _, box2_set hbx6.out _ _, by rw [hts, hs1, hs2]; rfl, by have := HPB.out; omega, (hB.setCell (p := ⟨nf, 0, none⟩) hle_nf _).setCell (p := ⟨nf, 1, none⟩) hle_nf _, hle_nf⟩)
      go_simp
      clear hHeld
      first | (with_reducible refine hK.out _ _ ?_ (fun hHeld => ?_)) | (go_wp2_with fail; with_reducible refine hK.out _ _ ?_ (fun hHeld => ?_))
      · exact ES.out
      clear hK K
      (try simp only [Act.put, List.setIfInBounds_toArray, List.set_cons_zero, List.set_cons_succ])
      refine wpAnyH_done (by kernel_rfl) ?_ _
      clear hHeld
      go_wp2_with fail
      go_meet
      exact ⟨nf, bt, nt, pt, ct, rfl, FIN⟩
  case rest =>
    obtain ⟨nf, bt, nt, pt, ct, rfl, HF⟩ := hcut
    have HT := hid HF.out.1
    have HBX := hid HF.out.2.1
    have hsum := HF.out.2.2.1
    have hn127 := HF.out.2.2.2.1
    have HB := hid HF.out.2.2.2.2.1
    have hnf0 := HF.out.2.2.2.2.2
    have RB := hid (R0.out.below HB.out)
    obtain ⟨k0, k1, -, -, -⟩ := HBX.out
    have hn400 : nt < 2 ^ 250 := Nat.lt_trans hn127 (Nat.pow_lt_pow_right (by omega) (by omega))
    obtain ⟨h, hh⟩ : ∃ h, Nat.gcd (nt % g) g = h := ⟨_, rfl⟩
    obtain ⟨-, hh0, hhg, M0, M1⟩ := AM.out g HG.out bt nt hsum h hh.symm
    have HB0 := hid (below_step B0.out HB.out)
    by_cases h0 : nt = 0
    · have hr := M0 h0
      obtain ⟨q1, q2, q3⟩ := zero_res hr
      have HR := hid (show fr3 (Rat.divInt aN da + Rat.divInt bN db) = .agg #[.int .i64 0, .int .i64 1, .int .i64 0] by unfold fr3; rw [q1, q2, q3])
      have t1 : (((bitsN nt).length : Int) == 0) = true := by rw [h0, bitsN_zero]; rfl
      obtain ⟨⟨r0, r1, r2⟩, ⟨f0, f1, f2⟩, -⟩ := RB.out
      clear M0 M1 hr q1 q2 q3 h0 hh c0 c1 d0 d1
      go_wp2_with fail
      exact bodyPost_ret (v := .agg #[.int .i64 0, .int .i64 1, .int .i64 0]) (by simp [results, Tryz.results11, go_sem, r0, r1, r2]) rfl ⟨by rw [HR.out], ((HB0.out.setCell (p := ⟨w.heap.size + 2, 0, none⟩) (by show w.heap.size ≤ w.heap.size + 2; omega) _).setCell (p := ⟨w.heap.size + 2, 1, none⟩) (by show w.heap.size ≤ w.heap.size + 2; omega) _).setCell (p := ⟨w.heap.size + 2, 2, none⟩) (by show w.heap.size ≤ w.heap.size + 2; omega) _⟩
    · have HR := hid (M1 h0)
      have t1 : (((bitsN nt).length : Int) == 0) = false := by
        rw [beq_eq_false_iff_ne]
        intro e
        exact h0 (bitsN_nil.1 (List.eq_nil_of_length_eq_zero (by omega)))
      have D1 := hid (fun (W : World) (hW : BitsAt W (.slice pt (bitsN nt).length ct) (bitsN nt)) => divide_bits _ nt g hn400 (by omega) (by omega) W hW)
      have D2 := hid (fun (W : World) (hW : BitsAt W (.slice pt (bitsN nt).length ct) (bitsN nt)) => divide_bits _ nt h hn400 (by omega) (by omega) W hW)
      have G2 := hid (fun w => rgcd_any (nt % g) g (by have := Nat.mod_lt nt hg0; omega) (by omega) w)
      rw [hh] at G2
      have hq400 : nt / h < 2 ^ 250 := Nat.lt_of_le_of_lt (Nat.div_le_self _ _) hn400
      have hdh : db / h ≤ db := Nat.div_le_self _ _
      have hpd := prod_lt (show da / g ≤ 4611686018427387904 by omega) (show db / h ≤ 4611686018427387904 by omega)
      have hp200 := Nat.pow_lt_pow_right (show 1 < 2 by omega) (show 126 < 200 by omega)
      have hp400 := Nat.pow_lt_pow_right (show 1 < 2 by omega) (show 126 < 250 by omega)
      have h63 : (9223372036854775808 : Nat) < 2 ^ 200 := by decide +kernel
      have BA := hid (fun w => bits_sl (da / g) (by omega) w)
      have BB := hid (fun w => bits_sl (db / h) (by omega) w)
      have TM := hid (fun (x y : Value) (W : World) (hx : BitsAt W x (bitsN (da / g))) (hy : BitsAt W y (bitsN (db / h))) => times_sl x y _ _ (by omega) (by omega) W hx hy)
      obtain ⟨N, hN⟩ : ∃ N, numR (Rat.divInt aN da + Rat.divInt bN db) = N := ⟨_, rfl⟩
      obtain ⟨D, hD⟩ : ∃ D, denR (Rat.divInt aN da + Rat.divInt bN db) = D := ⟨_, rfl⟩
      obtain ⟨E, hE⟩ : ∃ E, errR (Rat.divInt aN da + Rat.divInt bN db) = E := ⟨_, rfl⟩
      have HFR := hid (show fr3 (Rat.divInt aN da + Rat.divInt bN db) = .agg #[.int .i64 N, .int .i64 D, .int .i64 E] by unfold fr3; rw [hN, hD, hE])
      have MD := hid (fun (x y : Value) (W : World) (hx : BitsAt W x (bitsN (nt / h))) (hy : BitsAt W y (bitsN ((da / g) * (db / h)))) => by
        have := made_bits bt x y _ _ hq400 (by omega) W hx hy
        rw [HR.out, hN, hD, hE] at this
        exact this)
      have e3 := hid (wrap_div db h (by omega))
      have x7 : ¬ h = 0 := by omega
      have x8 : ((h : Int) == 0) = false := by rw [beq_eq_false_iff_ne]; omega
      have x9 : ¬ (h : Int) = 0 := by omega
      have j1 := cell_below HB.out c1
      have j2 := cell_below HB.out d1
      clear M0 M1 h0 hh hN hD hE HR hq400 hdh hpd hp200 hp400 h63 c0 c1 d0 d1 hsum hn127 hn400
      go_wp2_with fail
      refine (D1.out _ HT.out).mono ?_
      rintro e w5 ⟨p5, q5, c5, rfl, -, hb5⟩
      have m0 := cell_below hb5 k0
      have m1' := cell_below hb5 k1
      have m2' := cell_below hb5 j1
      have m3 := cell_below hb5 j2
      have HT5 := hid (HT.out.below hb5)
      have RB5 := hid (RB.out.below hb5)
      have HB5 := hid (below_step HB0.out hb5)
      have hz5 : w.heap.size + 3 ≤ w5.heap.size := by have := hb5.size; have := HB.out.size; omega
      have hnf5 : nf < w5.heap.size ∧ w.heap.size + 3 ≤ nf := ⟨(HBX.out.below hb5).2.2.2.2, by omega⟩
      clear hb5 k0 k1 j1 j2
      go_wp2_with fail
      refine (G2.out _).mono ?_
      rintro e wq ⟨rfl, hwq⟩
      rw [hwq]
      clear hwq
      have hsd5 := (Below.refl w5.heap.size w5).drew
      go_upto_region 6 with fail
      refine wp_region_held_drew (S := fun W' => (W'.cell? ⟨nf, 0, none⟩ = some (.bool bt) ∧ W'.cell? ⟨nf, 1, none⟩ = some (.slice pt (bitsN nt).length ct) ∧ W'.cell? ⟨w.heap.size, 1, none⟩ = some (.int .i64 (da : Int)) ∧ W'.cell? ⟨w.heap.size + 1, 1, none⟩ = some (.int .i64 (db : Int)))) (by kernel_rfl) ?_ (fun hHeld => ?_)
      · exact ⟨m0, m1', m2', m3⟩
      have hB := hsd5
      obtain ⟨wD, hwD⟩ : ∃ wD, w5.drew = wD := ⟨_, rfl⟩
      rw [hwD] at hHeld hB ⊢
      clear hwD
      refine wpAnyH_take (i := 0) (oi := ({ dst := some 41, op := Op.fieldAddr 48 (Operand.tmp 6) 0, type := 0, pos := "ref.go:226", after := #[], guard := none } : Oper)) (v := ?_) rfl (by kernel_rfl) (by kernel_rfl) (by kernel_rfl) (fun _ _ _ h => h) (Or.inl ⟨by rfl, ?_⟩) (by assumption) ?_
      rotate_left
      · intro w hSw; (try dsimp only at hSw); go_simp <;> with_reducible rfl
      (try simp only [Act.put, List.setIfInBounds_toArray, List.set_cons_zero, List.set_cons_succ])
      refine wpAnyH_take (i := 1) (oi := ({ dst := some 42, op := Op.load 4 (Operand.tmp 41), type := 4, pos := "ref.go:226", after := #[{ on := 0, ground := Ground.data }], guard := none } : Oper)) (v := ?_) rfl (by kernel_rfl) (by kernel_rfl) (by kernel_rfl) (fun _ _ _ h => h) (Or.inl ⟨by rfl, ?_⟩) (by assumption) ?_
      rotate_left
      · intro w hSw; (try dsimp only at hSw); go_simp <;> with_reducible rfl
      (try simp only [Act.put, List.setIfInBounds_toArray, List.set_cons_zero, List.set_cons_succ])
      refine wpAnyH_take (i := 2) (oi := ({ dst := some 43, op := Op.fieldAddr 48 (Operand.tmp 6) 1, type := 0, pos := "ref.go:226", after := #[], guard := none } : Oper)) (v := ?_) rfl (by kernel_rfl) (by kernel_rfl) (by kernel_rfl) (fun _ _ _ h => h) (Or.inl ⟨by rfl, ?_⟩) (by assumption) ?_
      rotate_left
      · intro w hSw; (try dsimp only at hSw); go_simp <;> with_reducible rfl
      (try simp only [Act.put, List.setIfInBounds_toArray, List.set_cons_zero, List.set_cons_succ])
      refine wpAnyH_take (i := 3) (oi := ({ dst := some 44, op := Op.load 46 (Operand.tmp 43), type := 46, pos := "ref.go:226", after := #[{ on := 2, ground := Ground.data }], guard := none } : Oper)) (v := ?_) rfl (by kernel_rfl) (by kernel_rfl) (by kernel_rfl) (fun _ _ _ h => h) (Or.inl ⟨by rfl, ?_⟩) (by assumption) ?_
      rotate_left
      · intro w hSw; (try dsimp only at hSw); go_simp <;> with_reducible rfl
      (try simp only [Act.put, List.setIfInBounds_toArray, List.set_cons_zero, List.set_cons_succ])
      refine wpAnyH_take (i := 4) (oi := ({ dst := some 45, op := Op.move (Operand.tmp 7), type := 3, pos := "ref.go:226", after := #[], guard := none } : Oper)) (v := ?_) rfl (by kernel_rfl) (by kernel_rfl) (by kernel_rfl) (fun _ _ _ h => h) (Or.inl ⟨by rfl, ?_⟩) (by assumption) ?_
      rotate_left
      · intro w hSw; (try dsimp only at hSw); go_simp <;> with_reducible rfl
      (try simp only [Act.put, List.setIfInBounds_toArray, List.set_cons_zero, List.set_cons_succ])
      refine wpAnyH_take (i := 8) (oi := ({ dst := some 49, op := Op.fieldAddr 25 (Operand.tmp 2) 1, type := 0, pos := "ref.go:226", after := #[], guard := none } : Oper)) (v := ?_) rfl (by kernel_rfl) (by kernel_rfl) (by kernel_rfl) (fun _ _ _ h => h) (Or.inl ⟨by rfl, ?_⟩) (by assumption) ?_
      rotate_left
      · intro w hSw; (try dsimp only at hSw); go_simp <;> with_reducible rfl
      (try simp only [Act.put, List.setIfInBounds_toArray, List.set_cons_zero, List.set_cons_succ])
      refine wpAnyH_take (i := 9) (oi := ({ dst := some 50, op := Op.load 3 (Operand.tmp 49), type := 3, pos := "ref.go:226", after := #[{ on := 8, ground := Ground.data }], guard := none } : Oper)) (v := ?_) rfl (by kernel_rfl) (by kernel_rfl) (by kernel_rfl) (fun _ _ _ h => h) (Or.inl ⟨by rfl, ?_⟩) (by assumption) ?_
      rotate_left
      · intro w hSw; (try dsimp only at hSw); go_simp <;> with_reducible rfl
      (try simp only [Act.put, List.setIfInBounds_toArray, List.set_cons_zero, List.set_cons_succ])
      refine wpAnyH_take (i := 10) (oi := ({ dst := some 51, op := Op.move (Operand.tmp 5), type := 3, pos := "ref.go:226", after := #[], guard := none } : Oper)) (v := ?_) rfl (by kernel_rfl) (by kernel_rfl) (by kernel_rfl) (fun _ _ _ h => h) (Or.inl ⟨by rfl, ?_⟩) (by assumption) ?_
      rotate_left
      · intro w hSw; (try dsimp only at hSw); go_simp <;> with_reducible rfl
      (try simp only [Act.put, List.setIfInBounds_toArray, List.set_cons_zero, List.set_cons_succ])
      refine wpAnyH_take (i := 11) (oi := ({ dst := some 52, op := Op.binOp BinOp.quo 3 (Operand.tmp 50) (Operand.tmp 51) 3, type := 3, pos := "ref.go:226", after := #[{ on := 9, ground := Ground.data }, { on := 10, ground := Ground.data }], guard := none } : Oper)) (v := ?_) rfl (by kernel_rfl) (by kernel_rfl) (by kernel_rfl) (fun _ _ _ h => h) (Or.inl ⟨by rfl, ?_⟩) (by assumption) ?_
      rotate_left
      · intro w hSw; (try dsimp only at hSw); go_simp <;> with_reducible rfl
      (try simp only [Act.put, List.setIfInBounds_toArray, List.set_cons_zero, List.set_cons_succ])
      refine wpAnyH_take (i := 13) (oi := ({ dst := some 54, op := Op.fieldAddr 25 (Operand.tmp 3) 1, type := 0, pos := "ref.go:226", after := #[], guard := none } : Oper)) (v := ?_) rfl (by kernel_rfl) (by kernel_rfl) (by kernel_rfl) (fun _ _ _ h => h) (Or.inl ⟨by rfl, ?_⟩) (by assumption) ?_
      rotate_left
      · intro w hSw; (try dsimp only at hSw); go_simp <;> with_reducible rfl
      (try simp only [Act.put, List.setIfInBounds_toArray, List.set_cons_zero, List.set_cons_succ])
      refine wpAnyH_take (i := 14) (oi := ({ dst := some 55, op := Op.load 3 (Operand.tmp 54), type := 3, pos := "ref.go:226", after := #[{ on := 13, ground := Ground.data }], guard := none } : Oper)) (v := ?_) rfl (by kernel_rfl) (by kernel_rfl) (by kernel_rfl) (fun _ _ _ h => h) (Or.inl ⟨by rfl, ?_⟩) (by assumption) ?_
      rotate_left
      · intro w hSw; (try dsimp only at hSw); go_simp <;> with_reducible rfl
      (try simp only [Act.put, List.setIfInBounds_toArray, List.set_cons_zero, List.set_cons_succ])
      refine wpAnyH_take (i := 15) (oi := ({ dst := some 56, op := Op.move (Operand.tmp 7), type := 3, pos := "ref.go:226", after := #[], guard := none } : Oper)) (v := ?_) rfl (by kernel_rfl) (by kernel_rfl) (by kernel_rfl) (fun _ _ _ h => h) (Or.inl ⟨by rfl, ?_⟩) (by assumption) ?_
      rotate_left
      · intro w hSw; (try dsimp only at hSw); go_simp <;> with_reducible rfl
      (try simp only [Act.put, List.setIfInBounds_toArray, List.set_cons_zero, List.set_cons_succ])
      refine wpAnyH_take (i := 16) (oi := ({ dst := some 57, op := Op.binOp BinOp.quo 3 (Operand.tmp 55) (Operand.tmp 56) 3, type := 3, pos := "ref.go:226", after := #[{ on := 14, ground := Ground.data }, { on := 15, ground := Ground.data }], guard := none } : Oper)) (v := ?_) rfl (by kernel_rfl) (by kernel_rfl) (by kernel_rfl) (fun _ _ _ h => h) (Or.inl ⟨by rfl, ?_⟩) (by assumption) ?_
      rotate_left
      · intro w hSw; (try dsimp only at hSw); go_simp <;> with_reducible rfl
      (try simp only [Act.put, List.setIfInBounds_toArray, List.set_cons_zero, List.set_cons_succ])
      refine wpAnyH_ready (rs := [5]) (by kernel_rfl) (by simp) ?_
      refine (AllReadyH.cons (o := ({ dst := some 46, op := Op.call { callee := Callee.value (Operand.func 36), args := #[Operand.tmp 44, Operand.tmp 45], argTypes := #[46, 3] }, type := 52, pos := "ref.go:226", after := #[{ on := 3, ground := Ground.data }, { on := 4, ground := Ground.data }], guard := none } : Oper)) rfl (fun K hK => ?_) AllReadyH.nil)
      go_simp
      go_at_call 36
      with_reducible refine (D2.out _ (HT5.out.below hB)).mono ?_
      rintro e y46 ⟨pq, qq, cq, rfl, hzqr, hst⟩
      have hzq := hid hzqr
      clear hzqr
      have hB := below_step hB hst
      clear hst hHeld
      first | (with_reducible refine hK.out _ _ ?_ (fun hHeld => ?_)) | (go_wp2_with fail; with_reducible refine hK.out _ _ ?_ (fun hHeld => ?_))
      · exact ⟨cell_below hB m0, cell_below hB m1', cell_below hB m2', cell_below hB m3⟩
      clear hK K
      (try simp only [Act.put, List.setIfInBounds_toArray, List.set_cons_zero, List.set_cons_succ])
      refine wpAnyH_take (i := 6) (oi := ({ dst := some 47, op := Op.field 52 (Operand.tmp 46) 0, type := 46, pos := "ref.go:226", after := #[{ on := 5, ground := Ground.data }], guard := none } : Oper)) (v := ?_) rfl (by kernel_rfl) (by kernel_rfl) (by kernel_rfl) (fun _ _ _ h => h) (Or.inl ⟨by rfl, ?_⟩) (by assumption) ?_
      rotate_left
      · intro w hSw; (try dsimp only at hSw); go_simp <;> with_reducible rfl
      (try simp only [Act.put, List.setIfInBounds_toArray, List.set_cons_zero, List.set_cons_succ])
      refine wpAnyH_take (i := 7) (oi := ({ dst := some 48, op := Op.build 48 #[(0, Operand.tmp 42), (1, Operand.tmp 47)], type := 48, pos := "ref.go:226", after := #[{ on := 1, ground := Ground.data }, { on := 6, ground := Ground.data }], guard := none } : Oper)) (v := ?_) rfl (by kernel_rfl) (by kernel_rfl) (by kernel_rfl) (fun _ _ _ h => h) (Or.inl ⟨by rfl, ?_⟩) (by assumption) ?_
      rotate_left
      · intro w hSw; (try dsimp only at hSw); go_simp <;> with_reducible rfl
      (try simp only [Act.put, List.setIfInBounds_toArray, List.set_cons_zero, List.set_cons_succ])
      refine wpAnyH_ready (rs := [12]) (by kernel_rfl) (by simp) ?_
      refine (AllReadyH.cons (o := ({ dst := some 53, op := Op.call { callee := Callee.value (Operand.func 39), args := #[Operand.tmp 52], argTypes := #[3] }, type := 46, pos := "ref.go:226", after := #[{ on := 11, ground := Ground.data }, { on := 5, ground := Ground.chain }], guard := none } : Oper)) rfl (fun K hK => ?_) AllReadyH.nil)
      go_simp
      rw [e2.out]
      go_at_call 39
      with_reducible refine (BA.out _).mono ?_
      rintro e y53 ⟨pa, qa, ca, rfl, hzar, hst⟩
      have hzq := hid (hzq.out.below hst)
      have hza := hid hzar
      clear hzar
      have hB := below_step hB hst
      clear hst hHeld
      first | (with_reducible refine hK.out _ _ ?_ (fun hHeld => ?_)) | (go_wp2_with fail; with_reducible refine hK.out _ _ ?_ (fun hHeld => ?_))
      · exact ⟨cell_below hB m0, cell_below hB m1', cell_below hB m2', cell_below hB m3⟩
      clear hK K
      (try simp only [Act.put, List.setIfInBounds_toArray, List.set_cons_zero, List.set_cons_succ])
      refine wpAnyH_ready (rs := [17]) (by kernel_rfl) (by simp) ?_
      refine (AllReadyH.cons (o := ({ dst := some 58, op := Op.call { callee := Callee.value (Operand.func 39), args := #[Operand.tmp 57], argTypes := #[3] }, type := 46, pos := "ref.go:226", after := #[{ on := 16, ground := Ground.data }, { on := 12, ground := Ground.chain }], guard := none } : Oper)) rfl (fun K hK => ?_) AllReadyH.nil)
      go_simp
      rw [e3.out]
      go_at_call 39
      with_reducible refine (BB.out _).mono ?_
      rintro e y58 ⟨pb, qb, cb, rfl, hzbr, hst⟩
      have hzq := hid (hzq.out.below hst)
      have hza := hid (hza.out.below hst)
      have hzb := hid hzbr
      clear hzbr
      have hB := below_step hB hst
      clear hst hHeld
      first | (with_reducible refine hK.out _ _ ?_ (fun hHeld => ?_)) | (go_wp2_with fail; with_reducible refine hK.out _ _ ?_ (fun hHeld => ?_))
      · exact ⟨cell_below hB m0, cell_below hB m1', cell_below hB m2', cell_below hB m3⟩
      clear hK K
      (try simp only [Act.put, List.setIfInBounds_toArray, List.set_cons_zero, List.set_cons_succ])
      refine wpAnyH_ready (rs := [18]) (by kernel_rfl) (by simp) ?_
      refine (AllReadyH.cons (o := ({ dst := some 59, op := Op.call { callee := Callee.value (Operand.func 38), args := #[Operand.tmp 53, Operand.tmp 58], argTypes := #[46, 46] }, type := 46, pos := "ref.go:226", after := #[{ on := 12, ground := Ground.data }, { on := 17, ground := Ground.data }, { on := 17, ground := Ground.chain }], guard := none } : Oper)) rfl (fun K hK => ?_) AllReadyH.nil)
      go_simp
      go_at_call 38
      with_reducible refine (TM.out _ _ _ hza.out hzb.out).mono ?_
      rintro e y59 ⟨pc, qc, cc, rfl, hzcr, hst⟩
      have hzq := hid (hzq.out.below hst)
      have hza := hid (hza.out.below hst)
      have hzb := hid (hzb.out.below hst)
      have hzc := hid hzcr
      clear hzcr
      have hB := below_step hB hst
      clear hst hHeld
      first | (with_reducible refine hK.out _ _ ?_ (fun hHeld => ?_)) | (go_wp2_with fail; with_reducible refine hK.out _ _ ?_ (fun hHeld => ?_))
      · exact ⟨cell_below hB m0, cell_below hB m1', cell_below hB m2', cell_below hB m3⟩
      clear hK K
      (try simp only [Act.put, List.setIfInBounds_toArray, List.set_cons_zero, List.set_cons_succ])
      refine wpAnyH_ready (rs := [19]) (by kernel_rfl) (by simp) ?_
      refine (AllReadyH.cons (o := ({ dst := some 60, op := Op.call { callee := Callee.value (Operand.func 37), args := #[Operand.tmp 48, Operand.tmp 59], argTypes := #[48, 46] }, type := 28, pos := "ref.go:226", after := #[{ on := 7, ground := Ground.data }, { on := 18, ground := Ground.data }, { on := 18, ground := Ground.chain }], guard := none } : Oper)) rfl (fun K hK => ?_) AllReadyH.nil)
      go_simp
      go_at_call 37
      with_reducible refine (MD.out _ _ _ hzq.out hzc.out).mono ?_
      rintro e y60 ⟨rfl, hst⟩
      have hzq := hid (hzq.out.below hst)
      have hza := hid (hza.out.below hst)
      have hzb := hid (hzb.out.below hst)
      have hzc := hid (hzc.out.below hst)
      have hB := below_step hB hst
      clear hst hHeld
      first | (with_reducible refine hK.out _ _ ?_ (fun hHeld => ?_)) | (go_wp2_with fail; with_reducible refine hK.out _ _ ?_ (fun hHeld => ?_))
      · exact ⟨cell_below hB m0, cell_below hB m1', cell_below hB m2', cell_below hB m3⟩
      clear hK K
      (try simp only [Act.put, List.setIfInBounds_toArray, List.set_cons_zero, List.set_cons_succ])
      refine wpAnyH_ready (rs := [20]) (by kernel_rfl) (by simp) ?_
      refine (AllReadyH.cons (o := ({ dst := none, op := Op.store 28 (Operand.tmp 4) (Operand.tmp 60), type := 0, pos := "ref.go:226", after := #[{ on := 19, ground := Ground.data }, { on := 19, ground := Ground.chain }, { on := 0, ground := Ground.phase }, { on := 1, ground := Ground.phase }, { on := 2, ground := Ground.phase }, { on := 3, ground := Ground.phase }, { on := 4, ground := Ground.phase }, { on := 5, ground := Ground.phase }, { on := 6, ground := Ground.phase }, { on := 7, ground := Ground.phase }, { on := 8, ground := Ground.phase }, { on := 9, ground := Ground.phase }, { on := 10, ground := Ground.phase }, { on := 11, ground := Ground.phase }, { on := 12, ground := Ground.phase }, { on := 13, ground := Ground.phase }, { on := 14, ground := Ground.phase }, { on := 15, ground := Ground.phase }, { on := 16, ground := Ground.phase }, { on := 17, ground := Ground.phase }, { on := 18, ground := Ground.phase }, { on := 19, ground := Ground.phase }], guard := none } : Oper)) rfl (fun K hK => ?_) AllReadyH.nil)
      go_simp
      obtain ⟨⟨r0, r1, r2⟩, ⟨f0, f1, f2⟩, -⟩ := RB5.out.below hB
      have ES := hid (show (((y60.setCell ⟨w.heap.size + 2, 0, none⟩ (.int .i64 N)).setCell ⟨w.heap.size + 2, 1, none⟩ (.int .i64 D)).setCell ⟨w.heap.size + 2, 2, none⟩ (.int .i64 E)).cell? ⟨nf, 0, none⟩ = some (.bool bt) ∧ (((y60.setCell ⟨w.heap.size + 2, 0, none⟩ (.int .i64 N)).setCell ⟨w.heap.size + 2, 1, none⟩ (.int .i64 D)).setCell ⟨w.heap.size + 2, 2, none⟩ (.int .i64 E)).cell? ⟨nf, 1, none⟩ = some (.slice pt (bitsN nt).length ct) ∧ (((y60.setCell ⟨w.heap.size + 2, 0, none⟩ (.int .i64 N)).setCell ⟨w.heap.size + 2, 1, none⟩ (.int .i64 D)).setCell ⟨w.heap.size + 2, 2, none⟩ (.int .i64 E)).cell? ⟨w.heap.size, 1, none⟩ = some (.int .i64 (da : Int)) ∧ (((y60.setCell ⟨w.heap.size + 2, 0, none⟩ (.int .i64 N)).setCell ⟨w.heap.size + 2, 1, none⟩ (.int .i64 D)).setCell ⟨w.heap.size + 2, 2, none⟩ (.int .i64 E)).cell? ⟨w.heap.size + 1, 1, none⟩ = some (.int .i64 (db : Int)) from ⟨far3 _ _ _ _ _ _ _ (by omega) (cell_below hB m0), far3 _ _ _ _ _ _ _ (by omega) (cell_below hB m1'), far3 _ _ _ _ _ _ _ (by omega) (cell_below hB m2'), far3 _ _ _ _ _ _ _ (by omega) (cell_below hB m3)⟩)
      have HEND := hid (below_step HB5.out hB)
      go_simp
      clear hHeld
      first | (with_reducible refine hK.out _ _ ?_ (fun hHeld => ?_)) | (go_wp2_with fail; with_reducible refine hK.out _ _ ?_ (fun hHeld => ?_))
      · exact ES.out
      clear hK K
      (try simp only [Act.put, List.setIfInBounds_toArray, List.set_cons_zero, List.set_cons_succ])
      refine wpAnyH_done (by kernel_rfl) ?_ _
      skip
      go_wp2_with fail
      exact bodyPost_ret (v := .agg #[.int .i64 N, .int .i64 D, .int .i64 E]) (by simp [results, Tryz.results11, go_sem, r0, r1, r2]) rfl ⟨by rw [HFR.out], ((HEND.out.setCell (p := ⟨w.heap.size + 2, 0, none⟩) (by show w.heap.size ≤ w.heap.size + 2; omega) _).setCell (p := ⟨w.heap.size + 2, 1, none⟩) (by show w.heap.size ≤ w.heap.size + 2; omega) _).setCell (p := ⟨w.heap.size + 2, 2, none⟩) (by show w.heap.size ≤ w.heap.size + 2; omega) _⟩

end Go.Proofs.YtffcnkkgbhhfnaaGreatDoor

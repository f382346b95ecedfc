import Derived.Test.YtpfcfaakdhamlaaJv
import Derived.Deep.RegionHeld3
import Derived.Deep.CutRange
namespace Go.Proofs.Ytpfcfaakdhamlaa
open Go.RowKit Go.Instr
set_option linter.unusedVariables false
set_option linter.unusedSimpArgs false



/-! Conditions as they lie in memory. -/

/-- A condition. -/
inductive Cd where
  | mk (op : Int) (a : List Ex) (c : List Cd)

mutual
/-- The value x is this condition, in the world w. -/
def cdIn (w : World) : Cd → Value → Prop
  | .mk op l r, x => ∃ (oa ob : Option Addr) (ca cb : Nat), x = .agg #[.int .i64 op, .slice oa l.length ca, .slice ob r.length cb] ∧ l.length ≤ ca ∧ ca ≤ 9223372036854775807 ∧ exsIn w l oa 0 ∧
      r.length ≤ cb ∧ cb ≤ 9223372036854775807 ∧ cdsIn w r ob 0
/-- The conditions of a list lie one after the other from element i on. -/
def cdsIn (w : World) : List Cd → Option Addr → Nat → Prop
  | [], _, _ => True
  | t :: r, oa, i => (∃ (b off : Nat) (x0 x1 x2 : Value), oa = some ⟨b, off, none⟩ ∧ w.cell? ⟨b, off + i * 3, none⟩ = some x0 ∧ w.cell? ⟨b, off + i * 3 + 1, none⟩ = some x1 ∧
      w.cell? ⟨b, off + i * 3 + 2, none⟩ = some x2 ∧ cdIn w t (.agg #[x0, x1, x2])) ∧ cdsIn w r oa (i + 1)
end

mutual
theorem cdIn_below {w w' : World} (h : Below w.heap.size w w') : ∀ (t : Cd) (x : Value), cdIn w t x → cdIn w' t x
  | .mk op l r, x, hx => by
    rw [cdIn] at hx ⊢
    obtain ⟨oa, ob, ca, cb, h1, h2, h3, h4, h5, h6, h7⟩ := hx
    exact ⟨oa, ob, ca, cb, h1, h2, h3, exsIn_below h l oa 0 h4, h5, h6, cdsIn_below h r ob 0 h7⟩
theorem cdsIn_below {w w' : World} (h : Below w.heap.size w w') : ∀ (l : List Cd) (oa : Option Addr) (i : Nat), cdsIn w l oa i → cdsIn w' l oa i
  | [], _, _, _ => by rw [cdsIn]; trivial
  | t :: r, oa, i, hx => by
    rw [cdsIn] at hx ⊢
    obtain ⟨⟨b, off, x0, x1, x2, h0, h1, h2, h3, h5⟩, h6⟩ := hx
    exact ⟨⟨b, off, x0, x1, x2, h0, cell_below h h1, cell_below h h2, cell_below h h3, cdIn_below h t _ h5⟩, cdsIn_below h r oa (i + 1) h6⟩
end

theorem cdsIn_at {w : World} : ∀ {l : List Cd} {oa : Option Addr} {i : Nat}, cdsIn w l oa i → ∀ (j : Nat) (t : Cd), l[j]? = some t →
    ∃ (b off : Nat) (x0 x1 x2 : Value), oa = some ⟨b, off, none⟩ ∧ w.cell? ⟨b, off + (i + j) * 3, none⟩ = some x0 ∧ w.cell? ⟨b, off + (i + j) * 3 + 1, none⟩ = some x1 ∧
      w.cell? ⟨b, off + (i + j) * 3 + 2, none⟩ = some x2 ∧ cdIn w t (.agg #[x0, x1, x2])
  | [], _, _, _, j, t, h => by simp at h
  | u :: r, oa, i, hx, 0, t, h => by
    rw [cdsIn] at hx
    simp only [List.getElem?_cons_zero, Option.some.injEq] at h
    subst h
    exact hx.1
  | u :: r, oa, i, hx, j + 1, t, h => by
    rw [cdsIn] at hx
    have := cdsIn_at hx.2 j t (by simpa using h)
    rwa [show i + 1 + j = i + (j + 1) by omega] at this

/-- The elements of a list that is not empty: all behind one address. -/
theorem cdsIn_all {w : World} {l : List Cd} {oa : Option Addr} (hx : cdsIn w l oa 0) (hne : l ≠ []) :
    ∃ (b off : Nat), oa = some ⟨b, off, none⟩ ∧ ∀ (k : Nat) (t : Cd), l[k]? = some t → ∃ (o : Int) (a a2 : Option Addr) (ln cp ln2 cp2 : Nat), w.cell? ⟨b, off + k * 3, none⟩ = some (.int .i64 o) ∧
      w.cell? ⟨b, off + k * 3 + 1, none⟩ = some (.slice a ln cp) ∧ w.cell? ⟨b, off + k * 3 + 2, none⟩ = some (.slice a2 ln2 cp2) ∧ cdIn w t (.agg #[.int .i64 o, .slice a ln cp, .slice a2 ln2 cp2]) := by
  cases l with
  | nil => exact absurd rfl hne
  | cons u r =>
    obtain ⟨b, off, -, -, -, rfl, -⟩ := cdsIn_at hx 0 u rfl
    refine ⟨b, off, rfl, fun k t hk => ?_⟩
    obtain ⟨b', off', x0, x1, x2, hoa, c0, c1, c2, hin⟩ := cdsIn_at hx k t hk
    simp only [Option.some.injEq, Addr.mk.injEq, and_true] at hoa
    obtain ⟨rfl, rfl⟩ := hoa
    rw [Nat.zero_add] at c0 c1 c2
    obtain ⟨o, l, m⟩ := t
    have hin' := hin
    rw [cdIn] at hin
    obtain ⟨oa', ob', ca', cb', h1, -⟩ := hin
    simp only [Value.agg.injEq, Array.mk.injEq, List.cons.injEq, and_true] at h1
    obtain ⟨rfl, rfl, rfl⟩ := h1
    exact ⟨_, _, _, _, _, _, _, c0, c1, c2, hin'⟩

/-! 'num.Holds'. -/
mutual
def holdsC (V L : List Int) : Cd → Bool
  | .mk op l r =>
    if op = 1 then true
    else if op = 2 then decide ((evalsE V L l).getD 0 0 < (evalsE V L l).getD 1 0)
    else if op = 3 then decide ((evalsE V L l).getD 0 0 ≤ (evalsE V L l).getD 1 0)
    else if op = 4 then (evalsE V L l).getD 0 0 == (evalsE V L l).getD 1 0
    else if op = 5 then !(holdsCs V L r).getD 0 false
    else if op = 6 then (holdsCs V L r).getD 0 false && (holdsCs V L r).getD 1 false
    else if op = 7 then (holdsCs V L r).getD 0 false || (holdsCs V L r).getD 1 false
    else false
def holdsCs (V L : List Int) : List Cd → List Bool
  | [] => []
  | t :: r => holdsC V L t :: holdsCs V L r
end

theorem holdsCs_length (V L : List Int) : ∀ l, (holdsCs V L l).length = l.length
  | [] => by simp [holdsCs]
  | t :: r => by simp [holdsCs, holdsCs_length V L r]
theorem holdsCs_at (V L : List Int) : ∀ (l : List Cd) (k : Nat) (t : Cd), l[k]? = some t → (holdsCs V L l)[k]? = some (holdsC V L t)
  | [], k, t, h => by simp at h
  | u :: r, 0, t, h => by simp at h; subst h; simp [holdsCs]
  | u :: r, k + 1, t, h => by simp only [holdsCs, List.getElem?_cons_succ]; exact holdsCs_at V L r k t (by simpa using h)



/-! The reference's 'Part', 'Holds'. -/
def cd0 : Cd := .mk 0 [] []
theorem holds_getD (V L : List Int) : ∀ (l : List Cd) (k : Nat), (holdsCs V L l).getD k false = holdsC V L (l.getD k cd0)
  | [], k => by rw [holdsCs]; simp only [List.getD_nil]; rw [cd0, holdsC]; rfl
  | t :: r, 0 => by rw [holdsCs]; rfl
  | t :: r, k + 1 => by rw [holdsCs]; exact holds_getD V L r k
theorem cd0_in (w : World) : cdIn w cd0 (.agg #[.int .i64 0, .slice none 0 0, .slice none 0 0]) := by
  rw [cd0, cdIn]
  exact ⟨none, none, 0, 0, rfl, Nat.le_refl _, by omega, by rw [exsIn]; trivial, Nat.le_refl _, by omega, by rw [cdsIn]; trivial⟩
set_option maxHeartbeats 1000000 in
theorem rpart_any (l : List Cd) (k : Nat) (oa : Option Addr) (cap : Nat) (w : World) (hl : l.length ≤ cap) (hm : cap ≤ 9223372036854775807) (hx : cdsIn w l oa 0) :
    Calls Try.prog 62 #[.slice oa l.length cap, .int .i64 (k : Int)] w fun e w' => ∃ (o : Int) (a a2 : Option Addr) (ln cp ln2 cp2 : Nat), e = .returned (.agg #[.int .i64 o, .slice a ln cp, .slice a2 ln2 cp2]) ∧ cdIn w' (l.getD k cd0) (.agg #[.int .i64 o, .slice a ln cp, .slice a2 ln2 cp2]) ∧ Below w.heap.size w w' := by
  obtain ⟨len, hlen⟩ : ∃ len, l.length = len := ⟨_, rfl⟩
  by_cases h : k < len
  · obtain ⟨b, off, rfl, hall⟩ := cdsIn_all hx (by intro h0; subst h0; simp at hlen; omega)
    obtain ⟨t, ht⟩ : ∃ t, l[k]? = some t := ⟨_, List.getElem?_eq_getElem (by omega)⟩
    obtain ⟨o, a, a2, ln, cp, ln2, cp2, c0, c1, c2, hin⟩ := hall k t ht
    have hg : l.getD k cd0 = t := by rw [List.getD_eq_getElem?_getD, ht]; rfl
    rw [hg, hlen]
    rw [hlen] at hl
    have HI := hid hin
    have e0 := fun o => cell_below (below_a (Below.refl _ w) o) c0
    have e1 := fun o => cell_below (below_a (Below.refl _ w) o) c1
    have e2 := fun o => cell_below (below_a (Below.refl _ w) o) c2
    have hk : (k : Int) < (len : Int) := by omega
    clear hx hall ht hin hg c0 c1 c2 hlen
    go_enter Try.func62, Try.ntmps62
    go_wp2
    have hB : Below w.heap.size w (w.alloc (.cells #[.int .i64 o, .slice a ln cp, .slice a2 ln2 cp2] 59)) := below_a (Below.refl _ _) _
    exact bodyPost_ret (v := .agg #[.int .i64 o, .slice a ln cp, .slice a2 ln2 cp2]) (by simp [results, Try.results62, go_sem]) rfl ⟨o, a, a2, ln, cp, ln2, cp2, rfl, cdIn_below hB _ _ HI.out, hB⟩
  · have hg : l.getD k cd0 = cd0 := by rw [List.getD_eq_getElem?_getD, List.getElem?_eq_none (by omega)]; rfl
    rw [hg, hlen]
    rw [hlen] at hl
    have hk : decide ((k : Int) < (len : Int)) = false := by simp; omega
    clear hx hg hlen
    go_enter Try.func62, Try.ntmps62
    go_wp2
    exact bodyPost_ret (v := .agg #[.int .i64 0, .slice none 0 0, .slice none 0 0]) (by simp [results, Try.results62, go_sem]) rfl ⟨0, none, none, 0, 0, 0, 0, rfl, cd0_in _, below_a (Below.refl _ _) _⟩
theorem rpart_0 (l : List Cd) (oa : Option Addr) (len cap : Nat) (hn : l.length = len) (w : World) (hl : len ≤ cap) (hm : cap ≤ 9223372036854775807) (hx : cdsIn w l oa 0) :
    Calls Try.prog 62 #[.slice oa len cap, .int .i64 0] w fun e w' => ∃ (o : Int) (a a2 : Option Addr) (ln cp ln2 cp2 : Nat), e = .returned (.agg #[.int .i64 o, .slice a ln cp, .slice a2 ln2 cp2]) ∧ cdIn w' (l.getD 0 cd0) (.agg #[.int .i64 o, .slice a ln cp, .slice a2 ln2 cp2]) ∧ Below w.heap.size w w' := by
  subst hn
  exact rpart_any l 0 oa cap w hl hm hx
theorem rpart_1 (l : List Cd) (oa : Option Addr) (len cap : Nat) (hn : l.length = len) (w : World) (hl : len ≤ cap) (hm : cap ≤ 9223372036854775807) (hx : cdsIn w l oa 0) :
    Calls Try.prog 62 #[.slice oa len cap, .int .i64 1] w fun e w' => ∃ (o : Int) (a a2 : Option Addr) (ln cp ln2 cp2 : Nat), e = .returned (.agg #[.int .i64 o, .slice a ln cp, .slice a2 ln2 cp2]) ∧ cdIn w' (l.getD 1 cd0) (.agg #[.int .i64 o, .slice a ln cp, .slice a2 ln2 cp2]) ∧ Below w.heap.size w w' := by
  subst hn
  exact rpart_any l 1 oa cap w hl hm hx
def RHoldsOk (V L : List Int) (t : Cd) : Prop := ∀ (x vs ls : Value) (w : World), cdIn w t x → intsIn w V vs → intsIn w L ls →
  Calls Try.prog 37 #[x, vs, ls] w fun e w' => e = .returned (.bool (holdsC V L t)) ∧ Below w.heap.size w w'
theorem ret_b {a b : Bool} (h : a = b) : Ending.returned (.bool a) = .returned (.bool b) := by rw [h]
set_option maxRecDepth 100000 in
set_option maxHeartbeats 4000000 in
theorem rholds_step (V L : List Int) (op : Int) (l : List Ex) (r : List Cd) (I0 : op = 5 ∨ op = 6 ∨ op = 7 → ∀ k, RHoldsOk V L (r.getD k cd0)) : RHoldsOk V L (.mk op l r) := by
  intro x vs ls w hx hv hL
  rw [cdIn] at hx
  obtain ⟨oa, ob, ca, cb, rfl, hl, hm, hxs, hl2, hm2, hcs⟩ := hx
  have J0 := hid (fun (h : op = 5 ∨ op = 6 ∨ op = 7) (x vs ls : Value) (W : World) (h1 : cdIn W (r.getD 0 cd0) x) (h2 : intsIn W V vs) (h3 : intsIn W L ls) => I0 h 0 x vs ls W h1 h2 h3)
  have J1 := hid (fun (h : op = 5 ∨ op = 6 ∨ op = 7) (x vs ls : Value) (W : World) (h1 : cdIn W (r.getD 1 cd0) x) (h2 : intsIn W V vs) (h3 : intsIn W L ls) => I0 h 1 x vs ls W h1 h2 h3)
  have A0 := hid (fun (x vs ls : Value) (W : World) (h1 : exIn W (l.getD 0 ex0) x) (h2 : intsIn W V vs) (h3 : intsIn W L ls) => reval_any V L (l.getD 0 ex0) x vs ls W h1 h2 h3)
  have A1 := hid (fun (x vs ls : Value) (W : World) (h1 : exIn W (l.getD 1 ex0) x) (h2 : intsIn W V vs) (h3 : intsIn W L ls) => reval_any V L (l.getD 1 ex0) x vs ls W h1 h2 h3)
  have HR := hid (show holdsC V L (.mk op l r) = if op = 1 then true else if op = 2 then decide (evalE V L (l.getD 0 ex0) < evalE V L (l.getD 1 ex0)) else if op = 3 then decide (evalE V L (l.getD 0 ex0) ≤ evalE V L (l.getD 1 ex0)) else if op = 4 then evalE V L (l.getD 0 ex0) == evalE V L (l.getD 1 ex0) else if op = 5 then !holdsC V L (r.getD 0 cd0) else if op = 6 then holdsC V L (r.getD 0 cd0) && holdsC V L (r.getD 1 cd0) else if op = 7 then holdsC V L (r.getD 0 cd0) || holdsC V L (r.getD 1 cd0) else false by
    rw [holdsC, evals_getD, evals_getD, holds_getD, holds_getD])
  obtain ⟨av, hav⟩ : ∃ z, evalE V L (l.getD 0 ex0) = z := ⟨_, rfl⟩
  obtain ⟨bv, hbv⟩ : ∃ z, evalE V L (l.getD 1 ex0) = z := ⟨_, rfl⟩
  obtain ⟨hA, hhA⟩ : ∃ z, holdsC V L (r.getD 0 cd0) = z := ⟨_, rfl⟩
  obtain ⟨hB, hhB⟩ : ∃ z, holdsC V L (r.getD 1 cd0) = z := ⟨_, rfl⟩
  rw [hav, hbv, hhA, hhB] at HR
  rw [hav] at A0
  rw [hbv] at A1
  rw [hhA] at J0
  rw [hhB] at J1
  clear hav hbv hhA hhB I0
  obtain ⟨res, hres⟩ : ∃ z, holdsC V L (.mk op l r) = z := ⟨_, rfl⟩
  rw [hres] at HR ⊢
  clear hres
  obtain ⟨len, hlen⟩ : ∃ len, l.length = len := ⟨_, rfl⟩
  obtain ⟨len2, hlen2⟩ : ∃ len, r.length = len := ⟨_, rfl⟩
  rw [hlen] at hl
  rw [hlen2] at hl2
  rw [hlen, hlen2]
  have HLN := hid hlen
  have HLN2 := hid hlen2
  have Hv := hid hv; clear hv
  have HL := hid hL; clear hL
  have Hxs := hid hxs; clear hxs
  have Hcs := hid hcs; clear hcs
  clear hlen hlen2
  obtain ⟨W0, hW0⟩ : ∃ W0, w.alloc (.cells #[.int .i64 op, .slice oa len ca, .slice ob len2 cb] 59) = W0 := ⟨_, rfl⟩
  have hw0 : Below w.heap.size w W0 := by rw [← hW0]; exact below_a (Below.refl _ _) _
  have k0 : W0.cell? ⟨w.heap.size, 0, none⟩ = some (.int .i64 op) := by rw [← hW0]; simp [go_sem]
  have k1 : W0.cell? ⟨w.heap.size, 1, none⟩ = some (.slice oa len ca) := by rw [← hW0]; simp [go_sem]
  have k2 : W0.cell? ⟨w.heap.size, 2, none⟩ = some (.slice ob len2 cb) := by rw [← hW0]; simp [go_sem]
  have BW := hid hw0
  clear hw0
  go_enter Try.func37, Try.ntmps37
  go_upto_region 1 with fail
  clear hW0
  have hsd := (Below.refl W0.heap.size W0).drew
  refine wp_region_held_drew (S := fun W' => (W'.cell? ⟨w.heap.size, 0, none⟩ = some (.int .i64 op) ∧ W'.cell? ⟨w.heap.size, 1, none⟩ = some (.slice oa len ca) ∧ W'.cell? ⟨w.heap.size, 2, none⟩ = some (.slice ob len2 cb) ∧ Below W0.heap.size W0 W')) (by kernel_rfl) ?_ (fun hHeld => ?_)
  · exact ⟨k0, k1, k2, hsd⟩
  refine wpAnyH_take (i := 0) (oi := ({ dst := some 9, op := Op.fieldAddr 59 (Operand.tmp 3) 1, type := 0, pos := "ref.go:92", after := #[], guard := none } : Oper)) (v := ?_) rfl (by kernel_rfl) (by kernel_rfl) (by kernel_rfl) (fun _ _ _ h => h) (Or.inl ⟨by rfl, ?_⟩) (by assumption) ?_
  rotate_left
  · intro w hSw; (try dsimp only at hSw); go_simp <;> with_reducible rfl
  (try simp only [Act.put, List.setIfInBounds_toArray, List.set_cons_zero, List.set_cons_succ])
  refine wpAnyH_take (i := 1) (oi := ({ dst := some 10, op := Op.load 32 (Operand.tmp 9), type := 32, pos := "ref.go:92", after := #[{ on := 0, ground := Ground.data }], guard := none } : Oper)) (v := ?_) rfl (by kernel_rfl) (by kernel_rfl) (by kernel_rfl) (fun _ _ _ h => h) (Or.inl ⟨by rfl, ?_⟩) (by assumption) ?_
  rotate_left
  · intro w hSw; (try dsimp only at hSw); go_simp <;> with_reducible rfl
  (try simp only [Act.put, List.setIfInBounds_toArray, List.set_cons_zero, List.set_cons_succ])
  refine wpAnyH_take (i := 3) (oi := ({ dst := some 12, op := Op.move (Operand.tmp 1), type := 22, pos := "ref.go:92", after := #[], guard := none } : Oper)) (v := ?_) rfl (by kernel_rfl) (by kernel_rfl) (by kernel_rfl) (fun _ _ _ h => h) (Or.inl ⟨by rfl, ?_⟩) (by assumption) ?_
  rotate_left
  · intro w hSw; (try dsimp only at hSw); go_simp <;> with_reducible rfl
  (try simp only [Act.put, List.setIfInBounds_toArray, List.set_cons_zero, List.set_cons_succ])
  refine wpAnyH_take (i := 4) (oi := ({ dst := some 13, op := Op.move (Operand.tmp 2), type := 22, pos := "ref.go:92", after := #[], guard := none } : Oper)) (v := ?_) rfl (by kernel_rfl) (by kernel_rfl) (by kernel_rfl) (fun _ _ _ h => h) (Or.inl ⟨by rfl, ?_⟩) (by assumption) ?_
  rotate_left
  · intro w hSw; (try dsimp only at hSw); go_simp <;> with_reducible rfl
  (try simp only [Act.put, List.setIfInBounds_toArray, List.set_cons_zero, List.set_cons_succ])
  refine wpAnyH_take (i := 6) (oi := ({ dst := some 15, op := Op.fieldAddr 59 (Operand.tmp 3) 1, type := 0, pos := "ref.go:92", after := #[], guard := none } : Oper)) (v := ?_) rfl (by kernel_rfl) (by kernel_rfl) (by kernel_rfl) (fun _ _ _ h => h) (Or.inl ⟨by rfl, ?_⟩) (by assumption) ?_
  rotate_left
  · intro w hSw; (try dsimp only at hSw); go_simp <;> with_reducible rfl
  (try simp only [Act.put, List.setIfInBounds_toArray, List.set_cons_zero, List.set_cons_succ])
  refine wpAnyH_take (i := 7) (oi := ({ dst := some 16, op := Op.load 32 (Operand.tmp 15), type := 32, pos := "ref.go:92", after := #[{ on := 6, ground := Ground.data }], guard := none } : Oper)) (v := ?_) rfl (by kernel_rfl) (by kernel_rfl) (by kernel_rfl) (fun _ _ _ h => h) (Or.inl ⟨by rfl, ?_⟩) (by assumption) ?_
  rotate_left
  · intro w hSw; (try dsimp only at hSw); go_simp <;> with_reducible rfl
  (try simp only [Act.put, List.setIfInBounds_toArray, List.set_cons_zero, List.set_cons_succ])
  refine wpAnyH_take (i := 9) (oi := ({ dst := some 18, op := Op.move (Operand.tmp 1), type := 22, pos := "ref.go:92", after := #[], guard := none } : Oper)) (v := ?_) rfl (by kernel_rfl) (by kernel_rfl) (by kernel_rfl) (fun _ _ _ h => h) (Or.inl ⟨by rfl, ?_⟩) (by assumption) ?_
  rotate_left
  · intro w hSw; (try dsimp only at hSw); go_simp <;> with_reducible rfl
  (try simp only [Act.put, List.setIfInBounds_toArray, List.set_cons_zero, List.set_cons_succ])
  refine wpAnyH_take (i := 10) (oi := ({ dst := some 19, op := Op.move (Operand.tmp 2), type := 22, pos := "ref.go:92", after := #[], guard := none } : Oper)) (v := ?_) rfl (by kernel_rfl) (by kernel_rfl) (by kernel_rfl) (fun _ _ _ h => h) (Or.inl ⟨by rfl, ?_⟩) (by assumption) ?_
  rotate_left
  · intro w hSw; (try dsimp only at hSw); go_simp <;> with_reducible rfl
  (try simp only [Act.put, List.setIfInBounds_toArray, List.set_cons_zero, List.set_cons_succ])
  refine wpAnyH_ready (rs := [2]) (by kernel_rfl) (by simp) ?_
  refine AllReadyH.cons (o := ({ dst := some 11, op := Op.call { callee := Callee.value (Operand.func 61), args := #[Operand.tmp 10, Operand.const (Value.int IntKind.i64 0)], argTypes := #[32, 3] }, type := 34, pos := "ref.go:92", after := #[{ on := 1, ground := Ground.data }], guard := none } : Oper)) rfl (fun K hK => ?_) ?_
  rotate_left
  · exact AllReadyH.nil
  go_simp
  go_at_call 61
  with_reducible refine (roperand_0 l oa len ca HLN.out _ hl hm (exsIn_below (below_step BW.out hsd) _ _ _ Hxs.out)).mono ?_
  rintro e y0 ⟨oA, nA, vA, aA, lA, cA, rfl, hIA, hq0⟩
  have hB0 := below_step hsd hq0
  clear hHeld
  first | (with_reducible refine hK.out _ _ ?_ (fun hHeld => ?_)) | (go_wp2_with fail; with_reducible refine hK.out _ _ ?_ (fun hHeld => ?_))
  · exact ⟨cell_below hB0 k0, cell_below hB0 k1, cell_below hB0 k2, hB0⟩
  clear hK K
  (try simp only [Act.put, List.setIfInBounds_toArray, List.set_cons_zero, List.set_cons_succ])
  refine wpAnyH_ready (rs := [5]) (by kernel_rfl) (by simp) ?_
  refine AllReadyH.cons (o := ({ dst := some 14, op := Op.call { callee := Callee.value (Operand.func 36), args := #[Operand.tmp 11, Operand.tmp 12, Operand.tmp 13], argTypes := #[34, 22, 22] }, type := 3, pos := "ref.go:92", after := #[{ on := 2, ground := Ground.data }, { on := 3, ground := Ground.data }, { on := 4, ground := Ground.data }, { on := 2, ground := Ground.chain }], guard := none } : Oper)) rfl (fun K hK => ?_) ?_
  rotate_left
  · exact AllReadyH.nil
  go_simp
  go_at_call 36
  with_reducible refine (A0.out _ _ _ _ hIA (intsIn_below (below_step BW.out hB0) Hv.out) (intsIn_below (below_step BW.out hB0) HL.out)).mono ?_
  rintro e y1 ⟨rfl, hq1⟩
  have hB1 := below_step hB0 hq1
  clear hHeld
  first | (with_reducible refine hK.out _ _ ?_ (fun hHeld => ?_)) | (go_wp2_with fail; with_reducible refine hK.out _ _ ?_ (fun hHeld => ?_))
  · exact ⟨cell_below hB1 k0, cell_below hB1 k1, cell_below hB1 k2, hB1⟩
  clear hK K
  (try simp only [Act.put, List.setIfInBounds_toArray, List.set_cons_zero, List.set_cons_succ])
  refine wpAnyH_ready (rs := [8]) (by kernel_rfl) (by simp) ?_
  refine AllReadyH.cons (o := ({ dst := some 17, op := Op.call { callee := Callee.value (Operand.func 61), args := #[Operand.tmp 16, Operand.const (Value.int IntKind.i64 1)], argTypes := #[32, 3] }, type := 34, pos := "ref.go:92", after := #[{ on := 7, ground := Ground.data }, { on := 5, ground := Ground.chain }], guard := none } : Oper)) rfl (fun K hK => ?_) ?_
  rotate_left
  · exact AllReadyH.nil
  go_simp
  go_at_call 61
  with_reducible refine (roperand_1 l oa len ca HLN.out _ hl hm (exsIn_below (below_step BW.out hB1) _ _ _ Hxs.out)).mono ?_
  rintro e y2 ⟨oB, nB, vB, aB, lB, cB, rfl, hIB, hq2⟩
  have hB2 := below_step hB1 hq2
  clear hHeld
  first | (with_reducible refine hK.out _ _ ?_ (fun hHeld => ?_)) | (go_wp2_with fail; with_reducible refine hK.out _ _ ?_ (fun hHeld => ?_))
  · exact ⟨cell_below hB2 k0, cell_below hB2 k1, cell_below hB2 k2, hB2⟩
  clear hK K
  (try simp only [Act.put, List.setIfInBounds_toArray, List.set_cons_zero, List.set_cons_succ])
  refine wpAnyH_ready (rs := [11]) (by kernel_rfl) (by simp) ?_
  refine AllReadyH.cons (o := ({ dst := some 20, op := Op.call { callee := Callee.value (Operand.func 36), args := #[Operand.tmp 17, Operand.tmp 18, Operand.tmp 19], argTypes := #[34, 22, 22] }, type := 3, pos := "ref.go:92", after := #[{ on := 8, ground := Ground.data }, { on := 9, ground := Ground.data }, { on := 10, ground := Ground.data }, { on := 8, ground := Ground.chain }], guard := none } : Oper)) rfl (fun K hK => ?_) ?_
  rotate_left
  · exact AllReadyH.nil
  go_simp
  go_at_call 36
  with_reducible refine (A1.out _ _ _ _ hIB (intsIn_below (below_step BW.out hB2) Hv.out) (intsIn_below (below_step BW.out hB2) HL.out)).mono ?_
  rintro e y3 ⟨rfl, hq3⟩
  have hB3 := below_step hB2 hq3
  clear hHeld
  first | (with_reducible refine hK.out _ _ ?_ (fun hHeld => ?_)) | (go_wp2_with fail; with_reducible refine hK.out _ _ ?_ (fun hHeld => ?_))
  · exact ⟨cell_below hB3 k0, cell_below hB3 k1, cell_below hB3 k2, hB3⟩
  clear hK K
  (try simp only [Act.put, List.setIfInBounds_toArray, List.set_cons_zero, List.set_cons_succ])
  refine wpAnyH_take (i := 12) (oi := ({ dst := some 7, op := Op.assign (Operand.tmp 14), type := 3, pos := "ref.go:92", after := #[{ on := 5, ground := Ground.data }, { on := 11, ground := Ground.chain }, { on := 0, ground := Ground.phase }, { on := 1, ground := Ground.phase }, { on := 2, ground := Ground.phase }, { on := 3, ground := Ground.phase }, { on := 4, ground := Ground.phase }, { on := 5, ground := Ground.phase }, { on := 6, ground := Ground.textOnly Departure.lateStores }, { on := 7, ground := Ground.textOnly Departure.lateStores }, { on := 8, ground := Ground.textOnly Departure.lateStoresUnsure }, { on := 9, ground := Ground.textOnly Departure.lateStores }, { on := 10, ground := Ground.textOnly Departure.lateStores }, { on := 11, ground := Ground.textOnly Departure.lateStoresUnsure }], guard := none } : Oper)) (v := ?_) rfl (by kernel_rfl) (by kernel_rfl) (by kernel_rfl) (fun _ _ _ h => h) (Or.inl ⟨by rfl, ?_⟩) (by assumption) ?_
  rotate_left
  · intro w hSw; (try dsimp only at hSw); go_simp <;> with_reducible rfl
  (try simp only [Act.put, List.setIfInBounds_toArray, List.set_cons_zero, List.set_cons_succ])
  refine wpAnyH_take (i := 13) (oi := ({ dst := some 8, op := Op.assign (Operand.tmp 20), type := 3, pos := "ref.go:92", after := #[{ on := 11, ground := Ground.data }, { on := 12, ground := Ground.chain }, { on := 0, ground := Ground.phase }, { on := 1, ground := Ground.phase }, { on := 2, ground := Ground.phase }, { on := 3, ground := Ground.phase }, { on := 4, ground := Ground.phase }, { on := 5, ground := Ground.phase }, { on := 6, ground := Ground.phase }, { on := 7, ground := Ground.phase }, { on := 8, ground := Ground.phase }, { on := 9, ground := Ground.phase }, { on := 10, ground := Ground.phase }, { on := 11, ground := Ground.phase }, { on := 12, ground := Ground.phase }], guard := none } : Oper)) (v := ?_) rfl (by kernel_rfl) (by kernel_rfl) (by kernel_rfl) (fun _ _ _ h => h) (Or.inl ⟨by rfl, ?_⟩) (by assumption) ?_
  rotate_left
  · intro w hSw; (try dsimp only at hSw); go_simp <;> with_reducible rfl
  (try simp only [Act.put, List.setIfInBounds_toArray, List.set_cons_zero, List.set_cons_succ])
  refine wpAnyH_done (by kernel_rfl) ?_ _
  have q0 := cell_below hB3 k0
  have q2 := cell_below hB3 k2
  have HB := hid (below_step BW.out hB3)
  obtain ⟨wy, hwy⟩ : ∃ wy, y3 = wy := ⟨_, rfl⟩
  rw [hwy] at q0 q2 HB ⊢
  clear hHeld hwy hsd k0 k1 k2 hB0 hB1 hB2 hB3 hq0 hq1 hq2 hq3 hIA hIB
  have QQ := hid q2
  by_cases e1 : op = 1
  · have c1 : (op == 1) = true := by rw [beq_iff_eq]; exact e1
    have HH := HR.out
    rw [if_pos e1] at HH
    have HZ := hid HH
    clear HH HR
    clear e1
    go_wp2
    go_ret
    exact ⟨ret_b HZ.out.symm, HB.out⟩
  have d1 := ne_b e1
  by_cases e2 : op = 2
  · have c1 : (op == 2) = true := by rw [beq_iff_eq]; exact e2
    have HH := HR.out
    rw [if_neg e1, if_pos e2] at HH
    have HZ := hid HH
    clear HH HR
    clear e1 e2
    go_wp2
    go_ret
    exact ⟨ret_b HZ.out.symm, HB.out⟩
  have d2 := ne_b e2
  by_cases e3 : op = 3
  · have c1 : (op == 3) = true := by rw [beq_iff_eq]; exact e3
    have HH := HR.out
    rw [if_neg e1, if_neg e2, if_pos e3] at HH
    have HZ := hid HH
    clear HH HR
    clear e1 e2 e3
    go_wp2
    go_ret
    exact ⟨ret_b HZ.out.symm, HB.out⟩
  have d3 := ne_b e3
  by_cases e4 : op = 4
  · have c1 : (op == 4) = true := by rw [beq_iff_eq]; exact e4
    have HH := HR.out
    rw [if_neg e1, if_neg e2, if_neg e3, if_pos e4] at HH
    have HZ := hid HH
    clear HH HR
    clear e1 e2 e3 e4
    go_wp2
    go_ret
    exact ⟨ret_b HZ.out.symm, HB.out⟩
  have d4 := ne_b e4
  by_cases e5 : op = 5
  · have c1 : (op == 5) = true := by rw [beq_iff_eq]; exact e5
    have HH := HR.out
    rw [if_neg e1, if_neg e2, if_neg e3, if_neg e4, if_pos e5] at HH
    have HZ := hid HH
    clear HH HR
    have J := hid (J0.out (Or.inl e5))
    clear e1 e2 e3 e4 e5
    go_wp2_with fail
    refine (rpart_0 r ob len2 cb HLN2.out _ hl2 hm2 (cdsIn_below HB.out _ _ _ Hcs.out)).mono ?_
    rintro e z1 ⟨o1, p1, p2, n1, n2, n3, n4, rfl, hI, hb⟩
    have B1 := hid (below_step HB.out hb)
    have HI := hid hI
    clear hI hb q0 q2
    go_wp2_with fail
    refine (J.out _ _ _ _ HI.out (intsIn_below B1.out Hv.out) (intsIn_below B1.out HL.out)).mono ?_
    rintro e z2 ⟨rfl, hb⟩
    have B2 := hid (below_step B1.out hb)
    clear hb
    go_wp2
    go_ret
    exact ⟨ret_b HZ.out.symm, B2.out⟩
  have d5 := ne_b e5
  by_cases e6 : op = 6
  · have c1 : (op == 6) = true := by rw [beq_iff_eq]; exact e6
    have HH := HR.out
    rw [if_neg e1, if_neg e2, if_neg e3, if_neg e4, if_neg e5, if_pos e6] at HH
    have HZ := hid HH
    clear HH HR
    have J := hid (J0.out (Or.inr (Or.inl e6)))
    have K := hid (J1.out (Or.inr (Or.inl e6)))
    clear e1 e2 e3 e4 e5 e6
    go_wp2_with fail
    refine (rpart_0 r ob len2 cb HLN2.out _ hl2 hm2 (cdsIn_below HB.out _ _ _ Hcs.out)).mono ?_
    rintro e z1 ⟨o1, p1, p2, n1, n2, n3, n4, rfl, hI, hb⟩
    have B1 := hid (below_step HB.out hb)
    have HI := hid hI
    clear q0 q2
    have q2 := cell_below hb QQ.out
    clear hI hb
    go_wp2_with fail
    refine (J.out _ _ _ _ HI.out (intsIn_below B1.out Hv.out) (intsIn_below B1.out HL.out)).mono ?_
    rintro e z2 ⟨rfl, hb⟩
    have B2 := hid (below_step B1.out hb)
    have q3 := cell_below hb q2
    clear hb q2
    cases hA with
    | false =>
      go_wp2
      go_ret
      exact ⟨ret_b HZ.out.symm, B2.out⟩
    | true =>
      go_wp2_with fail
      refine (rpart_1 r ob len2 cb HLN2.out _ hl2 hm2 (cdsIn_below B2.out _ _ _ Hcs.out)).mono ?_
      rintro e z3 ⟨o2, r1, r2, s1, s2, s3, s4, rfl, hI, hb⟩
      have B3 := hid (below_step B2.out hb)
      have HI2 := hid hI
      clear hI hb q3
      go_wp2_with fail
      refine (K.out _ _ _ _ HI2.out (intsIn_below B3.out Hv.out) (intsIn_below B3.out HL.out)).mono ?_
      rintro e z4 ⟨rfl, hb⟩
      have B4 := hid (below_step B3.out hb)
      clear hb
      go_wp2
      go_ret
      exact ⟨ret_b HZ.out.symm, B4.out⟩
  have d6 := ne_b e6
  by_cases e7 : op = 7
  · have c1 : (op == 7) = true := by rw [beq_iff_eq]; exact e7
    have HH := HR.out
    rw [if_neg e1, if_neg e2, if_neg e3, if_neg e4, if_neg e5, if_neg e6, if_pos e7] at HH
    have HZ := hid HH
    clear HH HR
    have J := hid (J0.out (Or.inr (Or.inr e7)))
    have K := hid (J1.out (Or.inr (Or.inr e7)))
    clear e1 e2 e3 e4 e5 e6 e7
    go_wp2_with fail
    refine (rpart_0 r ob len2 cb HLN2.out _ hl2 hm2 (cdsIn_below HB.out _ _ _ Hcs.out)).mono ?_
    rintro e z1 ⟨o1, p1, p2, n1, n2, n3, n4, rfl, hI, hb⟩
    have B1 := hid (below_step HB.out hb)
    have HI := hid hI
    clear q0 q2
    have q2 := cell_below hb QQ.out
    clear hI hb
    go_wp2_with fail
    refine (J.out _ _ _ _ HI.out (intsIn_below B1.out Hv.out) (intsIn_below B1.out HL.out)).mono ?_
    rintro e z2 ⟨rfl, hb⟩
    have B2 := hid (below_step B1.out hb)
    have q3 := cell_below hb q2
    clear hb q2
    cases hA with
    | true =>
      go_wp2
      go_ret
      exact ⟨ret_b HZ.out.symm, B2.out⟩
    | false =>
      go_wp2_with fail
      refine (rpart_1 r ob len2 cb HLN2.out _ hl2 hm2 (cdsIn_below B2.out _ _ _ Hcs.out)).mono ?_
      rintro e z3 ⟨o2, r1, r2, s1, s2, s3, s4, rfl, hI, hb⟩
      have B3 := hid (below_step B2.out hb)
      have HI2 := hid hI
      clear hI hb q3
      go_wp2_with fail
      refine (K.out _ _ _ _ HI2.out (intsIn_below B3.out Hv.out) (intsIn_below B3.out HL.out)).mono ?_
      rintro e z4 ⟨rfl, hb⟩
      have B4 := hid (below_step B3.out hb)
      clear hb
      go_wp2
      go_ret
      exact ⟨ret_b HZ.out.symm, B4.out⟩
  have d7 := ne_b e7
  have HH := HR.out
  rw [if_neg e1, if_neg e2, if_neg e3, if_neg e4, if_neg e5, if_neg e6, if_neg e7] at HH
  have HZ := hid HH
  clear HH HR
  clear e1 e2 e3 e4 e5 e6 e7
  go_wp2
  go_ret
  exact ⟨ret_b HZ.out.symm, HB.out⟩

theorem rholds_cd0 (V L : List Int) : RHoldsOk V L cd0 := rholds_step V L 0 [] [] (fun h => by omega)
theorem rholds_getD (V L : List Int) (r : List Cd) (IH : ∀ t, t ∈ r → RHoldsOk V L t) (k : Nat) : RHoldsOk V L (r.getD k cd0) := by
  rw [List.getD_eq_getElem?_getD]
  by_cases h : k < r.length
  · rw [List.getElem?_eq_getElem h]; exact IH _ (List.getElem_mem _)
  · rw [List.getElem?_eq_none (by omega)]; exact rholds_cd0 V L
mutual
theorem rholds_any (V L : List Int) : ∀ t, RHoldsOk V L t
  | .mk op l r => rholds_step V L op l r (fun _ => rholds_getD V L r (rholdss_any V L r))
theorem rholdss_any (V L : List Int) : ∀ (l : List Cd) (t : Cd), t ∈ l → RHoldsOk V L t
  | [], _, h => by cases h
  | u :: _, _, .head _ => rholds_any V L u
  | _ :: r, t, .tail _ h => rholdss_any V L r t h
end
end Go.Proofs.Ytpfcfaakdhamlaa

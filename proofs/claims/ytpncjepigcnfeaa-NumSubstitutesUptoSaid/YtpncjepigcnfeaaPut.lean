import Derived.Test.YtpncjepigcnfeaaQ
import Derived.Test.YtpncjepigcnfeaaExa
import Derived.Test.YtpncjepigcnfeaaOpen
import Derived.Deep.RegionHeld3
import Derived.Deep.AppendLies
namespace Go.Proofs.Ytpncjepigcnfeaa
open Go.RowKit Go.Instr
set_option linter.unusedVariables false

/-! 'paroleref01.Put': an expression in the place of a variable. -/
mutual
def putE (n : Int) (x : Ex) : Ex → Ex
  | .mk op m v l => if op = 2 ∧ m = n then x else .mk op m v (putsE n x l)
def putsE (n : Int) (x : Ex) : List Ex → List Ex
  | [] => []
  | t :: r => putE n x t :: putsE n x r
end
theorem putsE_length (n : Int) (x : Ex) : ∀ l, (putsE n x l).length = l.length
  | [] => by simp [putsE]
  | t :: r => by simp [putsE, putsE_length n x r]
theorem putsE_snoc (n : Int) (x : Ex) : ∀ (l : List Ex) (k : Nat) (t : Ex), l[k]? = some t → putsE n x (l.take (k + 1)) = putsE n x (l.take k) ++ [putE n x t]
  | [], k, t, h => by simp at h
  | u :: r, 0, t, h => by simp at h; subst h; simp [putsE]
  | u :: r, k + 1, t, h => by
    simp only [List.take_succ_cons, putsE, List.cons_append, List.cons.injEq, true_and]
    exact putsE_snoc n x r k t (by simpa using h)

theorem grown_of_below {w w' : World} (h : Below w.heap.size w w') (row : Option Nat) : w.grownBy w' row := ⟨h.os, h.tape, h.output, h.size, fun k hk _ => h.block k hk⟩
theorem exT_pos : ∀ t, 1 ≤ exT t
  | .mk _ _ _ l => by rw [exT]; omega
theorem exTs_len : ∀ l, l.length ≤ exTs l
  | [] => by simp [exTs]
  | t :: r => by have := exT_pos t; have := exTs_len r; rw [exTs, List.length_cons]; omega
theorem exTs_mem : ∀ (l : List Ex) (t : Ex), t ∈ l → exT t ≤ exTs l
  | [], _, h => by cases h
  | u :: r, _, .head _ => by rw [exTs]; omega
  | u :: r, t, .tail _ h => by have := exTs_mem r t h; rw [exTs]; omega

theorem info24 : (Try.prog.info? 24).map (fun i => (i.zero, i.size, i.bytes)) = some (some (.agg #[.int .i64 0, .int .i64 0, .int .i64 0, .slice none 0 0]), 4, 48) := by kernel_rfl

theorem put_round {B S g g2 : Nat} {wr w5 w6 : World} {O : Obj} (hBS : B ≤ S) (hge : S ≤ g) (hgl : g < wr.heap.size) (hb5 : Below wr.heap.size wr w5) (hgrow : (w5.alloc O).grownBy w6 (some g)) (hat : g2 = g ∨ g2 = w5.heap.size + 1) :
    (∀ b, ((b < B ∨ S ≤ b) ∧ b ≠ g) → b < wr.heap.size → ((b < B ∨ S ≤ b) ∧ b ≠ g2) ∧ w6.heap[b]? = wr.heap[b]?) ∧
    (∀ b, (b < B ∨ wr.heap.size ≤ b) → b < w5.heap.size → ((b < B ∨ S ≤ b) ∧ b ≠ g2) ∧ w6.heap[b]? = w5.heap[b]?) := by
  have hsz := hb5.size
  have key : ∀ b, b ≠ g → b < w5.heap.size → w6.heap[b]? = w5.heap[b]? := fun b hne hlt => by
    rw [hgrow.block b (by simp; omega) (by simpa using hne), Below.heap_alloc w5 O b hlt]
  refine ⟨fun b ⟨hq, hne⟩ hlt => ⟨⟨hq, by omega⟩, ?_⟩, fun b hq hlt => ⟨⟨by omega, by omega⟩, key b (by omega) hlt⟩⟩
  rw [key b hne (by omega), hb5.block b hlt]

/-- What 'Put' leaves: the new expression, in old blocks below B and in new ones. -/
def PutPost (B : Nat) (t : Ex) (w : World) (e : Ending) (w' : World) : Prop :=
  ∃ (o n v : Int) (a : Option Addr) (ln cp : Nat), e = .returned (.agg #[.int .i64 o, .int .i64 n, .int .i64 v, .slice a ln cp]) ∧ Below w.heap.size w w' ∧
    exQ (fun b => b < B ∨ w.heap.size ≤ b) w' t (.agg #[.int .i64 o, .int .i64 n, .int .i64 v, .slice a ln cp])

def PutOk (n : Int) (x : Ex) (t : Ex) : Prop := ∀ (B : Nat) (v y : Value) (w : World), B ≤ w.heap.size → exT t ≤ 1048576 → exQ (· < B) w t v → exQ (· < B) w x y →
  Calls Try.prog 35 #[v, .int .i64 n, y] w (PutPost B (putE n x t) w)

theorem five_block (wr : World) (S : Nat) (v0 v1 v2 v3 v4 : Value) (b : Nat) (h : b ≠ S) (h2 : b ≠ S + 1 + 1) :
    (((((wr.setCell ⟨S, 3, none⟩ v0).setCell ⟨S + 1 + 1, 0, none⟩ v1).setCell ⟨S + 1 + 1, 1, none⟩ v2).setCell ⟨S + 1 + 1, 2, none⟩ v3).setCell ⟨S + 1 + 1, 3, none⟩ v4).heap[b]? = wr.heap[b]? := by
  rw [Below.heap_setCell _ _ _ _ h2, Below.heap_setCell _ _ _ _ h2, Below.heap_setCell _ _ _ _ h2, Below.heap_setCell _ _ _ _ h2, Below.heap_setCell _ _ _ _ h]

theorem put_end {B g k cp : Nat} {op m v : Int} {w w3 wr : World} {L : List Ex} {ys : List Value} {v0 v1 v2 v3 v4 : Value} (hB : B ≤ w.heap.size) (hge : w.heap.size + 3 ≤ g) (hL : L.length = k)
    (hel : elemsQ (fun b => (b < B ∨ w.heap.size + 3 ≤ b) ∧ b ≠ g) wr L ys) (hown : wr.ownsRow (w.heap.size + 3) 24 4 (.slice (some ⟨g, 0, none⟩) k cp) k ys)
    (hb : Below (w.heap.size + 3) w3 wr) (hb3 : Below w.heap.size w w3) (hs3 : w3.heap.size = w.heap.size + 3) :
    PutPost B (.mk op m v L) w (.returned (.agg #[.int .i64 op, .int .i64 m, .int .i64 v, .slice (some ⟨g, 0, none⟩) k cp]))
      (((((wr.setCell ⟨w.heap.size, 3, none⟩ v0).setCell ⟨w.heap.size + 1 + 1, 0, none⟩ v1).setCell ⟨w.heap.size + 1 + 1, 1, none⟩ v2).setCell ⟨w.heap.size + 1 + 1, 2, none⟩ v3).setCell ⟨w.heap.size + 1 + 1, 3, none⟩ v4) := by
  subst hL
  have hkc : L.length ≤ cp ∧ cp ≤ 9223372036854775807 := by
    rcases hown.2 with ⟨h, -⟩ | ⟨g', cap, cur, hv, -, -, h1, h2, -⟩
    · cases h
    · simp only [Value.slice.injEq] at hv
      obtain ⟨-, -, rfl⟩ := hv
      unfold maxLen at h2
      exact ⟨h1, by omega⟩
  refine ⟨op, m, v, _, _, cp, rfl, (((((hb3.trans (hb.mono (by omega))).setCell (by simp) _).setCell (by simp; omega) _).setCell (by simp; omega) _).setCell (by simp; omega) _).setCell (by simp; omega) _, ?_⟩
  rw [exQ]
  refine ⟨_, cp, rfl, hkc.1, hkc.2, exsQ_of_row (by omega) L ys 0 (elemsQ_keep (fun b hq hlt => ⟨by omega, five_block _ _ _ _ _ _ _ _ (by omega) (by omega)⟩) _ _ hel) (fun j u hj => ?_)⟩
  have hc := hown.cells rfl j u hj
  rw [Go.WideShapes.add_plain, Nat.zero_add] at hc
  rw [Nat.zero_mul, Nat.zero_add]
  exact cell_same (five_block _ _ _ _ _ _ _ _ (by simp; omega) (by simp; omega)) hc

set_option maxRecDepth 100000 in
set_option maxHeartbeats 1000000 in
theorem put_step (n : Int) (x : Ex) (op m v : Int) (l : List Ex) (IH : ∀ t, t ∈ l → PutOk n x t) : PutOk n x (.mk op m v l) := by
  intro B u y w hB hsz hu hy
  obtain ⟨xo, xn, xv, xl⟩ := x
  have hx := hy
  rw [exQ] at hu hy
  obtain ⟨oa, cap, rfl, hl, hm, hxs⟩ := hu
  obtain ⟨ob, cb, rfl, hl2, hm2, hxs2⟩ := hy
  rw [putE]
  by_cases hput : op = 2 ∧ m = n
  · rw [if_pos hput]
    obtain ⟨rfl, rfl⟩ := hput
    have Hx := hid hx; clear hx hxs hxs2 IH
    go_enter Try.func35, Try.ntmps35
    go_wp2
    refine bodyPost_ret (v := .agg #[.int .i64 xo, .int .i64 xn, .int .i64 xv, .slice ob xl.length cb]) (by simp [results, Try.results35, go_sem]) rfl ?_
    refine ⟨_, _, _, _, _, _, rfl, (((Below.refl _ _).alloc (Nat.le_refl _) _).alloc (by simp) _).alloc (by simp; omega) _, ?_⟩
    exact exQ_keep (fun b hb hlt => ⟨.inl hb, ((((Below.refl _ _).alloc (Nat.le_refl _) _).alloc (by simp) _).alloc (by simp; omega) _).block b hlt⟩) _ _ Hx.out
  · rw [if_neg hput]
    obtain ⟨w3, hw3⟩ : ∃ w3, ((w.alloc (.cells #[.int .i64 op, .int .i64 m, .int .i64 v, .slice oa l.length cap] 24)).alloc (.cells #[.int .i64 xo, .int .i64 xn, .int .i64 xv, .slice ob xl.length cb] 24)).alloc (.cells #[.int .i64 0, .int .i64 0, .int .i64 0, .slice none 0 0] 24) = w3 := ⟨_, rfl⟩
    have hb3 : Below w.heap.size w w3 := by rw [← hw3]; exact (((Below.refl _ _).alloc (Nat.le_refl _) _).alloc (by simp) _).alloc (by simp; omega) _
    have hs3 : w3.heap.size = w.heap.size + 3 := by rw [← hw3]; simp
    have g3 : w3.cell? ⟨w.heap.size, 3, none⟩ = some (.slice oa l.length cap) := by rw [← hw3]; simp [go_sem]
    have k0 : w3.cell? ⟨w.heap.size + 1, 0, none⟩ = some (.int .i64 xo) := by rw [← hw3]; simp [go_sem]
    have k1 : w3.cell? ⟨w.heap.size + 1, 1, none⟩ = some (.int .i64 xn) := by rw [← hw3]; simp [go_sem]
    have k2 : w3.cell? ⟨w.heap.size + 1, 2, none⟩ = some (.int .i64 xv) := by rw [← hw3]; simp [go_sem]
    have k3 : w3.cell? ⟨w.heap.size + 1, 3, none⟩ = some (.slice ob xl.length cb) := by rw [← hw3]; simp [go_sem]
    have n0 : w3.cell? ⟨w.heap.size + 2, 0, none⟩ = some (.int .i64 0) := by rw [← hw3]; simp [go_sem]
    have n1 : w3.cell? ⟨w.heap.size + 2, 1, none⟩ = some (.int .i64 0) := by rw [← hw3]; simp [go_sem]
    have n2 : w3.cell? ⟨w.heap.size + 2, 2, none⟩ = some (.int .i64 0) := by rw [← hw3]; simp [go_sem]
    have n3 : w3.cell? ⟨w.heap.size + 2, 3, none⟩ = some (.slice none 0 0) := by rw [← hw3]; simp [go_sem]
    have f0 : ∀ j, w3.frozen? ⟨w.heap.size, j, none⟩ = false := by intro j; rw [← hw3]; simp [go_sem]
    have f2 : ∀ j, w3.frozen? ⟨w.heap.size + 2, j, none⟩ = false := by intro j; rw [← hw3]; simp [go_sem]
    have m0 : w3.cell? ⟨w.heap.size, 0, none⟩ = some (.int .i64 op) := by rw [← hw3]; simp [go_sem]
    have m1 : w3.cell? ⟨w.heap.size, 1, none⟩ = some (.int .i64 m) := by rw [← hw3]; simp [go_sem]
    have m2 : w3.cell? ⟨w.heap.size, 2, none⟩ = some (.int .i64 v) := by rw [← hw3]; simp [go_sem]
    have Hxs := hid (exsQ_keep (Q' := (· < B)) (fun b hb hlt => ⟨hb, hb3.block b hlt⟩) _ _ _ hxs)
    have Hx := hid (exQ_keep (Q' := (· < B)) (fun b hb hlt => ⟨hb, hb3.block b hlt⟩) _ _ hx)
    clear hxs hx hxs2
    have HI := hid IH; clear IH
    have Hlen := hid (putsE_length n (.mk xo xn xv xl) l)
    rw [exT] at hsz
    have Hsz := hid hsz; clear hsz
    obtain ⟨len, hlen⟩ : ∃ len, l.length = len := ⟨_, rfl⟩
    rw [hlen] at hl g3 hw3 ⊢
    have Hl := hid hlen; clear hlen
    have Hw3 := hid hw3; clear hw3
    have Hb3 := hid hb3; clear hb3
    have Hs3 := hid hs3; clear hs3
    have G3 := hid g3; clear g3
    have K0 := hid k0; clear k0
    have K1 := hid k1; clear k1
    have K2 := hid k2; clear k2
    have K3 := hid k3; clear k3
    have N0 := hid n0; clear n0
    have N1 := hid n1; clear n1
    have N2 := hid n2; clear n2
    have N3 := hid n3; clear n3
    have F0 := hid f0; clear f0
    have F2 := hid f2; clear f2
    have M0 := hid m0; clear m0
    have M1 := hid m1; clear m1
    have M2 := hid m2; clear m2
    have hop : (op == 2) = false ∨ ((op == 2) = true ∧ (m == n) = false) := by
      by_cases h : op = 2
      · exact .inr ⟨by simp [h], ne_b (fun e => hput ⟨h, e⟩)⟩
      · exact .inl (ne_b h)
    clear hput
    obtain ⟨i0, hi, hz0, hz1, hz2⟩ := info_parts info24
    rcases hop with hop | ⟨hop, hmn⟩
    all_goals
      go_enter Try.func35, Try.ntmps35
      go_wp2_with fail
      rw [Hw3.out]
      clear hop
      go_loopw [7, 8] (fun u i wr => ∃ (k g cp : Nat) (ys : List Value), k ≤ len ∧ i = .int .i64 k ∧ u = .slice (some ⟨g, 0, none⟩) k cp ∧ w.heap.size + 3 ≤ g ∧ g < wr.heap.size ∧
          wr.ownsRow (w.heap.size + 3) 24 4 u k ys ∧ elemsQ (fun b => (b < B ∨ w.heap.size + 3 ≤ b) ∧ b ≠ g) wr (putsE n (.mk xo xn xv xl) (l.take k)) ys ∧ Below (w.heap.size + 3) w3 wr) (fun _ i _ => len - (intOf i).toNat)
      case atStart =>
        refine ⟨0, w.heap.size + 3, 0, [], Nat.zero_le _, rfl, rfl, Nat.le_refl _, by have := Hs3.out; simp; omega, ⟨rfl, .inr ⟨w.heap.size + 3, 0, #[], rfl, Nat.le_refl _, ?_, Nat.le_refl _, by simp [maxLen], rfl, rfl⟩⟩, rfl, (Below.refl _ _).alloc (by have := Hs3.out; omega) _⟩
        rw [← Hs3.out]
        exact (MapKept.heap_alloc w3 _).1
      case round =>
        obtain ⟨k, g, cp, ys, hk, rfl, rfl, hge, hgl, hown, hel, hb⟩ := hrel
        have c3 := (hb.cell (p := ⟨w.heap.size, 3, none⟩) (by simp)).trans G3.out
        by_cases hlt : k < len
        · obtain ⟨t, ht⟩ : ∃ t, l[k]? = some t := ⟨_, List.getElem?_eq_getElem (by have := Hl.out; omega)⟩
          obtain ⟨b, off, rfl, hbB, hall⟩ := exsQ_all Hxs.out (by intro h; subst h; have := Hl.out; simp at this; omega)
          obtain ⟨o', n', v', a', ln', cp', c0, c1, c2, c4, hin⟩ := hall k t ht
          have hsn := hid (putsE_snoc n (.mk xo xn xv xl) l k t ht)
          have hti := fun W (hB' : Below (w.heap.size + 3) w3 W) => HI.out t (List.mem_of_getElem? ht) B _ _ W (by have := hB'.size; have := Hs3.out; omega) (by have := exTs_mem l t (List.mem_of_getElem? ht); have := Hsz.out; omega)
            (exQ_keep (Q' := (· < B)) (fun b hb hlt => ⟨hb, hB'.block b (by omega)⟩) _ _ hin) (exQ_keep (Q' := (· < B)) (fun b hb hlt => ⟨hb, hB'.block b (by omega)⟩) _ _ Hx.out)
          have Hti := hid hti; clear hti
          have hkeep : ∀ W, Below (w.heap.size + 3) w3 W → W.cell? ⟨w.heap.size, 3, none⟩ = some (.slice (some ⟨b, off, none⟩) len cap) ∧ W.cell? ⟨b, off + k * 4, none⟩ = some (.int .i64 o') ∧ W.cell? ⟨b, off + k * 4 + 1, none⟩ = some (.int .i64 n') ∧
              W.cell? ⟨b, off + k * 4 + 2, none⟩ = some (.int .i64 v') ∧ W.cell? ⟨b, off + k * 4 + 3, none⟩ = some (.slice a' ln' cp') ∧ W.cell? ⟨w.heap.size + 1, 0, none⟩ = some (.int .i64 xo) ∧ W.cell? ⟨w.heap.size + 1, 1, none⟩ = some (.int .i64 xn) ∧
              W.cell? ⟨w.heap.size + 1, 2, none⟩ = some (.int .i64 xv) ∧ W.cell? ⟨w.heap.size + 1, 3, none⟩ = some (.slice ob xl.length cb) ∧ Below (w.heap.size + 3) w3 W := fun W hW =>
            ⟨(hW.cell (by simp)).trans G3.out, (hW.cell (by simp; omega)).trans c0, (hW.cell (by simp; omega)).trans c1, (hW.cell (by simp; omega)).trans c2, (hW.cell (by simp; omega)).trans c4,
              (hW.cell (by simp)).trans K0.out, (hW.cell (by simp)).trans K1.out, (hW.cell (by simp)).trans K2.out, (hW.cell (by simp)).trans K3.out, hW⟩
          have Hkeep := hid hkeep; clear hkeep
          have hklt : (k : Int) < (len : Int) := by omega
          have hbd : len ≤ 1048576 := by have := exTs_len l; have := Hsz.out; have := Hl.out; omega
          clear c0 c1 c2 c4 hin ht hall
          have Hel := hid hel; clear hel
          have Hown := hid hown; clear hown
          go_wp2_with fail
          clear c3
          have hs := hb.drew
          have Hb := hid hb; clear hb
          go_region_held3 (fun W => W.cell? ⟨w.heap.size, 3, none⟩ = some (.slice (some ⟨b, off, none⟩) len cap) ∧ W.cell? ⟨b, off + k * 4, none⟩ = some (.int .i64 o') ∧ W.cell? ⟨b, off + k * 4 + 1, none⟩ = some (.int .i64 n') ∧
              W.cell? ⟨b, off + k * 4 + 2, none⟩ = some (.int .i64 v') ∧ W.cell? ⟨b, off + k * 4 + 3, none⟩ = some (.slice a' ln' cp') ∧ W.cell? ⟨w.heap.size + 1, 0, none⟩ = some (.int .i64 xo) ∧ W.cell? ⟨w.heap.size + 1, 1, none⟩ = some (.int .i64 xn) ∧
              W.cell? ⟨w.heap.size + 1, 2, none⟩ = some (.int .i64 xv) ∧ W.cell? ⟨w.heap.size + 1, 3, none⟩ = some (.slice ob xl.length cb) ∧ Below (w.heap.size + 3) w3 W)
            (first | exact Hkeep.out _ (by assumption) | exact Hkeep.out _ (Below.alloc (by assumption) (by have := Hz.out.size; have := Hs3.out; omega) _))
            (first
              | (go_at_call 35; refine (Hti.out _ (by assumption)).mono ?_; rintro e w5 ⟨o5, n5, v5, a5, l5, c5, rfl, hb5, hq5⟩; have hz5 : Below (w.heap.size + 3) w3 w5 := Below.trans hs (hb5.mono (by have := hs.size; have := Hs3.out; simp at this ⊢; omega)); have Hz := hid hz5; have Hown5 := hid (World.ownsRow.kept (w := wr.drew) Hown.out (grown_of_below hb5 none) (.inr (by simp [Value.ownBlock]))); have H5 := hid hb5; have Hq5 := hid hq5; clear hb5 hq5)
              | (refine step_append_lies _ (by rfl) (.tmp 27) (.tmp 36) 22 (by rfl) (w.heap.size + 3) 24 i0 _ 4 48 Try.underlying22 hi hz0 hz1 hz2 (by rfl) (by decide) (.slice (some ⟨g, 0, none⟩) k cp) k ys (by rfl) (Hown5.out.alloc _) ⟨w5.heap.size, 0, none⟩ 1 1 [.int .i64 o5, .int .i64 n5, .int .i64 v5, .slice a5 l5 c5] (by rfl) (by simp) (World.news_of_block (heap_alloc_new w5 _)) (by intro u hu; simp at hu; rcases hu with rfl | rfl | rfl | rfl <;> rfl) (by omega) (by unfold maxLen; omega) (by omega) (by have := Hz.out.size; have := Hs3.out; simp; omega) (w5.heap.size + 1) (by simp) ?_; intro g2 cp2 w6 hown6 hgrow6 hat6 hlt6; have hz6 : Below (w.heap.size + 3) w3 w6 := Below.grown (Below.alloc Hz.out (by have := Hz.out.size; have := Hs3.out; omega) (.cells #[.int .i64 o5, .int .i64 n5, .int .i64 v5, .slice a5 l5 c5] 24)) hgrow6 (by have := Hz.out.size; have := Hs3.out; simp; omega) (by intro q hq; simp [Value.ownBlock] at hq; omega)))
          have h5' : Below wr.heap.size wr w5 := ⟨H5.out.os, H5.out.tape, H5.out.output, H5.out.size, H5.out.block⟩
          have hpr := put_round (B := B) (S := w.heap.size + 3) (wr := wr) (g2 := g2) (by omega) hge hgl h5' hgrow6 (by rcases hat6 with h | h; exact .inl (by simpa [Value.ownBlock] using h.symm); exact .inr h)
          have hel2 := elemsQ_snoc (exQ_keep hpr.2 _ _ Hq5.out) _ _ (elemsQ_keep hpr.1 _ _ Hel.out)
          rw [← hsn.out] at hel2
          have Hel2 := hid hel2; clear hel2
          have Hown6 := hid hown6; clear hown6
          clear hpr hgrow6 hat6 hz5 hs h5'
          go_wp2
          go_roundw
          case rel => exact ⟨k + 1, g2, cp2, _, by omega, by go_num, rfl, by have := Hown6.out.lt g2 rfl; omega, hlt6, Hown6.out, Hel2.out, hz6⟩
          case measure => simp [intOf]; omega
        · have hkl : k = len := by omega
          subst hkl
          have p3 := (hb.cell (p := ⟨w.heap.size, 0, none⟩) (by simp)).trans M0.out
          have p4 := (hb.cell (p := ⟨w.heap.size, 1, none⟩) (by simp)).trans M1.out
          have p5 := (hb.cell (p := ⟨w.heap.size, 2, none⟩) (by simp)).trans M2.out
          have q0 := (hb.cell (p := ⟨w.heap.size + 2, 0, none⟩) (by simp)).trans N0.out
          have q1 := (hb.cell (p := ⟨w.heap.size + 2, 1, none⟩) (by simp)).trans N1.out
          have q2 := (hb.cell (p := ⟨w.heap.size + 2, 2, none⟩) (by simp)).trans N2.out
          have q3 := (hb.cell (p := ⟨w.heap.size + 2, 3, none⟩) (by simp)).trans N3.out
          have f3 := (hb.frozen (p := ⟨w.heap.size, 3, none⟩) (by simp)).trans (F0.out 3)
          have r0 := (hb.frozen (p := ⟨w.heap.size + 2, 0, none⟩) (by simp)).trans (F2.out 0)
          have r1 := (hb.frozen (p := ⟨w.heap.size + 2, 1, none⟩) (by simp)).trans (F2.out 1)
          have r2 := (hb.frozen (p := ⟨w.heap.size + 2, 2, none⟩) (by simp)).trans (F2.out 2)
          have r3 := (hb.frozen (p := ⟨w.heap.size + 2, 3, none⟩) (by simp)).trans (F2.out 3)
          have Hel := hid hel; clear hel
          have Hown := hid hown; clear hown
          have Hb := hid hb; clear hb
          go_wp2
          refine bodyPost_ret (v := .agg #[.int .i64 op, .int .i64 m, .int .i64 v, .slice (some ⟨g, 0, none⟩) k cp]) (by simp [results, Try.results35, go_sem, q0, q1, q2, q3]) rfl ?_
          exact put_end hB hge (by have := Hlen.out; have := Hl.out; omega) (by have := Hl.out; rw [List.take_of_length_le (by omega)] at Hel; exact Hel.out) Hown.out Hb.out Hb3.out Hs3.out

mutual
theorem put_any (n : Int) (x : Ex) : ∀ t, PutOk n x t
  | .mk op m v l => put_step n x op m v l (puts_any n x l)
theorem puts_any (n : Int) (x : Ex) : ∀ (l : List Ex) (t : Ex), t ∈ l → PutOk n x t
  | [], _, h => by cases h
  | u :: _, _, .head _ => put_any n x u
  | _ :: r, t, .tail _ h => puts_any n x r t h
end
end Go.Proofs.Ytpncjepigcnfeaa

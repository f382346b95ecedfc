import Derived.Test.YtcjambgbbmffiaaDepc
import Derived.Test.YtcjambgbbmffiaaSizc
import Derived.Laws.AppendOwn
import Derived.Laws.AppendOwnNone
import Derived.Laws.OwnMore
namespace Go.Proofs.Ytcjambgbbmffiaa
open Go.RowKit Go.Instr
set_option linter.unusedVariables false

/-! 'num.appendReads'. -/
mutual
/-- What an expression reads, in the order in which it is met. -/
def rdE : Ex → List Int
  | .mk op n _ l => if op = 2 ∧ 0 ≤ n then [n] else if 4 ≤ op ∧ op ≤ 10 then ((rdsE l).take 2).flatten else []
def rdsE : List Ex → List (List Int)
  | [] => []
  | t :: r => rdE t :: rdsE r
end
def i64s (l : List Int) : List Value := l.map fun z => .int .i64 z
theorem i64s_len (l : List Int) : (i64s l).length = l.length := by simp [i64s]
theorem i64s_append (a b : List Int) : i64s (a ++ b) = i64s a ++ i64s b := by simp [i64s]
theorem rdsE_length : ∀ l, (rdsE l).length = l.length
  | [] => by simp [rdsE]
  | t :: r => by simp [rdsE, rdsE_length r]
theorem rdsE_at : ∀ (l : List Ex) (k : Nat) (t : Ex), l[k]? = some t → (rdsE l)[k]? = some (rdE t)
  | [], k, t, h => by simp at h
  | u :: r, 0, t, h => by simp at h; subst h; simp [rdsE]
  | u :: r, k + 1, t, h => by simp only [rdsE, List.getElem?_cons_succ]; exact rdsE_at r k t (by simpa using h)
theorem flat_take (l : List (List Int)) (k : Nat) (x : List Int) (h : l[k]? = some x) : (l.take (k + 1)).flatten = (l.take k).flatten ++ x := by
  rw [List.take_add_one, h, Option.toList_some, List.flatten_append]; simp
theorem flat_len (l : List (List Int)) (k : Nat) : (l.take k).flatten.length ≤ l.flatten.length := by
  conv => rhs; rw [← List.take_append_drop k l]
  rw [List.flatten_append, List.length_append]; omega
theorem own_below {w w' : World} {base : Nat} {e : TypeId} {size : Nat} {v : Value} {n : Nat} {xs : List Value} (h : w.ownsRow base e size v n xs) (hb : Below w.heap.size w w') : w'.ownsRow base e size v n xs := by
  refine ⟨h.1, ?_⟩
  rcases h.2 with hn | ⟨g, cap, cur, rfl, h1, h2, rest⟩
  · exact .inl hn
  · exact .inr ⟨g, cap, cur, rfl, h1, (hb.block g (Array.getElem?_eq_some_iff.1 h2).1).trans h2, rest⟩
theorem below_a {w w' : World} (h : Below w.heap.size w w') (o : Obj) : Below w.heap.size w (w'.alloc o) := h.alloc h.size o
theorem infoInt : (Try.prog.info? 3).map (fun i => (i.zero, i.size, i.bytes)) = some (some (.int .i64 0), 1, 8) := by kernel_rfl
theorem info_int : ∃ i, Try.prog.info? 3 = some i ∧ i.zero = some (.int .i64 0) ∧ i.size = 1 ∧ i.bytes = 8 := by
  have h := infoInt
  rcases hi : Try.prog.info? 3 with - | i
  · rw [hi] at h; cases h
  · rw [hi] at h
    simp only [Option.map_some, Option.some.injEq, Prod.mk.injEq] at h
    exact ⟨i, rfl, h.1, h.2.1, h.2.2⟩
theorem one_new (W : World) (u : Value) (t : TypeId) : ∀ (j : Nat) (x : Value), [u][j]? = some x → (W.alloc (.cells #[u] t)).cell? ((⟨W.heap.size, 0, none⟩ : Addr).add j) = some x := by
  intro j x hj
  have hlt := (List.getElem?_eq_some_iff.1 hj).1
  simp at hlt
  subst hlt
  obtain rfl := Option.some.inj hj
  simp [Addr.add, go_sem]
theorem one_newN (W : World) (k : Nat) (u : Value) (t : TypeId) (hk : W.heap.size = k) : ∀ (j : Nat) (x : Value), [u][j]? = some x → (W.alloc (.cells #[u] t)).cell? ((⟨k, 0, none⟩ : Addr).add j) = some x := by
  subst hk; exact one_new W u t
theorem one_val (x : Int) : ∀ u ∈ [Value.int .i64 x], u.oneCell' = true := by intro u hu; obtain rfl := List.mem_singleton.1 hu; simp [Value.oneCell']

/-- What 'num.appendReads' leaves for this expression: it lies in the memory of w0, the row is the call's own. -/
def AppOk (t : Ex) : Prop := ∀ (w0 : World) (x v : Value) (n m : Nat) (xs : List Int) (w : World), exIn w0 t x → Below w0.heap.size w0 w → w.ownsRow w0.heap.size 3 1 v n (i64s xs) → n + (rdE t).length = m → m ≤ 2000000 →
  Calls Try.prog 47 #[v, x] w fun e w' => ∃ v', e = .returned v' ∧ w'.ownsRow w0.heap.size 3 1 v' m (i64s (xs ++ rdE t)) ∧ Below w0.heap.size w0 w'

set_option maxHeartbeats 1000000 in
theorem app_step (op n v : Int) (l : List Ex) (IH : ∀ t, t ∈ l → AppOk t) : AppOk (.mk op n v l) := by
  intro w0 x sv nn m xs w hx hb hown hm hmm
  obtain ⟨i0, hi0, hz0, hz1, hz2⟩ := info_int
  rw [exIn] at hx
  obtain ⟨oa, cap, rfl, hl, hmx, hxs⟩ := hx
  rw [rdE] at hm ⊢
  have HI := hid IH; clear IH
  have HB := hid hb; clear hb
  have HO := hid hown; clear hown
  have HM := hid hm; clear hm
  by_cases h : op = 2 ∧ 0 ≤ n
  · obtain ⟨rfl, h0⟩ := h
    have HM2 := HM.out
    rw [if_pos ⟨rfl, h0⟩] at HM2
    rw [if_pos ⟨rfl, h0⟩]
    have HM3 := hid (show nn + 1 = m by simpa using HM2)
    have c0 : decide (0 ≤ n) = true := by simpa using h0
    have hsz := HB.out.size
    clear HM HM2 hxs HI
    obtain ⟨len, hlen⟩ : ∃ len, l.length = len := ⟨_, rfl⟩
    rw [hlen] at hl ⊢
    clear hlen
    go_enter Try.func47, Try.ntmps47
    go_wp2_with (at_builtin; go_must (with_reducible refine wpList_append_own _ rfl (.tmp 15) (.tmp 18) 28 rfl w0.heap.size 3 i0 (.int .i64 0) 1 8 Try.underlying28 hi0 hz0 hz1 hz2 rfl (by decide) sv nn (i64s xs) rfl ((HO.out.alloc _).alloc _) _ 1 1 [.int .i64 n] rfl rfl (one_newN _ (w.heap.size + 1) _ _ (by simp)) (one_val _) (by have := HM3.out; unfold maxLen; omega) (by have := HM3.out; omega) (by simp; omega) ?_))
    intro v1 w1 hown hg hnil
    have HB1 := hid (show Below w0.heap.size w0 w1 from (((HB.out.alloc hsz _).alloc (by simp; omega) _).grown hg (by simp; omega) (fun k hk => (HO.out.lt k hk).1)))
    have HO1 := hid (show w1.ownsRow w0.heap.size 3 1 v1 m (i64s (xs ++ [n])) by rw [i64s_append, ← HM3.out]; exact hown)
    have k0 : w1.cell? ⟨w.heap.size, 0, none⟩ = some (.int .i64 2) := hg.cell (by simp [go_sem]) (fun hk => by have := (HO.out.lt _ hk.symm).2; simp at this)
    have k1 : w1.cell? ⟨w.heap.size, 1, none⟩ = some (.int .i64 n) := hg.cell (by simp [go_sem]) (fun hk => by have := (HO.out.lt _ hk.symm).2; simp at this)
    have k2 : w1.cell? ⟨w.heap.size, 2, none⟩ = some (.int .i64 v) := hg.cell (by simp [go_sem]) (fun hk => by have := (HO.out.lt _ hk.symm).2; simp at this)
    have k3 : w1.cell? ⟨w.heap.size, 3, none⟩ = some (.slice oa len cap) := hg.cell (by simp [go_sem]) (fun hk => by have := (HO.out.lt _ hk.symm).2; simp at this)
    clear hown hg hnil
    go_wp2_with fail
    refine (operands_any 2 n v oa len cap hl hmx _).mono ?_
    rintro e w2 ⟨⟨-, he⟩, hb2⟩
    have := he (by omega)
    subst this
    clear he
    have HO2 := hid (own_below HO1.out hb2)
    have HB2 := hid (HB1.out.trans (hb2.mono HB1.out.size))
    clear hb2 k0 k1 k2 k3
    go_wp2_with fail
    go_loopw [0, 23] (fun d i wr => i = .int .i64 0 ∧ d = v1 ∧ Hid (wr.ownsRow w0.heap.size 3 1 v1 m (i64s (xs ++ [n]))) ∧ Below w0.heap.size w0 wr) (fun _ _ _ => 0)
    case atStart => exact ⟨rfl, rfl, HO2, HB2.out⟩
    case round =>
      obtain ⟨rfl, rfl, ho, hbr⟩ := hrel
      go_wp2
      go_ret
      exact ⟨_, rfl, ho.out, hbr⟩
  · rw [if_neg h] at HM ⊢
    by_cases h4 : 4 ≤ op ∧ op ≤ 10
    · rw [if_pos h4] at HM ⊢
      have H := hid h4
      have hA : (decide (op = 2) && decide (0 ≤ n)) = false := by simp; omega
      have ho2 : (op == 2) = false := by rw [beq_eq_false_iff_ne]; omega
      have hsz := HB.out.size
      clear h h4 hA
      by_cases hne : l = []
      · subst hne
        simp only [List.length_nil, rdsE, List.take_nil, List.flatten_nil, List.append_nil, Nat.add_zero] at *
        have HM3 := HM.out
        subst HM3
        clear hxs HI HM
        go_enter Try.func47, Try.ntmps47
        go_wp2_with fail
        refine (operands_any op n v oa 0 cap hl hmx _).mono ?_
        rintro e w1 ⟨⟨he, -⟩, hb1⟩
        have := he H.out
        subst this
        clear he
        have hbb := below_step (below_a (Below.refl w.heap.size w) _) hb1
        have HB1 := hid (HB.out.trans (hbb.mono HB.out.size))
        have HO1 := hid (own_below HO.out hbb)
        clear hb1 hbb
        simp only [Nat.zero_min]
        go_wp2_with fail
        go_loopw [0, 23] (fun d i wr => i = .int .i64 0 ∧ d = sv ∧ Hid (wr.ownsRow w0.heap.size 3 1 sv nn (i64s xs)) ∧ Below w0.heap.size w0 wr) (fun _ _ _ => 0)
        case atStart => exact ⟨rfl, rfl, HO1, HB1.out⟩
        case round =>
          obtain ⟨rfl, rfl, ho, hbr⟩ := hrel
          go_wp2
          go_ret
          exact ⟨_, rfl, ho.out, hbr⟩
      · obtain ⟨b, off, rfl, hall⟩ := exsIn_all hxs hne
        have Hall := hid hall; clear hall
        have Hlen := hid (rdsE_length l)
        obtain ⟨len, hlen⟩ : ∃ len, l.length = len := ⟨_, rfl⟩
        rw [hlen] at hl ⊢
        have Hl := hid hlen; clear hlen
        clear hxs hne
        go_enter Try.func47, Try.ntmps47
        go_wp2_with fail
        refine (operands_any op n v _ len cap hl hmx _).mono ?_
        rintro e w1 ⟨⟨he, -⟩, hb1⟩
        have := he H.out
        subst this
        clear he
        have hbb := below_step (below_a (Below.refl w.heap.size w) _) hb1
        have HB1 := hid (HB.out.trans (hbb.mono HB.out.size))
        have HO1 := hid (own_below HO.out hbb)
        clear hb1 hbb
        obtain ⟨q, hlm, hlm2⟩ : ∃ q, min len 2 = q ∧ q ≤ len := ⟨_, rfl, by omega⟩
        rw [hlm]
        have Hlm := hid hlm; clear hlm
        have hend : (rdsE l).take 2 = (rdsE l).take q := by
          have h1 := Hlen.out
          have h2 := Hlm.out
          have h3 := Hl.out
          by_cases h4 : len ≤ 2
          · rw [List.take_of_length_le (by omega), List.take_of_length_le (by omega)]
          · rw [show q = 2 by omega]
        rw [hend] at HM
        have Hend := hid hend; clear hend
        go_wp2_with fail
        go_loopw [0, 23] (fun d i wr => ∃ (k c : Nat), k ≤ q ∧ i = .int .i64 k ∧ nn + ((rdsE l).take k).flatten.length = c ∧ Hid (wr.ownsRow w0.heap.size 3 1 d c (i64s (xs ++ ((rdsE l).take k).flatten))) ∧ Below w0.heap.size w0 wr) (fun _ i _ => q - (intOf i).toNat)
        case atStart => exact ⟨0, nn, Nat.zero_le _, rfl, by simp, hid (by simpa using HO1.out), HB1.out⟩
        case round =>
          obtain ⟨k, c, hk, rfl, hc, ho, hbr⟩ := hrel
          by_cases hlt : k < q
          · obtain ⟨t, ht⟩ : ∃ t, l[k]? = some t := ⟨_, List.getElem?_eq_getElem (by have := Hl.out; omega)⟩
            obtain ⟨o', n', v', a', ln', cp', c0, c1, c2, c3, hin⟩ := Hall.out k t ht
            have htake := hid (flat_take _ _ _ (rdsE_at l k t ht))
            have hle : c + (rdE t).length ≤ m := by
              have h1 := HM.out
              have h2 := htake.out
              have h3 := flat_len ((rdsE l).take q) (k + 1)
              rw [List.take_take, Nat.min_eq_left (by omega), h2, List.length_append] at h3
              omega
            obtain ⟨c', hc'⟩ : ∃ c', c + (rdE t).length = c' := ⟨_, rfl⟩
            have HC := hid (show nn + ((rdsE l).take (k + 1)).flatten.length = c' by rw [htake.out, List.length_append]; omega)
            have hti := fun (W : World) (hB : Below w0.heap.size w0 W) (hW : W.ownsRow w0.heap.size 3 1 u0 c (i64s (xs ++ ((rdsE l).take k).flatten))) => HI.out t (List.mem_of_getElem? ht) w0 _ _ c c' (xs ++ ((rdsE l).take k).flatten) W hin hB hW hc' (by omega)
            have e0 := cell_below hbr c0
            have e1 := cell_below hbr c1
            have e2 := cell_below hbr c2
            have e3 := cell_below hbr c3
            have Hti := hid hti; clear hti
            have HR := hid hbr
            clear c0 c1 c2 c3 hin ht hc hc' hle hbr
            go_wp2_with fail
            refine (Hti.out _ (HR.out.alloc HR.out.size _) (ho.out.alloc _)).mono ?_
            rintro e w2 ⟨d2, rfl, ho2, hb2⟩
            have HO2 := hid (show w2.ownsRow w0.heap.size 3 1 d2 c' (i64s (xs ++ ((rdsE l).take (k + 1)).flatten)) by rw [htake.out, ← List.append_assoc]; exact ho2)
            have HB2 := hid hb2
            clear ho2 hb2 e0 e1 e2 e3
            go_wp2
            go_roundw
            case rel => exact ⟨k + 1, c', by omega, by go_num, HC.out, HO2, HB2.out⟩
            case measure => simp [intOf]; omega
          · have hkm : k = q := by omega
            subst hkm
            have HC := hid hc
            clear hc
            go_wp2
            go_ret
            exact ⟨_, rfl, by rw [Hend.out, ← HM.out, HC.out]; exact ho.out, hbr⟩
    · rw [if_neg h4] at HM ⊢
      have H := hid h4
      have hA : (decide (op = 2) && decide (0 ≤ n)) = false := by simp; omega
      have H0 := hid h
      clear h h4 hxs HI
      simp only [List.length_nil, List.append_nil, Nat.add_zero] at *
      have HM3 := HM.out
      subst HM3
      obtain ⟨len, hlen⟩ : ∃ len, l.length = len := ⟨_, rfl⟩
      rw [hlen] at hl ⊢
      clear hlen HM
      by_cases h2 : op = 2
      · subst h2
        have hn : decide (0 ≤ n) = false := by have := H0.out; simp; omega
        go_enter Try.func47, Try.ntmps47
        go_wp2_with fail
        refine (operands_any 2 n v oa len cap hl hmx _).mono ?_
        rintro e w1 ⟨⟨-, he⟩, hb1⟩
        have := he H.out
        subst this
        clear he
        have hbb := below_step (below_a (Below.refl w.heap.size w) _) hb1
        have HB1 := hid (HB.out.trans (hbb.mono HB.out.size))
        have HO1 := hid (own_below HO.out hbb)
        clear hb1 hbb
        go_wp2_with fail
        go_loopw [0, 23] (fun d i wr => i = .int .i64 0 ∧ d = sv ∧ Hid (wr.ownsRow w0.heap.size 3 1 sv nn (i64s xs)) ∧ Below w0.heap.size w0 wr) (fun _ _ _ => 0)
        case atStart => exact ⟨rfl, rfl, HO1, HB1.out⟩
        case round =>
          obtain ⟨rfl, rfl, ho, hbr⟩ := hrel
          go_wp2
          go_ret
          exact ⟨_, rfl, ho.out, hbr⟩
      · have ho2 : (op == 2) = false := by rw [beq_eq_false_iff_ne]; omega
        clear h2
        go_enter Try.func47, Try.ntmps47
        go_wp2_with fail
        refine (operands_any op n v oa len cap hl hmx _).mono ?_
        rintro e w1 ⟨⟨-, he⟩, hb1⟩
        have := he H.out
        subst this
        clear he
        have hbb := below_step (below_a (Below.refl w.heap.size w) _) hb1
        have HB1 := hid (HB.out.trans (hbb.mono HB.out.size))
        have HO1 := hid (own_below HO.out hbb)
        clear hb1 hbb
        go_wp2_with fail
        go_loopw [0, 23] (fun d i wr => i = .int .i64 0 ∧ d = sv ∧ Hid (wr.ownsRow w0.heap.size 3 1 sv nn (i64s xs)) ∧ Below w0.heap.size w0 wr) (fun _ _ _ => 0)
        case atStart => exact ⟨rfl, rfl, HO1, HB1.out⟩
        case round =>
          obtain ⟨rfl, rfl, ho, hbr⟩ := hrel
          go_wp2
          go_ret
          exact ⟨_, rfl, ho.out, hbr⟩

mutual
theorem app_any : ∀ t, AppOk t
  | .mk op n v l => app_step op n v l (apps_any l)
theorem apps_any : ∀ (l : List Ex) (t : Ex), t ∈ l → AppOk t
  | [], _, h => by cases h
  | u :: _, _, .head _ => app_any u
  | _ :: r, t, .tail _ h => apps_any r t h
end
end Go.Proofs.Ytcjambgbbmffiaa

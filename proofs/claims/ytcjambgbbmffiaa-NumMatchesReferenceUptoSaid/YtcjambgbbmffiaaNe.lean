import Derived.Test.YtcjambgbbmffiaaNd
import Derived.Laws.AppendOwnNone
import Derived.Deep.RegionHeld3
namespace Go.Proofs.Ytcjambgbbmffiaa
open Go.RowKit Go.Instr
set_option linter.unusedVariables false

/-! The reference's 'Has'; lists in which what is not read has changed. -/
set_option maxHeartbeats 1000000 in
theorem has_any (l : List Int) (s : Value) (n : Int) (w : World) (hs : intsIn w l s) (hm : l.length ≤ 3000000) :
    Calls Try.prog 25 #[s, .int .i64 n] w fun e w' => e = .returned (.bool (decide (n ∈ l))) ∧ w = w' := by
  obtain ⟨oa, cap, rfl, hl, hmx, hc⟩ := hs
  have HC := hid hc
  obtain ⟨len, hlen⟩ : ∃ len, l.length = len := ⟨_, rfl⟩
  rw [hlen] at hl hm HC ⊢
  have HL := hid hlen
  clear hc hlen
  go_enter Try.func25, Try.ntmps25
  go_wp2_with fail
  go_loopw [5] (fun i wr => ∃ k : Nat, k ≤ len ∧ i = .int .i64 (k : Int) ∧ (∀ j, j < k → l.getD j 0 ≠ n) ∧ w = wr) (fun i _ => len - (intOf i).toNat)
  case atStart => exact ⟨0, Nat.zero_le _, rfl, fun j hj => absurd hj (by omega), rfl⟩
  case round =>
    obtain ⟨k, hk, rfl, hno, rfl⟩ := hrel
    by_cases hlt : k < len
    · obtain ⟨b, off, rfl, hcell⟩ := HC.out k hlt
      obtain ⟨z, hz⟩ : ∃ z, l.getD k 0 = z := ⟨_, rfl⟩
      rw [hz] at hcell
      have HZ := hid hz
      have HNO := hid hno
      clear hz hno
      by_cases he : z = n
      · subst he
        have HR := hid (show decide (z ∈ l) = true by
          have h1 := HL.out
          have h2 := HZ.out
          rw [decide_eq_true_eq, ← h2, List.getD_eq_getElem?_getD, List.getElem?_eq_getElem (by omega)]
          exact List.getElem_mem _)
        go_wp2
        go_ret
        exact ⟨by rw [HR.out]; rfl, rfl⟩
      · have hb : (z == n) = false := by rw [beq_eq_false_iff_ne]; exact he
        have HE := hid he
        clear he
        go_wp2
        go_roundw
        case rel => exact ⟨k + 1, by omega, by go_num, fun j hj => by
          rcases Nat.eq_or_lt_of_le (Nat.lt_succ_iff.1 hj) with rfl | h
          · rw [HZ.out]; exact HE.out
          · exact HNO.out j h, by first | rfl | trivial⟩
        case measure => simp [intOf]; omega
    · have HR := hid (show decide (n ∈ l) = false by
        have h1 := HL.out
        rw [decide_eq_false_iff_not]
        intro hmem
        obtain ⟨j, hj, e⟩ := List.mem_iff_getElem.1 hmem
        exact hno j (by omega) (by rw [List.getD_eq_getElem?_getD, List.getElem?_eq_getElem hj]; exact e))
      clear hno
      go_wp2
      go_ret
      exact ⟨by rw [HR.out]; rfl, rfl⟩
/-- A list whose first elements are those of another one, but for those at the places of a third. -/
def upd (A V U : List Int) (k : Nat) : List Int := (List.range V.length).map fun i => if i < k ∧ ¬ (i : Int) ∈ A then U.getD i 0 else V.getD i 0
theorem upd_len (A V U : List Int) (k : Nat) : (upd A V U k).length = V.length := by simp [upd]
theorem upd_get (A V U : List Int) (k i : Nat) (hi : i < V.length) : (upd A V U k)[i]? = some (if i < k ∧ ¬ (i : Int) ∈ A then U.getD i 0 else V.getD i 0) := by
  unfold upd
  rw [List.getElem?_map, List.getElem?_range hi]
  rfl
theorem upd_zero (A V U : List Int) : upd A V U 0 = V := by
  apply List.ext_getElem?
  intro i
  by_cases hi : i < V.length
  · rw [upd_get A V U 0 i hi, if_neg (by omega), List.getD_eq_getElem?_getD, List.getElem?_eq_getElem hi]; rfl
  · rw [List.getElem?_eq_none (by rw [upd_len]; omega), List.getElem?_eq_none (by omega)]
theorem upd_in (A V U : List Int) (k : Nat) (h : (k : Int) ∈ A) : upd A V U (k + 1) = upd A V U k := by
  apply List.ext_getElem?
  intro i
  by_cases hi : i < V.length
  · rw [upd_get A V U _ i hi, upd_get A V U _ i hi]
    by_cases hik : i = k
    · subst hik; rw [if_neg (fun hh => hh.2 h), if_neg (fun hh => hh.2 h)]
    · by_cases h2 : i < k ∧ ¬ (i : Int) ∈ A
      · rw [if_pos ⟨by omega, h2.2⟩, if_pos h2]
      · rw [if_neg (fun hh => h2 ⟨by omega, hh.2⟩), if_neg h2]
  · rw [List.getElem?_eq_none (by rw [upd_len]; omega), List.getElem?_eq_none (by rw [upd_len]; omega)]
theorem upd_out (A V U : List Int) (k : Nat) (h : ¬ (k : Int) ∈ A) : upd A V U (k + 1) = (upd A V U k).set k (U.getD k 0) := by
  apply List.ext_getElem?
  intro i
  by_cases hi : i < V.length
  · rw [upd_get A V U _ i hi]
    by_cases hik : k = i
    · subst hik; rw [if_pos ⟨by omega, h⟩, List.getElem?_set_self (by rw [upd_len]; exact hi)]
    · rw [List.getElem?_set_ne hik, upd_get A V U _ i hi]
      by_cases h2 : i < k ∧ ¬ (i : Int) ∈ A
      · rw [if_pos ⟨by omega, h2.2⟩, if_pos h2]
      · rw [if_neg (fun hh => h2 ⟨by omega, hh.2⟩), if_neg h2]
  · rw [List.getElem?_eq_none (by rw [upd_len]; omega), List.getElem?_eq_none (by rw [List.length_set, upd_len]; omega)]
theorem upd_elem (A V U : List Int) (k : Nat) (n : Int) (h : n ∈ A) : elemF (upd A V U k) n = elemF V n := by
  unfold elemF
  rw [upd_len]
  by_cases hn : 0 ≤ n ∧ n < V.length
  · rw [if_pos hn, if_pos hn]
    have e : ((n.toNat : Nat) : Int) = n := Int.toNat_of_nonneg hn.1
    rw [List.getD_eq_getElem?_getD, upd_get A V U k n.toNat (by omega), if_neg (by rw [e]; exact fun hh => hh.2 h)]
    rfl
  · rw [if_neg hn, if_neg hn]
theorem upd_eval (t : Ex) (V U L : List Int) (k : Nat) : evalE (upd (sortU (rdE t)) V U k) L t = evalE V L t :=
  evalE_congr _ _ L t (fun n hn => upd_elem _ V U k n ((sortU_mem _ n).2 hn))
theorem upd_holds (t : Cd) (V U L : List Int) (k : Nat) : holdsC (upd (sortU (rdC t)) V U k) L t = holdsC V L t :=
  holdsC_congr _ _ L t (fun n hn => upd_elem _ V U k n ((sortU_mem _ n).2 hn))
/-- A list of numbers in memory; nil has no room. -/
def IntsBig (w : World) (v : Value) (l : List Int) : Prop := ∃ p c, v = .slice p l.length c ∧ l.length ≤ c ∧ c ≤ 9223372036854775807 ∧ (p = none → c = 0) ∧ (l.length ≠ 0 → ∃ b o, p = some ⟨b, o, none⟩ ∧ ∀ i, i < l.length → w.cell? ⟨b, o + i, none⟩ = some (.int .i64 (l.getD i 0)))
theorem IntsBig.below {w w' : World} {v : Value} {l : List Int} (h : IntsBig w v l) (hb : Below w.heap.size w w') : IntsBig w' v l := by
  obtain ⟨p, c, rfl, c1, c2, hpn, h2⟩ := h
  refine ⟨p, c, rfl, c1, c2, hpn, fun h0 => ?_⟩
  obtain ⟨b, o, rfl, h3⟩ := h2 h0
  exact ⟨b, o, rfl, fun i hi => cell_below hb (h3 i hi)⟩
theorem IntsBig.ints {w : World} {v : Value} {l : List Int} (h : IntsBig w v l) : intsIn w l v := by
  obtain ⟨p, c, rfl, c1, c2, hpn, h2⟩ := h
  refine ⟨p, c, rfl, c1, c2, fun i hi => ?_⟩
  obtain ⟨b, o, rfl, h3⟩ := h2 (by omega)
  exact ⟨b, o, rfl, h3 i hi⟩
theorem i64s_one (l : List Int) : ∀ u ∈ i64s l, u.oneCell' = true := by
  intro u hu
  obtain ⟨z, -, rfl⟩ := List.mem_map.1 hu
  rfl
/-- append of a list in memory to a row of the call's own. -/
theorem wp_append_ints {P : Program} {w : World} {o : Oper} {a : Act} {K : Act → World → Prop} {Q : Exit → Act → World → Prop} (s x : Operand) (t : TypeId)
    (ho : o.op = .call { callee := .builtin .append, args := #[s, x], argTypes := #[t, t] })
    (base : Nat) (e : TypeId) (i : TypeInfo) (z : Value) (ht : P.underlying t = some (.slice e)) (hi : P.info? e = some i) (hz : i.zero = some z)
    (hsize : i.size = 1) (hby : i.bytes = 8) (hzs : z.cells.size = 1)
    (v : Value) (n : Nat) (xs : List Value) (hs : a.eval s = v) (hown : w.ownsRow base e 1 v n xs)
    (sv : Value) (l : List Int) (hx : a.eval x = sv) (hv : IntsBig w sv l)
    (hsmall : n + l.length ≤ 2000000) (hbase : base ≤ w.heap.size)
    (h : ∀ v' w', w'.ownsRow base e 1 v' (n + l.length) (xs ++ i64s l) → w.grownBy w' v.ownBlock → K (a.put o.dst v') w') : o.wp P a w K Q := by
  obtain ⟨p, c, rfl, c1, c2, hp, h2⟩ := hv
  by_cases h0 : l.length = 0
  · obtain rfl := List.eq_nil_of_length_eq_zero h0
    cases p with
    | none =>
      obtain rfl := hp rfl
      have hrun := run_append_owned_none (P := P) (w := w) base t o.type e i 1 ht hi v n xs hown
      unfold Oper.wp
      simp [execOp, ho, resolve, invoke, builtin, hs, hx, hrun, Result.andThen]
      exact h _ _ (by simpa [i64s] using hown) (World.grownBy.refl _ _)
    | some ad =>
      refine wp_append_own w s x t ho base e i z 1 8 ht hi hz hsize hby hzs (by omega) v n xs hs hown ad 0 c [] hx rfl (by intro j u hj; cases hj) (by intro u hu; cases hu) (by unfold maxLen; simp at hsmall; omega) (by simp at hsmall; omega) hbase ?_
      intro v' w' hown' hg _
      exact h v' w' (by simpa [i64s] using hown') hg
  · obtain ⟨b, o', rfl, hc⟩ := h2 h0
    refine wp_append_own w s x t ho base e i z 1 8 ht hi hz hsize hby hzs (by omega) v n xs hs hown ⟨b, o', none⟩ l.length c (i64s l) hx (by simp [i64s]) ?_ (i64s_one l) (by unfold maxLen; omega) (by omega) hbase ?_
    · intro j u hj
      have hj2 := (List.getElem?_eq_some_iff.1 hj).1
      rw [i64s_len] at hj2
      have e1 : (⟨b, o', none⟩ : Addr).add j = ⟨b, o' + j, none⟩ := by first | (simp [Addr.add]; done) | (simp [Addr.add]; omega)
      rw [e1, hc j hj2, ← hj]
      simp [i64s, List.getD, List.getElem?_eq_getElem hj2]
    · intro v' w' hown' hg _
      exact h v' w' hown' hg
theorem step_append_ints {P : Program} {w : World} {ops : Array Oper} {o : Oper} {a : Act} {K : Act → World → Prop} {Q : Exit → Act → World → Prop} {E : Prop} (hgd : Region.wanted o (yielded ops a.tmps) = true) (s x : Operand) (t : TypeId)
    (ho : o.op = .call { callee := .builtin .append, args := #[s, x], argTypes := #[t, t] })
    (base : Nat) (e : TypeId) (i : TypeInfo) (z : Value) (ht : P.underlying t = some (.slice e)) (hi : P.info? e = some i) (hz : i.zero = some z)
    (hsize : i.size = 1) (hby : i.bytes = 8) (hzs : z.cells.size = 1)
    (v : Value) (n : Nat) (xs : List Value) (hs : a.eval s = v) (hown : w.ownsRow base e 1 v n xs)
    (sv : Value) (l : List Int) (hx : a.eval x = sv) (hv : IntsBig w sv l)
    (hsmall : n + l.length ≤ 2000000) (hbase : base ≤ w.heap.size)
    (h : ∀ v' w', w'.ownsRow base e 1 v' (n + l.length) (xs ++ i64s l) → w.grownBy w' v.ownBlock → K (a.put o.dst v') w') :
    if Region.wanted o (yielded ops a.tmps) = true then Oper.wp P o a w K Q else E := by
  rw [if_pos hgd]
  exact wp_append_ints s x t ho base e i z ht hi hz hsize hby hzs v n xs hs hown sv l hx hv hsmall hbase h
theorem own_some {w : World} {base : Nat} {e : TypeId} {size : Nat} {v : Value} {n : Nat} {xs : List Value} (h : w.ownsRow base e size v n xs) (hn : v ≠ .slice none 0 0) : ∃ g c, v = .slice (some ⟨g, 0, none⟩) n c ∧ base ≤ g ∧ g < w.heap.size ∧ n ≤ c ∧ c ≤ maxLen := by
  rcases h.2 with h0 | ⟨g, cap, cur, rfl, h1, h2, h3, h4, -⟩
  · exact absurd h0.1 hn
  · exact ⟨g, cap, rfl, h1, (Array.getElem?_eq_some_iff.1 h2).1, h3, h4⟩
theorem own_newB (w : World) (base : Nat) (h : base ≤ w.heap.size) (e : TypeId) : (w.alloc (.cells #[] e)).ownsRow base e 1 (.slice (some ⟨w.heap.size, 0, none⟩) 0 0) 0 [] := World.ownsRow_lit w #[] 0 h (by unfold maxLen; omega) rfl
end Go.Proofs.Ytcjambgbbmffiaa

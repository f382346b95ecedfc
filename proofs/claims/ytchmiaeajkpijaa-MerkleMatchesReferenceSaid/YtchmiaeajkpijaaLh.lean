import Derived.Test.YtchmiaeajkpijaaLo
import Derived.OrdersIn
import Derived.Deep.RegionHeld3
import Derived.Maps.AppendAt
namespace Go.Proofs.Ytchmiaeajkpijaa
open Go.RowKit Go.Shelf
set_option linter.unusedVariables false

/-! A region that draws its order, in a round: as outside of it. -/
def noDefer (o : Oper) : Bool := match o.op with
  | .defer _ => false
  | _ => true
theorem noDefer_ne {o : Oper} (h : noDefer o = true) : ∀ c, o.op ≠ .defer c := fun c e => by unfold noDefer at h; rw [e] at h; cases h
theorem oper_bridge {P : Program} {l m : Nat} {o : Oper} {a : Act} {w : World} {K : Act → World → Prop} {Q : Exit → Act → World → Prop} (hd : noDefer o = true) (h : o.wp P a w K Q) : o.wpIn (Fence.wide.inRound l) m P a w K Q := by
  unfold Oper.wp at h
  unfold Oper.wpIn
  refine ⟨fun _ _ => trivial, ?_⟩
  rw [Oper.semAt_eq _ _ _ (noDefer_ne hd)]
  generalize (execOp a.eval o).run P w = r at *
  cases r with
  | ok x w' =>
    cases x <;> simp only [Oper.upon] at h <;> simp only [Oper.uponIn]
    case value => exact h
    case skip => exact h
    case defer => exact h
    case enter f args => exact ⟨(fun h => by cases h), (callsIn_wide (n := m - 1)).2 h⟩
    case row row args => exact ⟨(fun h => by cases h), fun c cs _ => by
      obtain ⟨v, w2, h1, h2⟩ := h c cs
      exact ⟨v, w2, h1, stepsIn_wide.2 h2⟩⟩
  | halt x w' => cases x <;> simp only [Oper.upon] at h <;> simp only [Oper.uponIn] <;> exact h
theorem op_bridge {P : Program} {l m : Nat} {ops : Array Oper} {i : Nat} {a : Act} {w : World} {K : Act → World → Prop} {Q : Exit → Act → World → Prop} (hd : ∀ (i : Nat) (o : Oper), ops[i]? = some o → noDefer o = true) (hn : ¬ LetsOut Q) (h : wpOp P ops Q i K a w) : wpOpIn (Fence.wide.inRound l) m P ops Q i K a w := by
  unfold wpOp at h
  unfold wpOpIn
  cases ho : ops[i]? with
  | none => simpa [ho] using h
  | some o =>
    simp only [ho] at h ⊢
    split
    · rename_i hw
      simp only [hw, if_true] at h
      rcases h with h | h
      · exact oper_bridge (hd i o ho) h
      · exact absurd h.2 hn
    · rename_i hw
      simp only [hw] at h
      exact ⟨fun _ _ => trivial, by simpa using h⟩
theorem any_bridge {P : Program} {l m : Nat} {md : Region.Mode} {ops : Array Oper} {Q : Exit → Act → World → Prop} (hd : ∀ (i : Nat) (o : Oper), ops[i]? = some o → noDefer o = true) (hn : ¬ LetsOut Q) :
    ∀ (fuel : Nat) (listed : Array Bool) (a : Act) (w : World), wpAny P md ops Q fuel listed a w → wpAnyIn (Fence.wide.inRound l) m P md ops Q fuel listed a w
  | 0, _, _, _, h => h
  | fuel + 1, listed, a, w, h => ⟨h.1, fun i hi => op_bridge hd hn (wpOp_mono (fun a' w' h' => any_bridge hd hn fuel _ a' w' h') (h.2 i hi))⟩
theorem noDefer_all {ops : Array Oper} (h : ops.toList.all noDefer = true) : ∀ (i : Nat) (o : Oper), ops[i]? = some o → noDefer o = true := fun i o ho =>
  List.all_eq_true.1 h o (Array.mem_def.1 (Array.mem_of_getElem? ho))
/-- Off its end alone. -/
def onlyN (Q : Exit → Act → World → Prop) : Exit → Act → World → Prop
  | .normal, a, w => Q .normal a w
  | _, _, _ => False
theorem onlyN_mk {Q : Exit → Act → World → Prop} {a : Act} {w : World} (h : Q .normal a w) : onlyN Q .normal a w := h
theorem onlyN_out (Q : Exit → Act → World → Prop) : ¬ LetsOut (onlyN Q) := fun ⟨a, w, h⟩ => h
theorem onlyN_use {Q : Exit → Act → World → Prop} : ∀ (e : Exit) (a : Act) (w : World), onlyN Q e a w → Q e a w := fun e a w h => by cases e <;> first | exact h | exact h.elim
theorem round_region {P : Program} {l m id : Nat} {ops : Array Oper} {Q : Exit → Act → World → Prop} {a : Act} {w : World} (S : World → Prop) (hm : P.follows .mixedOrders = true) (hd : ops.toList.all noDefer = true) (hS : S w.drew)
    (h : S w.drew → wpAnyH P .any ops (onlyN Q) S ops.size (Array.replicate ops.size false) a w.drew) : (Code.region id ops true).wpIn (Fence.wide.inRound l) m P Q a w :=
  wpIn_mono (wpIn_region_any (Q := onlyN Q) hm (any_bridge (noDefer_all hd) (onlyN_out Q) _ _ _ _ (wpAny_of_held _ _ _ _ (h hS)))) onlyN_use

/-! One value appended to a row of the call's own, at a step of a region that draws its order. -/
theorem cell_alloc {w : World} {a : Addr} {v : Value} (o : Obj) (h : w.cell? a = some v) : (w.alloc o).cell? a = some v := (World.cell?_alloc_lt w o a (World.block_lt_of_cell? w a h)).trans h
theorem wp_app1 {P : Program} {W : World} {o : Oper} {a : Act} {K : Act → World → Prop} {Q : Exit → Act → World → Prop} (s x : Operand) (t : TypeId)
    (ho : o.op = .call { callee := .builtin .append, args := #[s, x], argTypes := #[t, t] })
    (base : Nat) (e : TypeId) (i : TypeInfo) (z : Value) (bytes : Nat) (ht : P.underlying t = some (.slice e)) (hi : P.info? e = some i) (hz : i.zero = some z)
    (hsize : i.size = 1) (hby : i.bytes = bytes) (hzs : z.cells.size = 1) (hb8 : bytes ≤ 8)
    (v : Value) (n : Nat) (xs : List Value) (hs : a.eval s = v) (hown : W.ownsRow base e 1 v n xs)
    (ad : Addr) (u : Value) (c : Nat) (hx : a.eval x = .slice (some ad) 1 c) (hcell : W.cell? ad = some u) (h1 : u.oneCell' = true) (hn : n ≤ 1000000) (hbase : base ≤ W.heap.size)
    (h : ∀ v' w', w'.ownsRow base e 1 v' (n + 1) (xs ++ [u]) → W.grownBy w' v.ownBlock → K (a.put o.dst v') w') : o.wp P a W K Q := by
  refine wp_append_own W s x t ho base e i z 1 bytes ht hi hz hsize hby hzs (by omega) v n xs hs hown ad 1 c [u] hx rfl ?_ (by intro y hy; obtain rfl := List.mem_singleton.1 hy; exact h1) (by unfold maxLen; omega) ?_ hbase (fun v' w' h2 h3 _ => h v' w' h2 h3)
  · intro j y hj
    obtain rfl : j = 0 := by have := (List.getElem?_eq_some_iff.1 hj).1; simpa using this
    obtain rfl := Option.some.inj hj
    obtain ⟨b, k, sp⟩ := ad
    exact hcell
  · exact Nat.le_trans (Nat.mul_le_mul (show n + 1 ≤ 1000001 by omega) hb8) (by omega)
theorem step_app1 {P : Program} {W : World} {ops : Array Oper} {o : Oper} {a : Act} {K : Act → World → Prop} {Q : Exit → Act → World → Prop} {E : Prop} (hgd : Region.wanted o (yielded ops a.tmps) = true) (s x : Operand) (t : TypeId)
    (ho : o.op = .call { callee := .builtin .append, args := #[s, x], argTypes := #[t, t] })
    (base : Nat) (e : TypeId) (i : TypeInfo) (z : Value) (bytes : Nat) (ht : P.underlying t = some (.slice e)) (hi : P.info? e = some i) (hz : i.zero = some z)
    (hsize : i.size = 1) (hby : i.bytes = bytes) (hzs : z.cells.size = 1) (hb8 : bytes ≤ 8)
    (v : Value) (n : Nat) (xs : List Value) (hs : a.eval s = v) (hown : W.ownsRow base e 1 v n xs)
    (ad : Addr) (u : Value) (c : Nat) (hx : a.eval x = .slice (some ad) 1 c) (hcell : W.cell? ad = some u) (h1 : u.oneCell' = true) (hn : n ≤ 1000000) (hbase : base ≤ W.heap.size)
    (h : ∀ v' w', w'.ownsRow base e 1 v' (n + 1) (xs ++ [u]) → W.grownBy w' v.ownBlock → K (a.put o.dst v') w') : if Region.wanted o (yielded ops a.tmps) = true then Oper.wp P o a W K Q else E := by
  rw [if_pos hgd]
  exact wp_app1 s x t ho base e i z bytes ht hi hz hsize hby hzs hb8 v n xs hs hown ad u c hx hcell h1 hn hbase h
/-- A variable in the box pb that holds a row from base on, beyond the box: what an append to it, and the store, leave. -/
theorem row_step {W w1 : World} {pb base n0 : Nat} {t e : TypeId} {v v' : Value} {n m size : Nat} {xs ys : List Value} {tmp : Obj} (hv : Boxed W pb t v) (hrow : W.ownsRow base e size v n xs) (hpb : pb < base) (hsz : base ≤ W.heap.size) (h0 : n0 ≤ pb)
    (hown' : w1.ownsRow base e size v' m ys) (hgrow : (W.alloc tmp).grownBy w1 v.ownBlock) :
    Boxed w1 pb t v ∧ Boxed (w1.setCell ⟨pb, 0, none⟩ v') pb t v' ∧ (w1.setCell ⟨pb, 0, none⟩ v').ownsRow base e size v' m ys ∧ Below n0 W (w1.setCell ⟨pb, 0, none⟩ v') ∧ W.heap.size ≤ (w1.setCell ⟨pb, 0, none⟩ v').heap.size ∧
    (∀ (k : Nat) (o : Obj), W.heap[k]? = some o → k ≠ pb → (k < base ∨ ∀ cs fz, o ≠ .cells cs e fz) → w1.heap[k]? = some o ∧ (w1.setCell ⟨pb, 0, none⟩ v').heap[k]? = some o) := by
  have hrow' := hrow.alloc tmp
  have hv1 : Boxed w1 pb t v := (hv.alloc tmp).kept hgrow (fun e => by have := (hrow.lt pb e.symm).1; omega)
  have hb1 : Below n0 W w1 := ((Below.refl n0 W).alloc (by omega) tmp).grown hgrow (by simp; omega) (fun k e => by have := (hrow.lt k e).1; omega)
  refine ⟨hv1, hv1.set v', hown'.kept (grownBy_setCell' w1 pb v') (.inr fun e => by have := (hown'.lt pb e).1; omega), hb1.setCell (p := ⟨pb, 0, none⟩) h0 v', ?_, ?_⟩
  · have h1 := hgrow.size
    have h2 := (grownBy_setCell' w1 pb v').size
    simp at h1
    omega
  · intro k o hk hne ho
    have hlt := (Array.getElem?_eq_some_iff.1 hk).1
    have h1 : w1.heap[k]? = some o := by
      refine (hgrow.block k (by simp; omega) (fun e' => ?_)).trans ((Below.heap_alloc W tmp k hlt).trans hk)
      rcases hrow.2 with ⟨rfl, -⟩ | ⟨g, cap, cur, rfl, hbg, hh, -⟩
      · simp [Value.ownBlock] at e'
      · obtain rfl : k = g := by simpa [Value.ownBlock] using e'
        rcases ho with ho | ho
        · omega
        · exact ho cur (0, 0) (Option.some.inj (hk.symm.trans hh))
    exact ⟨h1, ((grownBy_setCell' w1 pb v').block k (Array.getElem?_eq_some_iff.1 h1).1 (fun e' => hne (by simpa using e'))).trans h1⟩
theorem blk_cell {w : World} {b j : Nat} {cs : Array Value} {t : TypeId} (h : w.heap[b]? = some (.cells cs t (0, 0))) {v : Value} (hj : cs[j]? = some v) : w.cell? ⟨b, j, none⟩ = some v := by simp [World.cell?, h, hj]
theorem infoU64 : (Try.prog.info? 23).map (fun i => (i.zero, i.size, i.bytes)) = some (some (.int .u64 0), 1, 8) := by kernel_rfl
end Go.Proofs.Ytchmiaeajkpijaa

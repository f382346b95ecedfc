import Derived.Test.YtchmiaeajkpijaaLp
namespace Go.Proofs.Ytchmiaeajkpijaa
open Go.RowKit Go.Shelf
attribute [local go_sem] Oper.semAt_some
set_option linter.unusedVariables false

/-! Pairs: 'join', 'beside', 'pairs'. -/
def encP (p : Pair) : Value := .agg #[.int .u64 (p.1.toNat : Int), .int .u64 (p.2.toNat : Int)]
theorem Kept.of_below {B : Nat} {G : Nat → Prop} {q : Obj → Prop} {W W' : World} (h : Below W.heap.size W W') : Kept B G q W W' := ⟨h.size, fun k o hk _ => (h.block k (Array.getElem?_eq_some_iff.1 hk).1).trans hk⟩
set_option maxHeartbeats 400000 in
theorem pjoin_any (p : Pair) (w : World) : Calls Try.prog 28 #[.agg #[.int .u64 (p.1.toNat : Int), .int .u64 (p.2.toNat : Int)]] w fun e w' => e = .returned (.int .u64 ((joinP p).toNat : Int)) ∧ Below w.heap.size w w' := by
  obtain ⟨a, b⟩ := p
  go_enter Try.func28, Try.ntmps28
  go_wp2_with fail
  refine (join_v a b rfl rfl _).mono ?_
  rintro e w' ⟨rfl, rfl⟩
  go_wp2
  go_ret
  exact ⟨rfl, (Below.refl _ _).alloc (Nat.le_refl _) _⟩
set_option maxHeartbeats 400000 in
theorem beside_any (a b : BitVec 64) (h : Bool) (w : World) : Calls Try.prog 37 #[.int .u64 (a.toNat : Int), .int .u64 (b.toNat : Int), .bool h] w fun e w' => e = .returned (.agg #[.int .u64 ((besideB a b h).1.toNat : Int), .int .u64 ((besideB a b h).2.toNat : Int)]) ∧ Below w.heap.size w w' := by
  cases h
  · go_enter Try.func37, Try.ntmps37
    go_wp2
    exact bodyPost_ret (v := .agg #[.int .u64 (a.toNat : Int), .int .u64 (b.toNat : Int)]) (by simp [results, Try.results37, go_sem]) rfl ⟨rfl, (Below.refl _ _).alloc (Nat.le_refl _) _⟩
  · go_enter Try.func37, Try.ntmps37
    go_wp2
    exact bodyPost_ret (v := .agg #[.int .u64 (b.toNat : Int), .int .u64 (a.toNat : Int)]) (by simp [results, Try.results37, go_sem]) rfl ⟨rfl, (Below.refl _ _).alloc (Nat.le_refl _) _⟩
/-- The world behind 'pairs(n, i, o)': three boxes. -/
def pairW (w : World) (n i : Int) (leaf : Value) (path : Value) : World := ((w.alloc (.cells #[.int .i64 n] 3)).alloc (.cells #[.int .i64 i] 3)).alloc (.cells #[leaf, path] 25)
theorem pairs_in (n i : Int) (leaf : Int) (pa : Option Addr) (pn pc : Nat) (m : Nat) (w : World) :
    CallsIn Fence.wide m Try.prog 27 #[.int .i64 n, .int .i64 i, .agg #[.int .u64 leaf, .slice pa pn pc]] w fun e w' => e = .returned (.func (.func 36) #[] #[.pointer (some ⟨w.heap.size + 1 + 1, 0, none⟩), .pointer (some ⟨w.heap.size, 0, none⟩), .pointer (some ⟨w.heap.size + 1, 0, none⟩)]) ∧ pairW w n i (.int .u64 leaf) (.slice pa pn pc) = w' := by
  refine callsIn_of_wp Try.func27 rfl trivial ?_ rfl
  simp only [Try.ntmps27, List.size_toArray, List.length_cons, List.length_nil, Nat.reduceAdd, Nat.reduceSub, Array.replicate_succ, Array.replicate_zero, List.push_toArray, List.append_toArray, List.nil_append, List.cons_append]
  gi_wp2
  go_ret
  exact ⟨rfl, rfl⟩
end Go.Proofs.Ytchmiaeajkpijaa

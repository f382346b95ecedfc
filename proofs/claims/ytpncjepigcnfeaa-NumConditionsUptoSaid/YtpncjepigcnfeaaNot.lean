import Derived.Test.YtpncjepigcnfeaaExa
namespace Go.Proofs.Ytpncjepigcnfeaa
open Go.RowKit Go.Instr
set_option linter.unusedVariables false

/-! 'not' and 'both' of the laws: conditions put together. -/
def NotPost (t : Cd) (w : World) (e : Ending) (w' : World) : Prop :=
  ∃ b : Nat, e = .returned (.agg #[.int .i64 5, .slice none 0 0, .slice (some ⟨b, 0, none⟩) 1 1]) ∧ Below w.heap.size w w' ∧
    cdIn w' (.mk 5 [] [t]) (.agg #[.int .i64 5, .slice none 0 0, .slice (some ⟨b, 0, none⟩) 1 1])

set_option maxHeartbeats 400000 in
theorem not_any (o : Int) (a1 a2 : Option Addr) (l1 c1 l2 c2 : Nat) (t : Cd) (w : World) (h : cdIn w t (.agg #[.int .i64 o, .slice a1 l1 c1, .slice a2 l2 c2])) :
    Calls Try.prog 32 #[.agg #[.int .i64 o, .slice a1 l1 c1, .slice a2 l2 c2]] w (NotPost t w) := by
  have H := hid h; clear h
  go_enter Try.func32, Try.ntmps32
  go_wp2
  refine bodyPost_ret (v := .agg #[.int .i64 5, .slice none 0 0, .slice (some ⟨w.heap.size + 1 + 1, 0, none⟩) 1 1]) (by simp [results, Try.results32, go_sem]) rfl ?_
  have hb : Below w.heap.size w (((w.alloc (.cells #[.int .i64 o, .slice a1 l1 c1, .slice a2 l2 c2] 27)).alloc (.cells #[.int .i64 5, .slice none 0 0, .slice (some ⟨w.heap.size + 1 + 1, 0, none⟩) 1 1] 27)).alloc
      (.cells #[.int .i64 o, .slice a1 l1 c1, .slice a2 l2 c2] 27)) :=
    (((Below.refl _ _).alloc (Nat.le_refl _) _).alloc (by simp) _).alloc (by simp; omega) _
  refine ⟨_, rfl, hb, ?_⟩
  rw [cdIn]
  refine ⟨none, _, 0, 1, rfl, Nat.le_refl _, by omega, by rw [exsIn]; trivial, Nat.le_refl _, by omega, ?_⟩
  rw [cdsIn, cdsIn]
  exact ⟨⟨_, 0, _, _, _, rfl, by simp [go_sem], by simp [go_sem], by simp [go_sem], cdIn_below hb _ _ H.out⟩, trivial⟩

def BothPost (op : Int) (t u : Cd) (w : World) (e : Ending) (w' : World) : Prop :=
  ∃ b : Nat, e = .returned (.agg #[.int .i64 op, .slice none 0 0, .slice (some ⟨b, 0, none⟩) 2 2]) ∧ Below w.heap.size w w' ∧
    cdIn w' (.mk op [] [t, u]) (.agg #[.int .i64 op, .slice none 0 0, .slice (some ⟨b, 0, none⟩) 2 2])

set_option maxHeartbeats 400000 in
theorem both_any (op o p : Int) (a1 a2 b1 b2 : Option Addr) (l1 c1 l2 c2 m1 d1 m2 d2 : Nat) (t u : Cd) (w : World) (h : cdIn w t (.agg #[.int .i64 o, .slice a1 l1 c1, .slice a2 l2 c2]))
    (k : cdIn w u (.agg #[.int .i64 p, .slice b1 m1 d1, .slice b2 m2 d2])) :
    Calls Try.prog 33 #[.int .i64 op, .agg #[.int .i64 o, .slice a1 l1 c1, .slice a2 l2 c2], .agg #[.int .i64 p, .slice b1 m1 d1, .slice b2 m2 d2]] w (BothPost op t u w) := by
  have H := hid h; clear h
  have K := hid k; clear k
  go_enter Try.func33, Try.ntmps33
  go_wp2
  refine bodyPost_ret (v := .agg #[.int .i64 op, .slice none 0 0, .slice (some ⟨w.heap.size + 1 + 1 + 1, 0, none⟩) 2 2]) (by simp [results, Try.results33, go_sem]) rfl ?_
  have hb : Below w.heap.size w ((((w.alloc (.cells #[.int .i64 o, .slice a1 l1 c1, .slice a2 l2 c2] 27)).alloc (.cells #[.int .i64 p, .slice b1 m1 d1, .slice b2 m2 d2] 27)).alloc
      (.cells #[.int .i64 op, .slice none 0 0, .slice (some ⟨w.heap.size + 1 + 1 + 1, 0, none⟩) 2 2] 27)).alloc
      (.cells #[.int .i64 o, .slice a1 l1 c1, .slice a2 l2 c2, .int .i64 p, .slice b1 m1 d1, .slice b2 m2 d2] 27)) :=
    ((((Below.refl _ _).alloc (Nat.le_refl _) _).alloc (by simp) _).alloc (by simp; omega) _).alloc (by simp; omega) _
  refine ⟨_, rfl, hb, ?_⟩
  rw [cdIn]
  refine ⟨none, _, 0, 2, rfl, Nat.le_refl _, by omega, by rw [exsIn]; trivial, Nat.le_refl _, by omega, ?_⟩
  rw [cdsIn, cdsIn, cdsIn]
  exact ⟨⟨_, 0, _, _, _, rfl, by simp [go_sem], by simp [go_sem], by simp [go_sem], cdIn_below hb _ _ H.out⟩, ⟨_, 0, _, _, _, rfl, by simp [go_sem], by simp [go_sem], by simp [go_sem], cdIn_below hb _ _ K.out⟩, trivial⟩
end Go.Proofs.Ytpncjepigcnfeaa

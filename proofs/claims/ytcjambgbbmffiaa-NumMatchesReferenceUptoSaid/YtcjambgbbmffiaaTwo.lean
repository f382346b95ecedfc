import Derived.Test.YtcjambgbbmffiaaHola
namespace Go.Proofs.Ytcjambgbbmffiaa
open Go.RowKit Go.Instr
set_option linter.unusedVariables false

/-! Building expressions: 'paroleref01.Num', 'paroleref01.Two'. -/
set_option maxHeartbeats 400000 in
theorem num_any (v : Int) (w : World) :
    Calls Try.prog 27 #[.int .i64 v] w fun e w' => e = .returned (.agg #[.int .i64 1, .int .i64 0, .int .i64 v, .slice none 0 0]) ∧ Below w.heap.size w w' := by
  go_enter Try.func27, Try.ntmps27
  go_wp2
  exact bodyPost_ret (v := .agg #[.int .i64 1, .int .i64 0, .int .i64 v, .slice none 0 0]) (by simp [results, Try.results27, go_sem]) rfl
    ⟨rfl, (Below.refl _ _).alloc (Nat.le_refl _) _⟩

theorem num_in (v : Int) (w : World) : exIn w (.mk 1 0 v []) (.agg #[.int .i64 1, .int .i64 0, .int .i64 v, .slice none 0 0]) := by
  rw [exIn]
  exact ⟨none, 0, rfl, Nat.le_refl _, by omega, by rw [exsIn]; trivial⟩

/-- What 'paroleref01.Two' leaves. -/
def TwoPost (op : Int) (t1 t2 : Ex) (w : World) (e : Ending) (w' : World) : Prop :=
  ∃ b : Nat, e = .returned (.agg #[.int .i64 op, .int .i64 0, .int .i64 0, .slice (some ⟨b, 0, none⟩) 2 2]) ∧ Below w.heap.size w w' ∧
    exIn w' (.mk op 0 0 [t1, t2]) (.agg #[.int .i64 op, .int .i64 0, .int .i64 0, .slice (some ⟨b, 0, none⟩) 2 2])

set_option maxHeartbeats 400000 in
theorem two_any (op o1 n1 v1 o2 n2 v2 : Int) (a1 a2 : Option Addr) (l1 c1 l2 c2 : Nat) (t1 t2 : Ex) (w : World)
    (h1 : exIn w t1 (.agg #[.int .i64 o1, .int .i64 n1, .int .i64 v1, .slice a1 l1 c1])) (h2 : exIn w t2 (.agg #[.int .i64 o2, .int .i64 n2, .int .i64 v2, .slice a2 l2 c2])) :
    Calls Try.prog 26 #[.int .i64 op, .agg #[.int .i64 o1, .int .i64 n1, .int .i64 v1, .slice a1 l1 c1], .agg #[.int .i64 o2, .int .i64 n2, .int .i64 v2, .slice a2 l2 c2]] w (TwoPost op t1 t2 w) := by
  have H1 := hid h1; clear h1
  have H2 := hid h2; clear h2
  go_enter Try.func26, Try.ntmps26
  go_wp2
  refine bodyPost_ret (v := .agg #[.int .i64 op, .int .i64 0, .int .i64 0, .slice (some ⟨w.heap.size + 1 + 1 + 1, 0, none⟩) 2 2]) (by simp [results, Try.results26, go_sem]) rfl ?_
  have hb : Below w.heap.size w ((((w.alloc (.cells #[.int .i64 o1, .int .i64 n1, .int .i64 v1, .slice a1 l1 c1] 24)).alloc (.cells #[.int .i64 o2, .int .i64 n2, .int .i64 v2, .slice a2 l2 c2] 24)).alloc
      (.cells #[.int .i64 op, .int .i64 0, .int .i64 0, .slice (some ⟨w.heap.size + 1 + 1 + 1, 0, none⟩) 2 2] 24)).alloc
      (.cells #[.int .i64 o1, .int .i64 n1, .int .i64 v1, .slice a1 l1 c1, .int .i64 o2, .int .i64 n2, .int .i64 v2, .slice a2 l2 c2] 24)) :=
    ((((Below.refl _ _).alloc (Nat.le_refl _) _).alloc (by simp) _).alloc (by simp; omega) _).alloc (by simp; omega) _
  refine ⟨_, rfl, hb, ?_⟩
  rw [exIn]
  refine ⟨_, 2, rfl, Nat.le_refl _, by omega, ?_⟩
  rw [exsIn, exsIn, exsIn]
  refine ⟨⟨_, 0, _, _, _, _, rfl, by simp [go_sem], by simp [go_sem], by simp [go_sem], by simp [go_sem], exIn_below hb _ _ H1.out⟩,
    ⟨_, 0, _, _, _, _, rfl, by simp [go_sem], by simp [go_sem], by simp [go_sem], by simp [go_sem], exIn_below hb _ _ H2.out⟩, trivial⟩
end Go.Proofs.Ytcjambgbbmffiaa

import Derived.Test.YtchmiaeajkpijaaLg
namespace Go.Proofs.Ytchmiaeajkpijaa
open Go.RowKit Go.Shelf
attribute [local go_sem] Oper.semAt_some
set_option linter.unusedVariables false

/-! The siblings of a place, as an iterator. -/
def encSib (s : Sib) : Value := .agg #[.int .i64 (s.lo : Int), .int .i64 (s.hi : Int), .bool s.ahead]

set_option maxRecDepth 100000 in
set_option maxHeartbeats 2000000 in
theorem climb_in (l B : Nat) (full : List Sib) (J Jx : List Sib → World → Prop) (KK : World → World → Prop) (hKK : ∀ A B, KK A B → A.heap.size ≤ B.heap.size)
    (hY : ∀ m pre x W, J pre W → B ≤ W.heap.size → pre ++ [x] <+: full → YieldAt Fence.wide m Try.prog l #[encSib x] W fun e W' =>
      (e = .returned (.bool true) ∧ J (pre ++ [x]) W' ∧ KK W W') ∨ (e = .returned (.bool false) ∧ Jx (pre ++ [x]) W')) :
    ∀ f a b i, b - a ≤ f → a ≤ i → i < b → b ≤ 1000000 → ∀ m pre W, J pre W → B ≤ W.heap.size → pre ++ sibs a b i <+: full →
      CallsIn Fence.wide m Try.prog 40 #[.int .i64 (a : Int), .int .i64 (b : Int), .int .i64 (i : Int), .func (.yield l) #[] #[]] W fun e W' =>
        (e = .returned (.bool true) ∧ J (pre ++ sibs a b i) W' ∧ B ≤ W'.heap.size) ∨ (e = .returned (.bool false) ∧ ∃ q, q <+: full ∧ Jx q W') := by
  intro f
  induction f with
  | zero => intro a b i h h1 h2; omega
  | succ f ih =>
    intro a b i hf h1 h2 hb m pre W hJ hB hpre
    have hdd : ∀ k : Nat, (Fence.wide.depth.isSome = true → 1 ≤ k) := fun k h => by cases h
    by_cases h3 : b - a = 1
    · rw [sibs_one i (by omega), List.append_nil] at hpre ⊢
      have t1 : ((b : Int) - (a : Int) == 1) = true := by rw [beq_iff_eq]; omega
      clear ih hY
      refine callsIn_of_wp Try.func40 rfl trivial ?_ rfl
      simp only [Try.ntmps40, List.size_toArray, List.length_cons, List.length_nil, Nat.reduceAdd, Nat.reduceSub, Array.replicate_succ, Array.replicate_zero, List.push_toArray, List.append_toArray, List.nil_append, List.cons_append]
      gi_wp2
      go_ret
      exact .inl ⟨rfl, hJ, hB⟩
    · have hp := pw_bd (n := b - a) (by omega)
      obtain ⟨hp1, hp2, -⟩ := hp
      have t1 : ((b : Int) - (a : Int) == 1) = false := by rw [beq_eq_false_iff_ne]; omega
      have PW := hid (fun W => (callsIn_wide (n := m - 1)).2 (power_any (b - a) (by omega) (by omega) W))
      have eba : ((b - a : Nat) : Int) = (b : Int) - (a : Int) := by omega
      rw [eba] at PW
      clear eba
      by_cases h4 : i < a + pw (b - a)
      · rw [sibs_low (by omega) h4] at hpre ⊢
        obtain ⟨c, hc⟩ : ∃ c, a + pw (b - a) = c := ⟨_, rfl⟩
        have hcI : (a : Int) + (pw (b - a) : Int) = (c : Int) := by omega
        have h5 : c < b := by omega
        have h5' : a < c := by omega
        rw [hc] at h4 hpre ⊢
        have ih1 := ih a c i (by omega) h1 h4 (by omega) (m - 1) pre W hJ hB ((List.append_assoc _ _ _ ▸ List.prefix_append _ _ : pre ++ sibs a c i <+: pre ++ (sibs a c i ++ [⟨c, b, false⟩])).trans hpre)
        have hy2 : ∀ W1, J (pre ++ sibs a c i) W1 → B ≤ W1.heap.size → YieldAt Fence.wide (m - 1) Try.prog l #[.agg #[.int .i64 (c : Int), .int .i64 (b : Int), .bool false]] W1 fun e W2 =>
            (e = .returned (.bool true) ∧ J (pre ++ (sibs a c i ++ [⟨c, b, false⟩])) W2 ∧ B ≤ W2.heap.size) ∨ (e = .returned (.bool false) ∧ ∃ q, q <+: full ∧ Jx q W2) := fun W1 hJ1 hB1 =>
          YieldAt.mono (hY (m - 1) _ ⟨c, b, false⟩ W1 hJ1 hB1 (by rw [List.append_assoc]; exact hpre)) fun e W2 h => h.elim
            (fun ⟨he, hj, hk⟩ => .inl ⟨he, by rw [← List.append_assoc]; exact hj, Nat.le_trans hB1 (hKK _ _ hk)⟩) (fun ⟨he, hx⟩ => .inr ⟨he, _, (by rw [List.append_assoc]; exact hpre), hx⟩)
        have ih2 := ih1.mono (R' := fun e W1 =>
          (e = .returned (.bool true) ∧ YieldAt Fence.wide (m - 1) Try.prog l #[.agg #[.int .i64 (c : Int), .int .i64 (b : Int), .bool false]] W1 fun e W2 =>
            (e = .returned (.bool true) ∧ J (pre ++ (sibs a c i ++ [⟨c, b, false⟩])) W2 ∧ B ≤ W2.heap.size) ∨ (e = .returned (.bool false) ∧ ∃ q, q <+: full ∧ Jx q W2)) ∨
          (e = .returned (.bool false) ∧ ∃ q, q <+: full ∧ Jx q W1)) (fun e W1 h => h.elim (fun ⟨he, hj, hb1⟩ => .inl ⟨he, hy2 W1 hj hb1⟩) .inr)
        clear hy2 ih ih1 hY hJ
        clear hc
        generalize pw (b - a) = p at *
        refine callsIn_of_wp Try.func40 rfl trivial ?_ rfl
        simp only [Try.ntmps40, List.size_toArray, List.length_cons, List.length_nil, Nat.reduceAdd, Nat.reduceSub, Array.replicate_succ, Array.replicate_zero, List.push_toArray, List.append_toArray, List.nil_append, List.cons_append]
        gi_wp2_with (first
          | ((try refine ⟨trivial, ?_⟩); (try refine ⟨hdd _, ?_⟩); gi_at_call 30; refine (PW.out _).mono ?_; clear PW; rintro e W0 ⟨rfl, rfl⟩)
          | ((try refine ⟨trivial, ?_⟩); (try refine ⟨hdd _, ?_⟩); gi_at_call 40; refine ih2.mono ?_; clear ih2; rintro e W1 (⟨rfl, fn, tmps, assign, body, hy, hR⟩ | ⟨rfl, q, hq, hx1⟩))
          | ((try refine ⟨hdd _, ?_⟩); refine hR.mono ?_; clear hR; rintro e W2 (⟨rfl, hJ2, hB2⟩ | ⟨rfl, q, hq, hx2⟩)))
        · go_ret
          exact .inl ⟨rfl, hJ2, hB2⟩
        · go_ret
          exact .inr ⟨rfl, q, hq, hx2⟩
        · refine ⟨fun _ h => (by cases h), ?_⟩
          gi_wp2
          go_ret
          exact .inr ⟨rfl, q, hq, hx1⟩
      · rw [sibs_high (by omega) h4] at hpre ⊢
        obtain ⟨c, hc⟩ : ∃ c, a + pw (b - a) = c := ⟨_, rfl⟩
        have hcI : (a : Int) + (pw (b - a) : Int) = (c : Int) := by omega
        have h5 : c < b := by omega
        have h5' : a < c := by omega
        rw [hc] at h4 hpre ⊢
        have h4i : c ≤ i := by omega
        have t2 : decide ((i : Int) < (c : Int)) = false := by simp; omega
        have ih1 := ih c b i (by omega) (by omega) h2 (by omega) (m - 1) pre W hJ hB ((List.append_assoc _ _ _ ▸ List.prefix_append _ _ : pre ++ sibs c b i <+: pre ++ (sibs c b i ++ [⟨a, c, true⟩])).trans hpre)
        have hy2 : ∀ W1, J (pre ++ sibs c b i) W1 → B ≤ W1.heap.size → YieldAt Fence.wide (m - 1) Try.prog l #[.agg #[.int .i64 (a : Int), .int .i64 (c : Int), .bool true]] W1 fun e W2 =>
            (e = .returned (.bool true) ∧ J (pre ++ (sibs c b i ++ [⟨a, c, true⟩])) W2 ∧ B ≤ W2.heap.size) ∨ (e = .returned (.bool false) ∧ ∃ q, q <+: full ∧ Jx q W2) := fun W1 hJ1 hB1 =>
          YieldAt.mono (hY (m - 1) _ ⟨a, c, true⟩ W1 hJ1 hB1 (by rw [List.append_assoc]; exact hpre)) fun e W2 h => h.elim
            (fun ⟨he, hj, hk⟩ => .inl ⟨he, by rw [← List.append_assoc]; exact hj, Nat.le_trans hB1 (hKK _ _ hk)⟩) (fun ⟨he, hx⟩ => .inr ⟨he, _, (by rw [List.append_assoc]; exact hpre), hx⟩)
        have ih2 := ih1.mono (R' := fun e W1 =>
          (e = .returned (.bool true) ∧ YieldAt Fence.wide (m - 1) Try.prog l #[.agg #[.int .i64 (a : Int), .int .i64 (c : Int), .bool true]] W1 fun e W2 =>
            (e = .returned (.bool true) ∧ J (pre ++ (sibs c b i ++ [⟨a, c, true⟩])) W2 ∧ B ≤ W2.heap.size) ∨ (e = .returned (.bool false) ∧ ∃ q, q <+: full ∧ Jx q W2)) ∨
          (e = .returned (.bool false) ∧ ∃ q, q <+: full ∧ Jx q W1)) (fun e W1 h => h.elim (fun ⟨he, hj, hb1⟩ => .inl ⟨he, hy2 W1 hj hb1⟩) .inr)
        clear hy2 ih ih1 hY hJ
        clear hc
        generalize pw (b - a) = p at *
        refine callsIn_of_wp Try.func40 rfl trivial ?_ rfl
        simp only [Try.ntmps40, List.size_toArray, List.length_cons, List.length_nil, Nat.reduceAdd, Nat.reduceSub, Array.replicate_succ, Array.replicate_zero, List.push_toArray, List.append_toArray, List.nil_append, List.cons_append]
        gi_wp2_with (first
          | ((try refine ⟨trivial, ?_⟩); (try refine ⟨hdd _, ?_⟩); gi_at_call 30; refine (PW.out _).mono ?_; clear PW; rintro e W0 ⟨rfl, rfl⟩)
          | ((try refine ⟨trivial, ?_⟩); (try refine ⟨hdd _, ?_⟩); gi_at_call 40; refine ih2.mono ?_; clear ih2; rintro e W1 (⟨rfl, fn, tmps, assign, body, hy, hR⟩ | ⟨rfl, q, hq, hx1⟩))
          | ((try refine ⟨hdd _, ?_⟩); refine hR.mono ?_; clear hR; rintro e W2 (⟨rfl, hJ2, hB2⟩ | ⟨rfl, q, hq, hx2⟩)))
        · go_ret
          exact .inl ⟨rfl, hJ2, hB2⟩
        · go_ret
          exact .inr ⟨rfl, q, hq, hx2⟩
        · refine ⟨fun _ h => (by cases h), ?_⟩
          gi_wp2
          go_ret
          exact .inr ⟨rfl, q, hq, hx1⟩

set_option maxHeartbeats 1000000 in
theorem siblings1_in (n i bn bi : Nat) (hi : i < n) (hn : n ≤ 1000000) (l B : Nat) (full : List Sib) (hfull : full = sibs 0 n i) (J Jx : List Sib → World → Prop) (KK : World → World → Prop) (hKK : ∀ A B, KK A B → A.heap.size ≤ B.heap.size)
    (hY : ∀ m pre x W, J pre W → B ≤ W.heap.size → pre ++ [x] <+: full → YieldAt Fence.wide m Try.prog l #[encSib x] W fun e W' =>
      (e = .returned (.bool true) ∧ J (pre ++ [x]) W' ∧ KK W W') ∨ (e = .returned (.bool false) ∧ Jx (pre ++ [x]) W'))
    (m : Nat) (W : World) (hbn : W.cell? ⟨bn, 0, none⟩ = some (.int .i64 (n : Int))) (hbi : W.cell? ⟨bi, 0, none⟩ = some (.int .i64 (i : Int))) (hB : B ≤ W.heap.size) (h0 : J [] W) :
    CallsIn Fence.wide m Try.prog 39 #[.func (.yield l) #[] #[], .pointer (some ⟨bn, 0, none⟩), .pointer (some ⟨bi, 0, none⟩)] W fun e W' => (∃ v, e = .returned v) ∧ (J full W' ∨ ∃ pre, pre <+: full ∧ Jx pre W') := by
  have hdd : ∀ k : Nat, (Fence.wide.depth.isSome = true → 1 ≤ k) := fun k h => by cases h
  have C := climb_in l B full J Jx KK hKK hY n 0 n i (by omega) (by omega) hi hn (m - 1) [] W h0 hB (by rw [hfull]; exact List.prefix_refl _)
  rw [List.nil_append, ← hfull, show ((0 : Nat) : Int) = 0 from rfl] at C
  clear hY hfull
  refine callsIn_of_wp Try.func39 rfl trivial ?_ rfl
  simp only [Try.ntmps39, List.size_toArray, List.length_cons, List.length_nil, Nat.reduceAdd, Nat.reduceSub, Array.replicate_succ, Array.replicate_zero, List.push_toArray, List.append_toArray, List.nil_append, List.cons_append]
  gi_wp2_with ((try refine ⟨trivial, ?_⟩); (try refine ⟨hdd _, ?_⟩); gi_at_call 40; refine C.mono ?_; clear C; rintro e W1 (⟨rfl, hJ1, _⟩ | ⟨rfl, q, hq, hx⟩))
  · go_end0
    exact ⟨⟨_, rfl⟩, .inl hJ1⟩
  · go_end0
    exact ⟨⟨_, rfl⟩, .inr ⟨q, hq, hx⟩⟩

/-- The world behind 'siblings(n, i)': two boxes. -/
def sibW (w : World) (n i : Int) : World := (w.alloc (.cells #[.int .i64 n] 3)).alloc (.cells #[.int .i64 i] 3)
theorem siblings_in (n i : Int) (m : Nat) (w : World) :
    CallsIn Fence.wide m Try.prog 31 #[.int .i64 n, .int .i64 i] w fun e w' => e = .returned (.func (.func 39) #[] #[.pointer (some ⟨w.heap.size, 0, none⟩), .pointer (some ⟨w.heap.size + 1, 0, none⟩)]) ∧ sibW w n i = w' := by
  refine callsIn_of_wp Try.func31 rfl trivial ?_ rfl
  simp only [Try.ntmps31, List.size_toArray, List.length_cons, List.length_nil, Nat.reduceAdd, Nat.reduceSub, Array.replicate_succ, Array.replicate_zero, List.push_toArray, List.append_toArray, List.nil_append, List.cons_append]
  gi_wp2
  go_ret
  exact ⟨rfl, rfl⟩

theorem sib_seq (q : Obj → Prop) (n i bn bi : Nat) (hi : i < n) (hn : n ≤ 1000000) (w0 : World) (h1 : Boxed w0 bn 3 (.int .i64 (n : Int))) (h2 : Boxed w0 bi 3 (.int .i64 (i : Int))) :
    SeqG Try.prog 39 #[.pointer (some ⟨bn, 0, none⟩), .pointer (some ⟨bi, 0, none⟩)] (fun s => #[encSib s]) (sibs 0 n i) (fun g => g = bn ∨ g = bi) 0 q w0 :=
  fun m l J Jx W hG _ _ hY h0 =>
    siblings1_in n i bn bi hi hn l W.heap.size (sibs 0 n i) rfl J Jx (Kept W.heap.size (Hold (fun g => g = bn ∨ g = bi) W.heap.size 0) q) (fun _ _ h => h.size)
      (fun m pre x W1 hj hs hp => (hY m pre x W1 hj hs hp).mono fun e W' h => h.elim .inl fun ⟨h1, h2, _⟩ => .inr ⟨h1, h2⟩) m W (Boxed.cell (t := 3) (hG bn _ (.inl rfl) h1)) (Boxed.cell (t := 3) (hG bi _ (.inr rfl) h2)) (Nat.le_refl _) h0
end Go.Proofs.Ytchmiaeajkpijaa

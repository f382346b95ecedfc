import Derived.Test.YtfoiadabppnibaaRows
namespace Go.Proofs.Ytfoiadabppnibaa
set_option linter.unusedVariables false

/-! The arithmetic of digests: steps and their undoing, groups of bytes, digits. -/
def foldB (n : Nat) (x : BitVec 64) : BitVec 64 := x ^^^ (x >>> n)
def unfoldB (n : Nat) (x : BitVec 64) : BitVec 64 := x ^^^ (x >>> n) ^^^ (x >>> (2 * n))
theorem xor4 (a b c : Bool) : ((a ^^ b) ^^ (b ^^ c) ^^ (c ^^ false)) = a := by cases a <;> cases b <;> cases c <;> rfl
theorem unfold_fold (n : Nat) (h : 22 ≤ n) (x : BitVec 64) : unfoldB n (foldB n x) = x := by
  apply BitVec.eq_of_getLsbD_eq
  intro i hi
  unfold unfoldB foldB
  simp only [BitVec.getLsbD_xor, BitVec.getLsbD_ushiftRight]
  have e1 : n + (n + i) = 2 * n + i := by omega
  have e2 : x.getLsbD (n + (2 * n + i)) = false := BitVec.getLsbD_of_ge _ _ (by omega)
  rw [e1, e2]
  exact xor4 _ _ _
theorem fold_unfold (n : Nat) (h : 22 ≤ n) (x : BitVec 64) : foldB n (unfoldB n x) = x := by
  apply BitVec.eq_of_getLsbD_eq
  intro i hi
  unfold unfoldB foldB
  simp only [BitVec.getLsbD_xor, BitVec.getLsbD_ushiftRight]
  have e1 : n + (n + i) = 2 * n + i := by omega
  have e3 : 2 * n + (n + i) = n + (2 * n + i) := by omega
  have e2 : x.getLsbD (n + (2 * n + i)) = false := BitVec.getLsbD_of_ge _ _ (by omega)
  rw [e3, e1, e2]
  generalize x.getLsbD i = a, x.getLsbD (n + i) = b, x.getLsbD (2 * n + i) = c
  cases a <;> cases b <;> cases c <;> rfl
def c1 : BitVec 64 := 0x9E3779B97F4A7C15#64
def c2 : BitVec 64 := 0xBF58476D1CE4E5B9#64
def invB (n : BitVec 64) : BitVec 64 := let f := fun x : BitVec 64 => x * (2#64 - n * x); f (f (f (f (f n))))
theorem c1i : c1 * invB c1 = 1#64 := by decide
theorem c2i : c2 * invB c2 = 1#64 := by decide
def stepB (h w : BitVec 64) : BitVec 64 := foldB 32 (foldB 29 ((h ^^^ w) * c1) * c2)
def backB (h x : BitVec 64) : BitVec 64 := (unfoldB 29 (unfoldB 32 x * invB c2) * invB c1) ^^^ h
theorem back_step (h w : BitVec 64) : backB h (stepB h w) = w := by
  unfold backB stepB
  rw [unfold_fold 32 (by omega), BitVec.mul_assoc, c2i, BitVec.mul_one, unfold_fold 29 (by omega), BitVec.mul_assoc, c1i, BitVec.mul_one, BitVec.xor_comm h w, BitVec.xor_assoc, BitVec.xor_self, BitVec.xor_zero]
theorem step_back (h x : BitVec 64) : stepB h (backB h x) = x := by
  unfold backB stepB
  have c1i' : invB c1 * c1 = 1#64 := by rw [BitVec.mul_comm]; exact c1i
  have c2i' : invB c2 * c2 = 1#64 := by rw [BitVec.mul_comm]; exact c2i
  rw [BitVec.xor_comm _ h, ← BitVec.xor_assoc, BitVec.xor_self, BitVec.zero_xor, BitVec.mul_assoc, c1i', BitVec.mul_one, fold_unfold 29 (by omega), BitVec.mul_assoc, c2i', BitVec.mul_one, fold_unfold 32 (by omega)]
theorem step_comm (h w : BitVec 64) : stepB h w = stepB w h := by unfold stepB; rw [BitVec.xor_comm]
theorem step_inj {h v w : BitVec 64} (e : stepB h v = stepB h w) : v = w := by rw [← back_step h v, e, back_step]
theorem step_inj' {h v w : BitVec 64} (e : stepB v h = stepB w h) : v = w := by rw [step_comm v, step_comm w] at e; exact step_inj e
/-! hexadecimal digits -/
def hexC (d : Nat) : UInt8 := if d < 10 then UInt8.ofNat (48 + d) else UInt8.ofNat (87 + d)
def hexD (c : UInt8) : Option Nat := if 48 ≤ c.toNat ∧ c.toNat ≤ 57 then some (c.toNat - 48) else if 97 ≤ c.toNat ∧ c.toNat ≤ 102 then some (c.toNat - 87) else none
theorem hexC_toNat {d : Nat} (h : d < 16) : (hexC d).toNat = if d < 10 then 48 + d else 87 + d := by
  unfold hexC
  by_cases h1 : d < 10
  · rw [if_pos h1, if_pos h1]; simp; omega
  · rw [if_neg h1, if_neg h1]; simp; omega
theorem hexD_hexC {d : Nat} (h : d < 16) : hexD (hexC d) = some d := by
  unfold hexD
  rw [hexC_toNat h]
  by_cases h1 : d < 10
  · rw [if_pos h1, if_pos (by omega)]; congr 1; omega
  · rw [if_neg h1, if_neg (by omega), if_pos (by omega)]; congr 1; omega
theorem hexC_hexD {c : UInt8} {d : Nat} (h : hexD c = some d) : hexC d = c ∧ d < 16 := by
  unfold hexD at h
  split at h
  · obtain rfl := Option.some.inj h
    refine ⟨?_, by omega⟩
    apply UInt8.toNat_inj.1
    rw [hexC_toNat (by omega), if_pos (by omega)]; omega
  · split at h
    · obtain rfl := Option.some.inj h
      refine ⟨?_, by omega⟩
      apply UInt8.toNat_inj.1
      rw [hexC_toNat (by omega), if_neg (by omega)]; omega
    · cases h
def textN (n : Nat) : Nat → List UInt8
  | 0 => []
  | k + 1 => hexC (n / 16 ^ k % 16) :: textN n k
theorem textN_length (n k : Nat) : (textN n k).length = k := by induction k with
  | zero => rfl
  | succ k ih => simp [textN, ih]
theorem textN_snoc (n k : Nat) : textN n (k + 1) = textN (n / 16) k ++ [hexC (n % 16)] := by
  induction k with
  | zero => simp [textN]
  | succ k ih =>
    rw [textN, ih, textN, Nat.div_div_eq_div_mul]
    rw [show (16 : Nat) ^ (k + 1) = 16 * 16 ^ k by rw [Nat.pow_succ, Nat.mul_comm]]
    rfl
def valF : Nat → List UInt8 → Option Nat
  | a, [] => some a
  | a, c :: l => match hexD c with
    | none => none
    | some d => valF (a * 16 + d) l
theorem valF_cons {a d : Nat} {c : UInt8} {l : List UInt8} (h : hexD c = some d) : valF a (c :: l) = valF (a * 16 + d) l := by simp [valF, h]
theorem valF_snoc (l : List UInt8) (c : UInt8) : ∀ a, valF a (l ++ [c]) = (valF a l).bind fun v => (hexD c).map fun d => v * 16 + d := by
  induction l with
  | nil => intro a; simp only [List.nil_append, valF]; cases hexD c <;> rfl
  | cons b l ih =>
    intro a
    simp only [List.cons_append, valF]
    cases hexD b with
    | none => rfl
    | some d => exact ih _
theorem valF_text (k : Nat) : ∀ n, n < 16 ^ k → valF 0 (textN n k) = some n := by
  induction k with
  | zero => intro n h; simp at h; subst h; rfl
  | succ k ih =>
    intro n h
    rw [textN_snoc, valF_snoc, ih (n / 16) (by rw [Nat.pow_succ] at h; omega), hexD_hexC (by omega)]
    simp; omega
theorem text_valF (l : List UInt8) : ∀ v, valF 0 l = some v → textN v l.length = l ∧ v < 16 ^ l.length := by
  generalize hn : l.length = n
  induction n generalizing l with
  | zero => obtain rfl := List.eq_nil_of_length_eq_zero hn; intro v h; simp [valF] at h; subst h; exact ⟨rfl, by decide⟩
  | succ n ih =>
    intro v h
    obtain ⟨l', c, rfl⟩ : ∃ l' c, l = l' ++ [c] := ⟨l.dropLast, l.getLast (by intro e; simp [e] at hn), (List.dropLast_concat_getLast _).symm⟩
    rw [valF_snoc] at h
    cases h1 : valF 0 l' with
    | none => rw [h1] at h; cases h
    | some v' =>
      rw [h1] at h
      cases h2 : hexD c with
      | none => rw [h2] at h; cases h
      | some d =>
        rw [h2] at h
        obtain rfl := Option.some.inj h
        obtain ⟨g1, g2⟩ := hexC_hexD h2
        obtain ⟨g3, g4⟩ := ih l' (by simpa using hn) v' h1
        refine ⟨?_, by show v' * 16 + d < _; rw [Nat.pow_succ]; omega⟩
        show textN (v' * 16 + d) (n + 1) = _
        rw [textN_snoc, show (v' * 16 + d) / 16 = v' by omega, show (v' * 16 + d) % 16 = d by omega, g1, g3]
theorem textN_inj {n m k : Nat} (hn : n < 16 ^ k) (hm : m < 16 ^ k) (h : textN n k = textN m k) : n = m := by
  have := valF_text k n hn
  rw [h, valF_text k m hm] at this
  exact (Option.some.inj this).symm
theorem valF_take_lt (l : List UInt8) (k v : Nat) (h : valF 0 (l.take k) = some v) : v < 16 ^ k := by
  have := (text_valF _ v h).2
  exact Nat.lt_of_lt_of_le this (Nat.pow_le_pow_right (by omega) (by simp; omega))

/-! groups of bytes -/
def numL : List UInt8 → Nat
  | [] => 0
  | b :: l => b.toNat + 256 * numL l
theorem numL_lt (l : List UInt8) : numL l < 256 ^ l.length := by
  induction l with
  | nil => simp [numL]
  | cons b l ih => have := b.toNat_lt; simp only [numL, List.length_cons, Nat.pow_succ]; omega
theorem numL_snoc (l : List UInt8) (b : UInt8) : numL (l ++ [b]) = numL l + b.toNat * 256 ^ l.length := by
  induction l with
  | nil => simp [numL]
  | cons c l ih => simp only [List.cons_append, numL, ih, List.length_cons, Nat.pow_succ]; rw [Nat.mul_add, Nat.mul_left_comm, Nat.mul_comm 256 (256 ^ l.length)]; omega
theorem numL_zeros (l : List UInt8) (n : Nat) : numL (l ++ List.replicate n 0) = numL l := by
  induction n with
  | zero => simp
  | succ n ih => rw [List.replicate_succ', ← List.append_assoc, numL_snoc, ih]; simp
theorem numL_set (l : List UInt8) : ∀ (k : Nat) (v : UInt8) (h : k < l.length), (numL (l.set k v) = numL l ↔ v = l[k]) := by
  induction l with
  | nil => intro k v h; simp at h
  | cons b l ih =>
    intro k v h
    have hv := v.toNat_lt
    have hb := b.toNat_lt
    cases k with
    | zero =>
      simp only [List.set_cons_zero, numL, List.getElem_cons_zero]
      constructor
      · intro e; apply UInt8.toNat_inj.1; omega
      · rintro rfl; rfl
    | succ k =>
      simp only [List.set_cons_succ, numL, List.getElem_cons_succ]
      rw [← ih k v (by simpa using h)]
      omega
theorem or_sum (x b k : Nat) (h : x < 2 ^ k) : x ||| b * 2 ^ k = x + b * 2 ^ k := by
  have := Nat.shiftLeft_add_eq_or_of_lt h b
  rw [Nat.shiftLeft_eq] at this
  rw [Nat.or_comm, ← this, Nat.add_comm]

/-! steps one after the other -/
def stepsB (h : BitVec 64) (ws : List (BitVec 64)) : BitVec 64 := ws.foldl stepB h
theorem steps_inj (ws : List (BitVec 64)) : ∀ g h, stepsB g ws = stepsB h ws ↔ g = h := by
  induction ws with
  | nil => intro g h; exact Iff.rfl
  | cons w ws ih =>
    intro g h
    show stepsB (stepB g w) ws = stepsB (stepB h w) ws ↔ _
    rw [ih]
    exact ⟨step_inj', fun e => by rw [e]⟩
theorem steps_set (ws : List (BitVec 64)) : ∀ (h : BitVec 64) (k : Nat) (v : BitVec 64) (hk : k < ws.length), (stepsB h (ws.set k v) = stepsB h ws ↔ v = ws[k]) := by
  induction ws with
  | nil => intro h k v hk; simp at hk
  | cons w ws ih =>
    intro h k v hk
    cases k with
    | zero =>
      show stepsB (stepB h v) ws = stepsB (stepB h w) ws ↔ v = w
      rw [steps_inj]
      exact ⟨step_inj, fun e => by rw [e]⟩
    | succ k => exact ih (stepB h w) k v (by simpa using hk)
theorem steps_snoc (h : BitVec 64) (ws : List (BitVec 64)) (w : BitVec 64) : stepsB h (ws ++ [w]) = stepB (stepsB h ws) w := by simp [stepsB]
def c3 : BitVec 64 := 0x243F6A8885A308D3#64
def c4 : BitVec 64 := 0x13198A2E03707344#64
def c5 : BitVec 64 := 0xA4093822299F31D0#64
def wordsB (l : List Int) : BitVec 64 := stepsB (stepB c3 (BitVec.ofNat 64 l.length)) (l.map (BitVec.ofInt 64))
def joinB (a b : BitVec 64) : BitVec 64 := stepB (stepB c5 a) b
def groupsF : Nat → List UInt8 → List (BitVec 64)
  | 0, _ => []
  | n + 1, l => if l.length = 0 then [] else BitVec.ofNat 64 (numL (l.take 8)) :: groupsF n (l.drop 8)
def bytesB (l : List UInt8) : BitVec 64 := stepsB (stepB c4 (BitVec.ofNat 64 l.length)) (groupsF l.length l)
theorem groupsF_more (n : Nat) : ∀ (m : Nat) (l : List UInt8), l.length ≤ n → l.length ≤ m → groupsF n l = groupsF m l := by
  induction n with
  | zero =>
    intro m l hn _
    have h0 : l.length = 0 := by omega
    cases m with
    | zero => rfl
    | succ m => simp [groupsF, h0]
  | succ n ih =>
    intro m l hn hm
    by_cases h0 : l.length = 0
    · cases m with
      | zero => simp [groupsF, h0]
      | succ m => simp [groupsF, h0]
    · cases m with
      | zero => omega
      | succ m =>
        simp only [groupsF, if_neg h0]
        rw [ih m (l.drop 8) (by simp; omega) (by simp; omega)]
theorem groups_nil (n : Nat) : groupsF n [] = [] := by cases n <;> rfl
theorem groups_step (l : List UInt8) (h : l.length ≠ 0) : groupsF l.length l = BitVec.ofNat 64 (numL (l.take 8)) :: groupsF (l.drop 8).length (l.drop 8) := by
  obtain ⟨n, hn⟩ : ∃ n, l.length = n + 1 := ⟨l.length - 1, by omega⟩
  rw [hn]
  simp only [groupsF, if_neg h]
  rw [groupsF_more n (l.drop 8).length (l.drop 8) (by simp; omega) (Nat.le_refl _)]
theorem numL_lt8 (l : List UInt8) (h : l.length ≤ 8) : numL l < 2 ^ 64 := by
  have := numL_lt l
  exact Nat.lt_of_lt_of_le this (by rw [show (2 : Nat) ^ 64 = 256 ^ 8 by decide]; exact Nat.pow_le_pow_right (by omega) h)
theorem ofNat_inj {a b : Nat} (ha : a < 2 ^ 64) (hb : b < 2 ^ 64) : BitVec.ofNat 64 a = BitVec.ofNat 64 b ↔ a = b := by
  constructor
  · intro h
    have := congrArg BitVec.toNat h
    simp only [BitVec.toNat_ofNat] at this
    rwa [Nat.mod_eq_of_lt ha, Nat.mod_eq_of_lt hb] at this
  · intro h; rw [h]
theorem groups_set (n : Nat) : ∀ (l : List UInt8) (h : BitVec 64) (k : Nat) (v : UInt8) (hk : k < l.length), l.length ≤ n →
    (stepsB h (groupsF (l.set k v).length (l.set k v)) = stepsB h (groupsF l.length l) ↔ v = l[k]) := by
  induction n with
  | zero => intro l h k v hk hn; omega
  | succ n ih =>
    intro l h k v hk hn
    have hl : (l.set k v).length = l.length := List.length_set
    rw [groups_step l (by omega), groups_step (l.set k v) (by omega)]
    show stepsB (stepB h _) _ = stepsB (stepB h _) _ ↔ _
    by_cases h8 : k < 8
    · have e1 : (l.set k v).drop 8 = l.drop 8 := by rw [List.drop_set]; rw [if_pos h8]
      have e2 : (l.set k v).take 8 = (l.take 8).set k v := by rw [List.take_set]
      have hk' : k < (l.take 8).length := by simp; omega
      have e3 : (l.take 8)[k] = l[k] := by simp
      rw [e1, e2, steps_inj, ← e3, ← numL_set _ k v hk', ← ofNat_inj (numL_lt8 _ (by simp; omega)) (numL_lt8 _ (by simp; omega))]
      exact ⟨step_inj, fun e => by rw [e]⟩
    · have e1 : (l.set k v).drop 8 = (l.drop 8).set (k - 8) v := by rw [List.drop_set]; rw [if_neg (by omega)]
      have e2 : (l.set k v).take 8 = l.take 8 := by rw [List.take_set]; exact List.set_eq_of_length_le (by simp; omega)
      have e3 : l[k] = (l.drop 8)[k - 8]'(by simp; omega) := by simp only [List.getElem_drop]; congr 1; omega
      rw [e1, e2, e3]
      exact ih (l.drop 8) _ (k - 8) v (by simp; omega) (by simp; omega)
theorem bytes_set (l : List UInt8) (k : Nat) (v : UInt8) (hk : k < l.length) : bytesB (l.set k v) = bytesB l ↔ v = l[k] := by
  unfold bytesB
  rw [show BitVec.ofNat 64 (l.set k v).length = BitVec.ofNat 64 l.length by rw [List.length_set]]
  exact groups_set l.length l _ k v hk (Nat.le_refl _)
theorem bytes_zero (l : List UInt8) (h1 : l.length ≠ 0) (h8 : l.length < 8) : bytesB (l ++ [0]) ≠ bytesB l := by
  unfold bytesB
  have e : groupsF (l ++ [0]).length (l ++ [0]) = groupsF l.length l := by
    rw [groups_step l h1, groups_step (l ++ [0]) (by simp), List.drop_eq_nil_of_le (show (l ++ [0]).length ≤ 8 by simp; omega), List.drop_eq_nil_of_le (show l.length ≤ 8 by omega),
      List.take_of_length_le (show (l ++ [0]).length ≤ 8 by simp; omega), List.take_of_length_le (show l.length ≤ 8 by omega)]
    rw [show numL (l ++ [0]) = numL l from numL_zeros l 1]
  rw [e]
  intro h
  rw [steps_inj] at h
  have := (ofNat_inj (by simp; omega) (by omega)).1 (step_inj h)
  simp at this
theorem words_set (l : List Int) (k : Nat) (v : Int) (hk : k < l.length) (hv : -9223372036854775808 ≤ v ∧ v ≤ 9223372036854775807) (hl : -9223372036854775808 ≤ l[k] ∧ l[k] ≤ 9223372036854775807) : wordsB (l.set k v) = wordsB l ↔ v = l[k] := by
  unfold wordsB
  rw [List.length_set, List.map_set, steps_set _ _ k _ (by simpa using hk)]
  simp only [List.getElem_map]
  constructor
  · intro h
    have := congrArg BitVec.toInt h
    rw [BitVec.toInt_ofInt_eq_self (by decide) (by omega) (by omega), BitVec.toInt_ofInt_eq_self (by decide) (by omega) (by omega)] at this
    exact this
  · intro h; rw [h]
theorem join_right (a b c : BitVec 64) : joinB a b = joinB a c ↔ b = c := ⟨step_inj, fun e => by rw [e]⟩
theorem join_left (a b c : BitVec 64) : joinB a b = joinB c b ↔ a = c := ⟨fun h => step_inj (step_inj' h), fun e => by rw [e]⟩
end Go.Proofs.Ytfoiadabppnibaa

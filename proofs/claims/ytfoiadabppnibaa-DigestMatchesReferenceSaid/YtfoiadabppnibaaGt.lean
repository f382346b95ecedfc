import Derived.Test.YtfoiadabppnibaaGb
import Derived.OneCell
import Derived.Laws.BitsAllLaws
namespace Go.Proofs.Ytfoiadabppnibaa
open Go.RowKit Go.Instr
set_option linter.unusedVariables false

/-! A block known whole; 'digest.Text'. -/
theorem heap_new (w : World) (o : Obj) : (w.alloc o).heap[w.heap.size]? = some o := (MapKept.heap_alloc w o).1
theorem blk_cell {w : World} {b j : Nat} {cs : Array Value} {t : TypeId} (h : w.heap[b]? = some (.cells cs t (0, 0))) {v : Value} (hj : cs[j]? = some v) : w.cell? ⟨b, j, none⟩ = some v := by simp [World.cell?, h, hj]
theorem blk_free {w : World} {b : Nat} {cs : Array Value} {t : TypeId} (h : w.heap[b]? = some (.cells cs t (0, 0))) (j : Nat) : w.frozen? ⟨b, j, none⟩ = false := by simp [World.frozen?, h]
theorem blk_set {w : World} {b j : Nat} {cs : Array Value} {t : TypeId} (h : w.heap[b]? = some (.cells cs t (0, 0))) (u : Value) : (w.setCell ⟨b, j, none⟩ u).heap[b]? = some (.cells (cs.setIfInBounds j u) t (0, 0)) := by
  have hlt := lt_of_block h
  have h' : w.heap[b] = .cells cs t (0, 0) := by simpa [Array.getElem?_eq_getElem hlt] using h
  show (w.heap.modify b _)[b]? = _
  rw [Array.getElem?_eq_getElem (by simpa using hlt), Array.getElem_modify_self, h']
  rfl
/-- The array of a text of which the last k digits are written. -/
def txtA (n k : Nat) : List Value := List.replicate (16 - k) (.int .u8 0) ++ (textN n k).map fun c => .int .u8 (c.toNat : Int)
theorem txtA_len (n k : Nat) (h : k ≤ 16) : (txtA n k).length = 16 := by simp [txtA, textN_length]; omega
theorem txtA_set (n k : Nat) (h : k < 16) : (txtA n k).set (15 - k) (.int .u8 ((hexC (n / 16 ^ k % 16)).toNat : Int)) = txtA n (k + 1) := by
  unfold txtA
  rw [List.set_append_left _ _ (by simp; omega)]
  rw [show 16 - k = 15 - k + 1 by omega, List.replicate_succ', List.set_append_right _ _ (by simp)]
  simp [textN, show 16 - (k + 1) = 15 - k by omega]

def digitsA : ByteArray := ⟨#[48, 49, 50, 51, 52, 53, 54, 55, 56, 57, 97, 98, 99, 100, 101, 102]⟩
theorem digits_at (d : Nat) (h : d < 16) (h2 : d < digitsA.size) : digitsA[d] = hexC d := by
  have : ∀ d : Fin 16, digitsA[d.val]'d.isLt = hexC d.val := by decide
  exact this ⟨d, h⟩
theorem div_next (x k : Nat) : x / 16 ^ k / 16 = x / 16 ^ (k + 1) := by rw [Nat.div_div_eq_div_mul, Nat.pow_succ]

set_option maxHeartbeats 1000000 in
theorem text_any (x : Nat) (hx : x < 18446744073709551616) (w : World) :
    Calls Try.prog 21 #[.int .u64 (x : Int)] w fun e w' => e = .returned (.string ⟨(textN x 16).toArray⟩) ∧ Below w.heap.size w w' := by
  go_enter Try.func21, Try.ntmps21
  go_wp2
  go_loopw [0, 5] (fun v i wr => ∃ k q : Nat, k ≤ 16 ∧ i = .int .i64 k ∧ v = .int .u64 (q : Int) ∧ Hid (q = x / 16 ^ k) ∧ Hid (wr.heap[w.heap.size]? = some (.cells (txtA x k).toArray 46 (0, 0))) ∧ Below w.heap.size w wr) (fun _ i _ => 16 - (intOf i).toNat)
  case atStart => exact ⟨0, x, by omega, rfl, rfl, hid (by simp), heap_new _ _, (Below.refl _ _).alloc (Nat.le_refl _) _⟩
  case round =>
    obtain ⟨k, q, hk, rfl, rfl, HQ, HB, hb⟩ := hrel
    by_cases hlt : k < 16
    · have hc := blk_cell HB.out (j := 15 - k) (v := (txtA x k)[15 - k]'(by rw [txtA_len _ _ hk]; omega)) (by simp [txtA_len _ _ hk])
      have hf := blk_free HB.out (15 - k)
      have hq : q < 18446744073709551616 := by have := HQ.out; have := Nat.div_le_self x (16 ^ k); omega
      go_wp2
      go_roundw
      case rel =>
        refine ⟨k + 1, q / 16, by omega, by go_num, by go_num, hid (by rw [HQ.out]; exact div_next x k), ?_, hb.setCell (by simp) _⟩
        have e1 : ((digitsA[q % 16]'(by show q % 16 < 16; omega)).toNat : Int) = ((hexC (x / 16 ^ k % 16)).toNat : Int) := by rw [digits_at _ (by omega), HQ.out]
        have e2 := blk_set HB.out (j := 15 - k) (.int .u8 ((hexC (x / 16 ^ k % 16)).toNat : Int))
        rw [List.setIfInBounds_toArray, txtA_set x k hlt, ← e1] at e2
        exact e2
      case measure => simp [intOf]; omega
    · obtain rfl : k = 16 := by omega
      have hcv := run_convert_bytes_back (P := Try.prog) wr 23 9 5 ⟨w.heap.size, 0, none⟩ 16 (textN x 16) Try.underlying23 Try.underlying5 Try.underlying9 (fun j hj => by
        have hj' : j < 16 := by rw [textN_length] at hj; exact hj
        refine (congrArg wr.cell? (show (⟨w.heap.size, 0, none⟩ : Addr).add j = ⟨w.heap.size, j, none⟩ by simp [Addr.add]; omega)).trans (blk_cell HB.out ?_)
        simp [txtA, hj']
        exact ⟨_, List.getElem?_eq_getElem hj, rfl⟩)
      rw [textN_length] at hcv
      go_wp2
      go_ret
      exact ⟨rfl, hb⟩

/-! 'digest.digit', 'digest.Parse'. -/
def digV (c : UInt8) : Value := match hexD c with
  | none => .tuple #[.int .u64 0, .bool false]
  | some d => .tuple #[.int .u64 (d : Int), .bool true]
theorem digit_any (c : UInt8) (w : World) :
    Calls Try.prog 32 #[.int .u8 (c.toNat : Int)] w fun e w' => e = .returned (digV c) ∧ w = w' := by
  have hl := c.toNat_lt
  by_cases h1 : 48 ≤ c.toNat ∧ c.toNat ≤ 57
  · have e : digV c = .tuple #[.int .u64 ((c.toNat - 48 : Nat) : Int), .bool true] := by unfold digV hexD; rw [if_pos h1]
    rw [e]
    obtain ⟨h2, h3⟩ := h1
    have d1 : decide ((48 : Int) ≤ (c.toNat : Int)) = true := by simp; omega
    have d2 : decide ((c.toNat : Int) ≤ (57 : Int)) = true := by simp; omega
    have e2 : ((c.toNat - 48 : Nat) : Int) = (c.toNat : Int) - 48 := by omega
    rw [e2]
    clear e2 e
    go_enter Try.func32, Try.ntmps32
    go_wp2
    go_ret2
    exact ⟨rfl, rfl⟩
  · by_cases h2 : 97 ≤ c.toNat ∧ c.toNat ≤ 102
    · have e : digV c = .tuple #[.int .u64 ((c.toNat - 87 : Nat) : Int), .bool true] := by unfold digV hexD; rw [if_neg h1, if_pos h2]
      rw [e]
      obtain ⟨h3, h4⟩ := h2
      have d1 : decide ((48 : Int) ≤ (c.toNat : Int)) = true := by simp; omega
      have d2 : decide ((c.toNat : Int) ≤ (57 : Int)) = false := by simp; omega
      have d3 : decide ((97 : Int) ≤ (c.toNat : Int)) = true := by simp; omega
      have d4 : decide ((c.toNat : Int) ≤ (102 : Int)) = true := by simp; omega
      have e2 : ((c.toNat - 87 : Nat) : Int) = (c.toNat : Int) - 97 + 10 := by omega
      rw [e2]
      clear e2 e h1
      go_enter Try.func32, Try.ntmps32
      go_wp2
      go_ret2
      exact ⟨rfl, rfl⟩
    · have e : digV c = .tuple #[.int .u64 0, .bool false] := by unfold digV hexD; rw [if_neg h1, if_neg h2]
      rw [e]
      cases d1 : decide ((48 : Int) ≤ (c.toNat : Int))
      · have d3 : decide ((97 : Int) ≤ (c.toNat : Int)) = false := by simp at d1 ⊢; omega
        clear e h1 h2
        go_enter Try.func32, Try.ntmps32
        go_wp2
        go_ret2
        exact ⟨rfl, rfl⟩
      · have d2 : decide ((c.toNat : Int) ≤ (57 : Int)) = false := by simp at d1 ⊢; omega
        cases d3 : decide ((97 : Int) ≤ (c.toNat : Int))
        · clear e h1 h2
          go_enter Try.func32, Try.ntmps32
          go_wp2
          go_ret2
          exact ⟨rfl, rfl⟩
        · have d4 : decide ((c.toNat : Int) ≤ (102 : Int)) = false := by simp at d3 ⊢; omega
          clear e h1 h2
          go_enter Try.func32, Try.ntmps32
          go_wp2
          go_ret2
          exact ⟨rfl, rfl⟩

/-- What 'digest.Parse' returns: the number and the error. -/
def parN (l : List UInt8) : Nat := if l.length = 16 then (valF 0 l).getD 0 else 0
def parE (l : List UInt8) : Int := if l.length = 16 then (if (valF 0 l).isSome then 0 else 3) else 3
def parV (l : List UInt8) : Value := .tuple #[.int .u64 (parN l : Int), .int .i64 (parE l)]
theorem parV_bad {l : List UInt8} (h : l.length ≠ 16 ∨ valF 0 l = none) : parV l = .tuple #[.int .u64 0, .int .i64 3] := by
  unfold parV parN parE
  by_cases h1 : l.length = 16
  · rw [if_pos h1, if_pos h1, h.resolve_left (fun h => h h1)]; rfl
  · rw [if_neg h1, if_neg h1]; rfl
theorem parV_ok {l : List UInt8} (h : l.length = 16) {v : Nat} (hv : valF 0 l = some v) : parV l = .tuple #[.int .u64 (v : Int), .int .i64 0] := by
  unfold parV parN parE
  rw [if_pos h, if_pos h, hv]; rfl
theorem digit_none {c : UInt8} (h : hexD c = none) (w : World) :
    Calls Try.prog 32 #[.int .u8 (c.toNat : Int)] w fun e w' => e = .returned (.tuple #[.int .u64 0, .bool false]) ∧ w = w' := by
  have := digit_any c w
  unfold digV at this
  rw [h] at this
  exact this
theorem digit_some {c : UInt8} {d : Nat} (h : hexD c = some d) (w : World) :
    Calls Try.prog 32 #[.int .u8 (c.toNat : Int)] w fun e w' => e = .returned (.tuple #[.int .u64 (d : Int), .bool true]) ∧ w = w' := by
  have := digit_any c w
  unfold digV at this
  rw [h] at this
  exact this
theorem valF_some_take (l : List UInt8) (k : Nat) (hk : k < l.length) : valF 0 (l.take (k + 1)) = (valF 0 (l.take k)).bind fun v => (hexD l[k]).map fun d => v * 16 + d := by
  rw [List.take_succ_eq_append_getElem hk, valF_snoc]
theorem valF_none_take (l : List UInt8) (k : Nat) (h : valF 0 (l.take k) = none) : valF 0 l = none := by
  have : ∀ (m l' : List UInt8) (a : Nat), valF a m = none → valF a (m ++ l') = none := by
    intro m
    induction m with
    | nil => intro l' a h; cases h
    | cons c m ih =>
      intro l' a h
      simp only [List.cons_append, valF] at h ⊢
      cases hc : hexD c with
      | none => rfl
      | some d => rw [hc] at h; exact ih l' _ h
  have h2 := this (l.take k) (l.drop k) 0 h
  rwa [List.take_append_drop] at h2
set_option maxHeartbeats 1000000 in
theorem parse_any (s : ByteArray) (w : World) :
    Calls Try.prog 31 #[.string s] w fun e w' => e = .returned (parV s.data.toList) ∧ w = w' := by
  have hsl : s.data.toList.length = s.size := by simp
  by_cases hs : s.size = 16
  · have h1 : ((s.size : Int) != 16) = false := by simp; omega
    have H := hid hs
    have HL := hid hsl
    clear hs hsl
    go_enter Try.func31, Try.ntmps31
    go_wp2
    go_loop [4, 13] (fun x i => ∃ k v : Nat, k ≤ 16 ∧ i = .int .i64 k ∧ x = .int .u64 (v : Int) ∧ Hid (valF 0 (s.data.toList.take k) = some v)) (fun _ i => 16 - (intOf i).toNat)
    case atStart => exact ⟨0, 0, by omega, rfl, rfl, hid rfl⟩
    case round =>
      obtain ⟨k, v, hk, rfl, rfl, HV⟩ := hrel
      by_cases hlt : k < 16
      · have hks : k < s.size := by have := H.out; omega
        have hv : v * 16 + 15 < 18446744073709551616 := by
          have h0 := valF_take_lt _ _ _ HV.out
          have h15 : (16 : Nat) ^ k ≤ 16 ^ 15 := Nat.pow_le_pow_right (by omega) (by omega)
          omega
        have HT := hid (valF_some_take s.data.toList k (by have := HL.out; omega))
        have eg : s.data.toList[k]'(by have := HL.out; omega) = s[k] := rfl
        rw [HV.out, eg] at HT
        cases hd : hexD s[k] with
        | none =>
          have C := hid (fun w => digit_none hd w)
          have HB := hid (parV_bad (Or.inr (valF_none_take _ (k + 1) (by rw [HT.out, hd]; rfl))))
          clear HT hd
          go_wp2_with fail
          refine (C.out _).mono ?_
          rintro e w1 ⟨rfl, rfl⟩
          go_wp2
          go_ret2
          exact ⟨(congrArg Ending.returned HB.out).symm, rfl⟩
        | some d =>
          have C := hid (fun w => digit_some hd w)
          have hd2 := (hexC_hexD hd).2
          have HT2 := hid (show valF 0 (s.data.toList.take (k + 1)) = some (v * 16 + d) by rw [HT.out, hd]; rfl)
          clear HT hd
          go_wp2_with fail
          refine (C.out _).mono ?_
          rintro e w1 ⟨rfl, rfl⟩
          go_wp2
          go_round
          case rel => exact ⟨k + 1, v * 16 + d, by omega, by go_num, by go_num, HT2⟩
          case measure => simp [intOf]; omega
      · obtain rfl : k = 16 := by omega
        have hV := HV.out
        rw [List.take_of_length_le (by have := HL.out; have := H.out; omega)] at hV
        have HB := hid (parV_ok (by have := HL.out; have := H.out; omega) hV)
        have hsz := H.out
        clear hV
        go_wp2
        go_ret2
        exact ⟨(congrArg Ending.returned HB.out).symm, rfl⟩
  · have h1 : ((s.size : Int) != 16) = true := by simp; omega
    rw [parV_bad (Or.inl (by omega))]
    go_enter Try.func31, Try.ntmps31
    go_wp2
    go_ret2
    exact ⟨rfl, rfl⟩
/-- What 'parsed' returns. -/
theorem parsed_any (s : ByteArray) (w : World) :
    Calls Try.prog 23 #[.string s] w fun e w' => e = .returned (.agg #[.int .u64 (parN s.data.toList : Int), .int .i64 (parE s.data.toList)]) ∧ Below w.heap.size w w' := by
  go_enter Try.func23, Try.ntmps23
  go_wp2_with fail
  refine (parse_any s _).mono ?_
  rintro e w1 ⟨rfl, rfl⟩
  unfold parV
  go_wp2
  exact bodyPost_ret (v := .agg #[.int .u64 (parN s.data.toList : Int), .int .i64 (parE s.data.toList)]) (by simp [results, Try.results23, go_sem]) rfl ⟨rfl, below_a (Below.refl _ _) _⟩
end Go.Proofs.Ytfoiadabppnibaa

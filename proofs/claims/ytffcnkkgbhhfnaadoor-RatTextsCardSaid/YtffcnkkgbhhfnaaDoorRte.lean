import Derived.Test.YtffcnkkgbhhfnaaDoorRtw
import Derived.Laws.BytesArg
namespace Go.Proofs.YtffcnkkgbhhfnaaDoor
open Go.RowKit Go.Instr
set_option linter.unusedVariables false

/-! 'edited': some string that is at most one longer. -/
set_option maxRecDepth 100000 in
set_option maxHeartbeats 4000000 in
theorem edited_any (s : ByteArray) (hs : s.size ≤ 1000) (z0 z1 z2 : Nat) (h0 : z0 ≤ 255) (h1 : z1 ≤ 255) (h2 : z2 ≤ 255) (w : World) :
    Calls Tryd.prog 9 #[.string s, .agg #[.int .u8 (z0 : Int), .int .u8 (z1 : Int), .int .u8 (z2 : Int)]] w fun e w' => (∃ t : ByteArray, e = .returned (.string t) ∧ t.size ≤ s.size + 1) ∧ Below w.heap.size w w' := by
  obtain ⟨i, hi⟩ : ∃ i, z1 % (s.size + 1) = i := ⟨_, rfl⟩
  have hiI := hid (show (z1 : Int) % ((s.size : Int) + 1) = (i : Int) by rw [← hi, Int.natCast_emod]; rfl)
  have hib : i ≤ s.size := by have := Nat.mod_lt z1 (show 0 < s.size + 1 by omega); omega
  have p1 : ¬ ((s.size : Int) + 1 = 0) := by omega
  have p2 : (((s.size : Int) + 1) == 0) = false := by rw [beq_eq_false_iff_ne]; omega
  have p3 : (0 : Int) ≤ (z1 : Int) := by omega
  have p4 : (1 : Int) ≤ (s.size : Int) + 1 := by omega
  clear hi
  have hcv := run_convert_bytes_arg (P := Tryd.prog) ((w.alloc (.cells #[.int .u8 (z0 : Int), .int .u8 (z1 : Int), .int .u8 (z2 : Int)] 23)).alloc (.cells #[.int .u8 (z2 : Int)] 5)) 46 5 Tryd.underlying46 Tryd.underlying5 (w.heap.size + 1) 0 1 1 [(z2 : Int)] rfl (by intro j hj; obtain rfl : j = 0 := (by omega); simp [go_sem]) 9 Tryd.underlying9
  obtain ⟨b, hb0⟩ : ∃ b, strOfNums [(z2 : Int)] = b := ⟨_, rfl⟩
  have hb1 : b.size = 1 := by rw [← hb0]; rfl
  rw [hb0] at hcv
  clear hb0
  have e1 : (s.extract 0 i).size = i := by rw [ByteArray.size_extract]; omega
  have e2 : (s.extract i s.size).size = s.size - i := by rw [ByteArray.size_extract]; omega
  have e4 : (s.extract 0 i ++ b).size = i + 1 := by rw [ByteArray.size_append, e1, hb1]
  have f1 : (0 : Int) ≤ (i : Int) := by omega
  have f2 : (i : Int) ≤ (s.size : Int) := by omega
  by_cases q1 : z0 % 3 = 0
  · have c1 : ((z0 : Int) % 3 == 0) = true := by rw [beq_iff_eq]; omega
    clear q1
    go_enter Tryd.func9, Tryd.ntmps9
    go_wp2_with fail
    rw [hiI.out]
    go_quiet (fail)
    go_wp2_with fail
    go_ret
    exact ⟨⟨_, rfl, by rw [ByteArray.size_append, ByteArray.size_append, e1, e2, hb1]; omega⟩, below_drewN (below_a (below_a (Below.refl _ _) _) _) _⟩
  · have c1 : ((z0 : Int) % 3 == 0) = false := by rw [beq_eq_false_iff_ne]; omega
    have c2h : ∀ b : Bool, ((i : Int) == (s.size : Int)) = b → ((z1 : Int) % ((s.size : Int) + 1) == (s.size : Int)) = b := fun b h => by rw [hiI.out]; exact h
    by_cases q2 : i = s.size
    · have c2 := c2h true (by rw [beq_iff_eq]; omega)
      clear q1 q2 c2h
      go_enter Tryd.func9, Tryd.ntmps9
      go_wp2_with fail
      rw [hiI.out]
      go_quiet (fail)
      go_wp2_with fail
      go_ret
      exact ⟨⟨_, rfl, by rw [ByteArray.size_append, ByteArray.size_append, e1, e2, hb1]; omega⟩, below_drewN (below_a (below_a (Below.refl _ _) _) _) _⟩
    · have c2 := c2h false (by rw [beq_eq_false_iff_ne]; omega)
      have e3 : (s.extract (i + 1) s.size).size = s.size - (i + 1) := by rw [ByteArray.size_extract]; omega
      have f3 : (i : Int) + 1 ≤ (s.size : Int) := by omega
      have f4 : (0 : Int) ≤ (i : Int) + 1 := by omega
      have f5 : ((i : Int) + 1).toNat = i + 1 := by omega
      by_cases q3 : z0 % 3 = 1
      · have c3 : ((z0 : Int) % 3 == 1) = true := by rw [beq_iff_eq]; omega
        clear q1 q2 q3 c2h
        go_enter Tryd.func9, Tryd.ntmps9
        go_wp2_with fail
        rw [hiI.out]
        go_quiet (fail)
        go_wp2_with fail
        go_ret
        exact ⟨⟨_, rfl, by rw [ByteArray.size_append, ByteArray.size_append, e1, e3, hb1]; omega⟩, below_drewN (below_a (below_a (Below.refl _ _) _) _) _⟩
      · have c3 : ((z0 : Int) % 3 == 1) = false := by rw [beq_eq_false_iff_ne]; omega
        clear q1 q2 q3 c2h
        go_enter Tryd.func9, Tryd.ntmps9
        go_wp2_with fail
        rw [hiI.out]
        go_quiet (fail)
        go_wp2_with fail
        go_ret
        exact ⟨⟨_, rfl, by rw [ByteArray.size_append, e1, e3]; omega⟩, below_drewN (below_a (below_a (Below.refl _ _) _) _) _⟩
end Go.Proofs.YtffcnkkgbhhfnaaDoor

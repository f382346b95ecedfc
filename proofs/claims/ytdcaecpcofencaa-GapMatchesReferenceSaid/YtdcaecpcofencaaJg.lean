import Derived.Test.YtdcaecpcofencaaJf2
namespace Go.Proofs.Ytdcaecpcofencaa
open Go.RowKit Go.Instr Go.Deep
set_option maxRecDepth 100000
set_option linter.unusedVariables false
set_option linter.unusedSimpArgs false

/-! gap.Set. -/
/-- What Set gives. -/
def setN (n m : Nat) (Z : Nat → Nat → Int) (vv : Int) (wh sh : Bool) (sw sc : Int) (i j : Nat) : Int := if (i : Int) = vv then (if (wh && sh) = true then sumF (boundF n m Z sw j) sc else 1099511627776) else Z i j
/-- Numbers of gaps. -/
def Zok (n m : Nat) (Z : Nat → Nat → Int) : Prop := ∀ i j, i < n → j < m → fineB (Z i j) = true
theorem nearB_iff (x : Int) : nearB x = true ↔ -17179869184 ≤ x ∧ x ≤ 17179869184 := by unfold nearB; simp
theorem fineB_iff (x : Int) : fineB x = true ↔ x = 1099511627776 ∨ (-17179869184 ≤ x ∧ x ≤ 17179869184) := by unfold fineB; simp [nearB_iff]
theorem Zok.bd {n m : Nat} {Z : Nat → Nat → Int} (h : Zok n m Z) {i j : Nat} (hi : i < n) (hj : j < m) : -17179869184 ≤ Z i j ∧ Z i j ≤ 1099511627776 := by
  have := (fineB_iff _).1 (h i j hi hj)
  omega
theorem boundF_bd {n m : Nat} {Z : Nat → Nat → Int} (h : Zok n m Z) (v p : Int) : -17179869184 ≤ boundF n m Z v p ∧ boundF n m Z v p ≤ 1099511627776 := by
  unfold boundF
  split
  · rename_i hh
    exact h.bd (by omega) (by omega)
  · omega
theorem sum_anyR (a k : Int) (ha1 : -4398046511104 ≤ a) (ha2 : a ≤ 4398046511104) (hk1 : -4398046511104 ≤ k) (hk2 : k ≤ 4398046511104) (w : World) : Calls Try.prog 48 #[.int .i64 a, .int .i64 k] w fun e w' => e = .returned (.int .i64 (sumF a k)) ∧ w' = w := (sum_any a k ha1 ha2 hk1 hk2 w).mono fun e w' h => ⟨h.1, h.2.symm⟩
theorem bound_anyR {w : World} {lo b n m : Nat} {R C : Nat → Nat} {Z : Nat → Nat → Int} (c : Nat) (h : Gr w lo b n m R C Z) (v p : Int) (hn : n ≤ 65536) (hm : m ≤ 65536) : Calls Try.prog 25 #[.slice (some ⟨b, 0, none⟩) n c, .int .i64 v, .int .i64 p] w fun e w' => e = .returned (.int .i64 (boundF n m Z v p)) ∧ w' = w := (bound_any c h v p hn hm).mono fun e w' h => ⟨h.1, h.2.symm⟩
set_option maxRecDepth 100000 in
set_option maxHeartbeats 1000000 in
theorem set1 (w : World) {lo b n m : Nat} {R C : Nat → Nat} {Z : Nat → Nat → Int} (c : Nat) (h : Gr w lo b n m R C Z) (pv pw ps pg pt : Nat) (vv sw sc : Int) (wh sh : Bool) (hv : w.cell? ⟨pv, 0, none⟩ = some (.int .i64 vv)) (hwh : w.cell? ⟨pw, 0, none⟩ = some (.bool wh)) (hs : w.cell? ⟨ps, 0, none⟩ = some (.bool sh)) (hg : w.cell? ⟨pg, 0, none⟩ = some (.slice (some ⟨b, 0, none⟩) n c)) (ht0 : w.cell? ⟨pt, 0, none⟩ = some (.int .i64 sw)) (ht1 : w.cell? ⟨pt, 1, none⟩ = some (.int .i64 sc)) (i j : Nat) (hi : i < n) (hj : j < m) (hn : n ≤ 65536) (hm : m ≤ 65536) (hZ : Zok n m Z) (hsc : -2147483648 ≤ sc ∧ sc ≤ 2147483648) :
    Calls Try.prog 47 #[.int .i64 (i : Int), .int .i64 (j : Int), .int .i64 (Z i j), .pointer (some ⟨pv, 0, none⟩), .pointer (some ⟨pw, 0, none⟩), .pointer (some ⟨ps, 0, none⟩), .pointer (some ⟨pg, 0, none⟩), .pointer (some ⟨pt, 0, none⟩)] w fun e w' => e = .returned (.int .i64 (setN n m Z vv wh sh sw sc i j)) ∧ Below w.heap.size w w' := by
  have BB := hidA (fun k => bound_anyR c (h.drewN k) sw (j : Int) hn hm)
  have bd := boundF_bd hZ sw (j : Int)
  have SS := hidA (fun w => sum_anyR (boundF n m Z sw (j : Int)) sc (by omega) (by omega) (by omega) (by omega) w)
  obtain ⟨r, hr⟩ : ∃ r, setN n m Z vv wh sh sw sc i j = r := ⟨_, rfl⟩
  have HR := hidA hr
  rw [hr]
  clear hr h hZ bd
  unfold setN at HR
  generalize boundF n m Z sw (j : Int) = bb at BB SS HR
  by_cases hiv : (i : Int) = vv
  · have b1 : ((i : Int) == vv) = true := by simpa using hiv
    have b2 : ((i : Int) != vv) = false := by simpa using hiv
    have HR2 : Hid ((if (wh && sh) = true then sumF bb sc else 1099511627776) = r) := hidA (by have := HR.out; rw [if_pos hiv] at this; exact this)
    clear hiv HR
    cases wh
    · have HR3 : Hid ((1099511627776 : Int) = r) := hidA (by simpa using HR2.out)
      go_enter Try.func47, Try.ntmps47
      go_wp2
      go_ret
      exact ⟨retA HR3.out, Below.refl _ _⟩
    · cases sh
      · have HR3 : Hid ((1099511627776 : Int) = r) := hidA (by simpa using HR2.out)
        go_enter Try.func47, Try.ntmps47
        go_wp2
        go_ret
        exact ⟨retA HR3.out, Below.refl _ _⟩
      · have HR3 : Hid (sumF bb sc = r) := hidA (by simpa using HR2.out)
        go_enter Try.func47, Try.ntmps47
        go_wp2
        go_quiet ((first | (go_at_call 25; with_reducible exact Calls.quiet_of_same (BB.out _)) | (go_at_call 48; with_reducible exact Calls.quiet_of_same (SS.out _))))
        go_wp2
        go_ret
        exact ⟨retA HR3.out, drewnA (Below.refl _ _) _⟩
  · have b1 : ((i : Int) == vv) = false := by simpa using hiv
    have b2 : ((i : Int) != vv) = true := by simpa using hiv
    have HR2 : Hid (Z i j = r) := hidA (by have := HR.out; rw [if_neg hiv] at this; exact this)
    clear hiv HR
    go_enter Try.func47, Try.ntmps47
    go_wp2
    go_ret
    exact ⟨retA HR2.out, Below.refl _ _⟩
end Go.Proofs.Ytdcaecpcofencaa

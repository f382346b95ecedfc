import Derived.Test.YtnholabamjodhaaMk
namespace Go.Proofs.Ytnholabamjodhaa
set_option linter.unusedSimpArgs false
open Go.RowKit Go.Instr

/-! 'num.Op': the map of its operators, and what it returns. -/
def e4 : MapEntry := ⟨.int .i64 4, .func (.func 66) #[] #[], 0⟩
def e5 : MapEntry := ⟨.int .i64 5, .func (.func 67) #[] #[], 1⟩
def e6 : MapEntry := ⟨.int .i64 6, .func (.func 68) #[] #[], 2⟩
def e7 : MapEntry := ⟨.int .i64 7, .func (.func 69) #[] #[], 3⟩
def e8 : MapEntry := ⟨.int .i64 8, .func (.func 70) #[] #[], 4⟩
def e9 : MapEntry := ⟨.int .i64 9, .func (.func 71) #[] #[], 5⟩
def e10 : MapEntry := ⟨.int .i64 10, .func (.func 72) #[] #[], 6⟩
def opsMap : Obj := .map #[e4, e5, e6, e7, e8, e9, e10] 7
theorem ins4 (w : World) : (mapUpdate 90 (.map (some w.heap.size)) (.int .i64 4) (.func (.func 66) #[] #[])).run Try.prog (w.alloc (.map #[] 0)) = .ok () (w.alloc (.map #[e4] 1)) :=
  insert_new (P := Try.prog) (k := 3) (e := 71) (by kernel_rfl) (by kernel_rfl) #[] 0 4 _ (by kernel_rfl) w
theorem ins5 (w : World) : (mapUpdate 90 (.map (some w.heap.size)) (.int .i64 5) (.func (.func 67) #[] #[])).run Try.prog (w.alloc (.map #[e4] 1)) = .ok () (w.alloc (.map #[e4, e5] 2)) :=
  insert_new (P := Try.prog) (k := 3) (e := 71) (by kernel_rfl) (by kernel_rfl) #[e4] 1 5 _ (by kernel_rfl) w
theorem ins6 (w : World) : (mapUpdate 90 (.map (some w.heap.size)) (.int .i64 6) (.func (.func 68) #[] #[])).run Try.prog (w.alloc (.map #[e4, e5] 2)) = .ok () (w.alloc (.map #[e4, e5, e6] 3)) :=
  insert_new (P := Try.prog) (k := 3) (e := 71) (by kernel_rfl) (by kernel_rfl) #[e4, e5] 2 6 _ (by kernel_rfl) w
theorem ins7 (w : World) : (mapUpdate 90 (.map (some w.heap.size)) (.int .i64 7) (.func (.func 69) #[] #[])).run Try.prog (w.alloc (.map #[e4, e5, e6] 3)) = .ok () (w.alloc (.map #[e4, e5, e6, e7] 4)) :=
  insert_new (P := Try.prog) (k := 3) (e := 71) (by kernel_rfl) (by kernel_rfl) #[e4, e5, e6] 3 7 _ (by kernel_rfl) w
theorem ins8 (w : World) : (mapUpdate 90 (.map (some w.heap.size)) (.int .i64 8) (.func (.func 70) #[] #[])).run Try.prog (w.alloc (.map #[e4, e5, e6, e7] 4)) = .ok () (w.alloc (.map #[e4, e5, e6, e7, e8] 5)) :=
  insert_new (P := Try.prog) (k := 3) (e := 71) (by kernel_rfl) (by kernel_rfl) #[e4, e5, e6, e7] 4 8 _ (by kernel_rfl) w
theorem ins9 (w : World) : (mapUpdate 90 (.map (some w.heap.size)) (.int .i64 9) (.func (.func 71) #[] #[])).run Try.prog (w.alloc (.map #[e4, e5, e6, e7, e8] 5)) = .ok () (w.alloc (.map #[e4, e5, e6, e7, e8, e9] 6)) :=
  insert_new (P := Try.prog) (k := 3) (e := 71) (by kernel_rfl) (by kernel_rfl) #[e4, e5, e6, e7, e8] 5 9 _ (by kernel_rfl) w
theorem ins10 (w : World) : (mapUpdate 90 (.map (some w.heap.size)) (.int .i64 10) (.func (.func 72) #[] #[])).run Try.prog (w.alloc (.map #[e4, e5, e6, e7, e8, e9] 6)) = .ok () (w.alloc (.map #[e4, e5, e6, e7, e8, e9, e10] 7)) :=
  insert_new (P := Try.prog) (k := 3) (e := 71) (by kernel_rfl) (by kernel_rfl) #[e4, e5, e6, e7, e8, e9] 6 10 _ (by kernel_rfl) w
theorem look4 (w : World) : (lookup 90 (.map (some w.heap.size)) (.int .i64 4) true).run Try.prog (w.alloc (.map #[e4, e5, e6, e7, e8, e9, e10] 7)) = .ok (.tuple #[.func (.func 66) #[] #[], .bool true]) (w.alloc (.map #[e4, e5, e6, e7, e8, e9, e10] 7)) :=
  lookup_new (P := Try.prog) (k := 3) (e := 71) (by kernel_rfl) (by kernel_rfl) #[e4, e5, e6, e7, e8, e9, e10] 7 4 _ 0 (by kernel_rfl) w
theorem look5 (w : World) : (lookup 90 (.map (some w.heap.size)) (.int .i64 5) true).run Try.prog (w.alloc (.map #[e4, e5, e6, e7, e8, e9, e10] 7)) = .ok (.tuple #[.func (.func 67) #[] #[], .bool true]) (w.alloc (.map #[e4, e5, e6, e7, e8, e9, e10] 7)) :=
  lookup_new (P := Try.prog) (k := 3) (e := 71) (by kernel_rfl) (by kernel_rfl) #[e4, e5, e6, e7, e8, e9, e10] 7 5 _ 1 (by kernel_rfl) w
theorem look6 (w : World) : (lookup 90 (.map (some w.heap.size)) (.int .i64 6) true).run Try.prog (w.alloc (.map #[e4, e5, e6, e7, e8, e9, e10] 7)) = .ok (.tuple #[.func (.func 68) #[] #[], .bool true]) (w.alloc (.map #[e4, e5, e6, e7, e8, e9, e10] 7)) :=
  lookup_new (P := Try.prog) (k := 3) (e := 71) (by kernel_rfl) (by kernel_rfl) #[e4, e5, e6, e7, e8, e9, e10] 7 6 _ 2 (by kernel_rfl) w
theorem look7 (w : World) : (lookup 90 (.map (some w.heap.size)) (.int .i64 7) true).run Try.prog (w.alloc (.map #[e4, e5, e6, e7, e8, e9, e10] 7)) = .ok (.tuple #[.func (.func 69) #[] #[], .bool true]) (w.alloc (.map #[e4, e5, e6, e7, e8, e9, e10] 7)) :=
  lookup_new (P := Try.prog) (k := 3) (e := 71) (by kernel_rfl) (by kernel_rfl) #[e4, e5, e6, e7, e8, e9, e10] 7 7 _ 3 (by kernel_rfl) w
theorem look8 (w : World) : (lookup 90 (.map (some w.heap.size)) (.int .i64 8) true).run Try.prog (w.alloc (.map #[e4, e5, e6, e7, e8, e9, e10] 7)) = .ok (.tuple #[.func (.func 70) #[] #[], .bool true]) (w.alloc (.map #[e4, e5, e6, e7, e8, e9, e10] 7)) :=
  lookup_new (P := Try.prog) (k := 3) (e := 71) (by kernel_rfl) (by kernel_rfl) #[e4, e5, e6, e7, e8, e9, e10] 7 8 _ 4 (by kernel_rfl) w
theorem look9 (w : World) : (lookup 90 (.map (some w.heap.size)) (.int .i64 9) true).run Try.prog (w.alloc (.map #[e4, e5, e6, e7, e8, e9, e10] 7)) = .ok (.tuple #[.func (.func 71) #[] #[], .bool true]) (w.alloc (.map #[e4, e5, e6, e7, e8, e9, e10] 7)) :=
  lookup_new (P := Try.prog) (k := 3) (e := 71) (by kernel_rfl) (by kernel_rfl) #[e4, e5, e6, e7, e8, e9, e10] 7 9 _ 5 (by kernel_rfl) w
theorem look10 (w : World) : (lookup 90 (.map (some w.heap.size)) (.int .i64 10) true).run Try.prog (w.alloc (.map #[e4, e5, e6, e7, e8, e9, e10] 7)) = .ok (.tuple #[.func (.func 72) #[] #[], .bool true]) (w.alloc (.map #[e4, e5, e6, e7, e8, e9, e10] 7)) :=
  lookup_new (P := Try.prog) (k := 3) (e := 71) (by kernel_rfl) (by kernel_rfl) #[e4, e5, e6, e7, e8, e9, e10] 7 10 _ 6 (by kernel_rfl) w
theorem lookNo (n : Int) (h : n < 4 ∨ 10 < n) (w : World) : (lookup 90 (.map (some w.heap.size)) (.int .i64 n) true).run Try.prog (w.alloc (.map #[e4, e5, e6, e7, e8, e9, e10] 7)) = .ok (.tuple #[.nilFunc, .bool false]) (w.alloc (.map #[e4, e5, e6, e7, e8, e9, e10] 7)) :=
  lookup_none (P := Try.prog) (k := 3) (e := 71) (by kernel_rfl) (by kernel_rfl) (fun _ => by kernel_rfl) #[e4, e5, e6, e7, e8, e9, e10] 7 n (by
    have h4 : (n == 4) = false := by simp; omega
    have h5 : (n == 5) = false := by simp; omega
    have h6 : (n == 6) = false := by simp; omega
    have h7 : (n == 7) = false := by simp; omega
    have h8 : (n == 8) = false := by simp; omega
    have h9 : (n == 9) = false := by simp; omega
    have h10 : (n == 10) = false := by simp; omega
    simp [findNow, sameNow, e4, e5, e6, e7, e8, e9, e10, h4, h5, h6, h7, h8, h9, h10]) w
end Go.Proofs.Ytnholabamjodhaa

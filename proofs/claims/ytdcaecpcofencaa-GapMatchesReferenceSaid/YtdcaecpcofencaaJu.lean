import Derived.Test.YtdcaecpcofencaaJt
namespace Go.Proofs.Ytdcaecpcofencaa
open Go.RowKit Go.Instr Go.Deep
set_option maxRecDepth 100000
set_option linter.unusedVariables false
set_option linter.unusedSimpArgs false

/-! Laws of gaps: what they share. -/
theorem made2 {a b n m : Nat} (hn : varsN a = n) (hm : parN a b = m) (w : World) (ha : a < 256) (hb : b < 256) (l : List Int) (oa : Option Addr) (len cap : Nat) (hlen : l.length = len) (hl : intsIn w l (.slice oa len cap)) :
    Calls Try.prog 10 #[.agg #[.int .u8 (a : Int), .int .u8 (b : Int), .slice oa len cap]] w fun e w' => GrRet w.heap.size n m (madeZ l m) w e w' := by
  subst hn hm hlen
  exact made_any w a b ha hb l oa cap hl
theorem made3 {a b n m : Nat} {Z : Nat → Nat → Int} (hn : varsN a = n) (hm : parN a b = m) (w : World) (ha : a < 256) (hb : b < 256) (l : List Int) (oa : Option Addr) (len cap : Nat) (hlen : l.length = len) (hl : intsIn w l (.slice oa len cap)) (hz : madeZ l m = Z) :
    Calls Try.prog 10 #[.agg #[.int .u8 (a : Int), .int .u8 (b : Int), .slice oa len cap]] w fun e w' => GrRet w.heap.size n m Z w e w' := by
  subst hz
  exact made2 hn hm w ha hb l oa len cap hlen hl
theorem varsN_bd (a : Nat) : 1 ≤ varsN a ∧ varsN a ≤ 5 := by unfold varsN; omega
theorem parN_bd (a b : Nat) : parN a b ≤ 3 ∧ parN a b ≤ varsN a := by unfold parN; omega
theorem leq_r {w : World} {lo b n m : Nat} {R C : Nat → Nat} {Z : Nat → Nat → Int} (c : Nat) (h : Gr w lo b n m R C Z) {lo2 b2 : Nat} {R2 C2 : Nat → Nat} {Y : Nat → Nat → Int} (c2 : Nat) (h2 : Gr w lo2 b2 n m R2 C2 Y) (hn : n ≤ 5) (hm : m ≤ 3) {r : Bool} (hr : leqB n m Z Y = r) : Calls Try.prog 23 #[.slice (some ⟨b, 0, none⟩) n c, .slice (some ⟨b2, 0, none⟩) n c2] w fun e w' => e = .returned (.bool r) ∧ w = w' := by
  rw [← hr]; exact leq_any w c c2 h h2 (by omega) (by omega)
theorem same_r {w : World} {lo b n m : Nat} {R C : Nat → Nat} {Z : Nat → Nat → Int} (c : Nat) (h : Gr w lo b n m R C Z) {lo2 b2 : Nat} {R2 C2 : Nat → Nat} {Y : Nat → Nat → Int} (c2 : Nat) (h2 : Gr w lo2 b2 n m R2 C2 Y) (hn : n ≤ 5) (hm : m ≤ 3) {r : Bool} (hr : sameB n m Z Y = r) : Calls Try.prog 12 #[.slice (some ⟨b, 0, none⟩) n c, .slice (some ⟨b2, 0, none⟩) n c2] w fun e w' => e = .returned (.bool r) ∧ Below w.heap.size w w' := by
  rw [← hr]; exact same_any w c c2 h h2 (by omega) (by omega)
theorem valid_r {w : World} {lo b n m : Nat} {R C : Nat → Nat} {Z : Nat → Nat → Int} (c : Nat) (h : Gr w lo b n m R C Z) (v p : Int) (hn : n ≤ 5) (hm : m ≤ 3) {r : Bool} (hr : validB n m Z v p = r) : Calls Try.prog 28 #[.slice (some ⟨b, 0, none⟩) n c, .int .i64 v, .int .i64 p] w fun e w' => e = .returned (.bool r) ∧ w = w' := by
  rw [← hr]; exact valid_any w c h v p (by omega) (by omega)
theorem bound_r {w : World} {lo b n m : Nat} {R C : Nat → Nat} {Z : Nat → Nat → Int} (c : Nat) (h : Gr w lo b n m R C Z) (v p : Int) (hn : n ≤ 5) (hm : m ≤ 3) {r : Int} (hr : boundF n m Z v p = r) : Calls Try.prog 25 #[.slice (some ⟨b, 0, none⟩) n c, .int .i64 v, .int .i64 p] w fun e w' => e = .returned (.int .i64 r) ∧ w = w' := by
  rw [← hr]; exact bound_any c h v p (by omega) (by omega)
theorem join_r {w : World} {lo b n m : Nat} {R C : Nat → Nat} {Z : Nat → Nat → Int} (c : Nat) (h : Gr w lo b n m R C Z) {lo2 b2 : Nat} {R2 C2 : Nat → Nat} {Y : Nat → Nat → Int} (c2 : Nat) (h2 : Gr w lo2 b2 n m R2 C2 Y) (hn : n ≤ 5) (hm : m ≤ 3) : Calls Try.prog 19 #[.slice (some ⟨b, 0, none⟩) n c, .slice (some ⟨b2, 0, none⟩) n c2] w fun e w' => GrRet w.heap.size n m (fun i j => max (Z i j) (Y i j)) w e w' :=
  join_any w c h c2 h2 (by omega) (by omega)
def widF (Z Y : Nat → Nat → Int) (i j : Nat) : Int := if Z i j < Y i j then 1099511627776 else Z i j
theorem widen_r {w : World} {lo b n m : Nat} {R C : Nat → Nat} {Z : Nat → Nat → Int} (c : Nat) (h : Gr w lo b n m R C Z) {lo2 b2 : Nat} {R2 C2 : Nat → Nat} {Y : Nat → Nat → Int} (c2 : Nat) (h2 : Gr w lo2 b2 n m R2 C2 Y) (hn : n ≤ 5) (hm : m ≤ 3) : Calls Try.prog 21 #[.slice (some ⟨b, 0, none⟩) n c, .slice (some ⟨b2, 0, none⟩) n c2] w fun e w' => GrRet w.heap.size n m (widF Z Y) w e w' :=
  widen_any w c h c2 h2 (by omega) (by omega)
theorem Zok.le {n m : Nat} {Z : Nat → Nat → Int} (h : Zok n m Z) {i j : Nat} (hi : i < n) (hj : j < m) : Z i j ≤ 1099511627776 := (h.bd hi hj).2
theorem widF_ok {n m : Nat} {Z Y : Nat → Nat → Int} (h : Zok n m Z) : Zok n m (widF Z Y) := fun i j hi hj => by
  unfold widF
  split
  · decide
  · exact h i j hi hj
theorem maxF_ok {n m : Nat} {Z Y : Nat → Nat → Int} (h : Zok n m Z) (h2 : Zok n m Y) : Zok n m (fun i j => max (Z i j) (Y i j)) := fun i j hi hj => by
  have a := h i j hi hj
  have b := h2 i j hi hj
  show fineB (max (Z i j) (Y i j)) = true
  rcases Int.le_total (Z i j) (Y i j) with e | e
  · rw [Int.max_eq_right e]; exact b
  · rw [Int.max_eq_left e]; exact a
end Go.Proofs.Ytdcaecpcofencaa

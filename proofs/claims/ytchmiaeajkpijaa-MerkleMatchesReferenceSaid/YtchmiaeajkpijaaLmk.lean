/-
  The law MerkleMatchesReference of package merkle holds: roots, paths, checks and collisions are as in the reference implementation.
  No condition: every input that the row speaks of.
-/
import Derived.Test.YtchmiaeajkpijaaLmn
import Derived.Laws.IdiomArrays
namespace Go.Proofs.Ytchmiaeajkpijaa
open Go.ChangeShapes Go.WideShapes Go.ChangeAt Go.RowKit
set_option linter.unusedVariables false

theorem open_u64t {H : Type} {enc : TypeId × Value → H} {w : World} {n : Nat} {v : Value} {x : DataW H × List MemPlace} (hn : DataW.trod enc Try.prog w 0 (fun _ => true) true n 22 [v] = some x) :
    ∃ l : List (BitVec 64), U64Big w v l := by
  have c1 : Try.prog.cellsOf 23 = 1 := by kernel_rfl
  rcases open_ints Try.underlying22 Try.underlying23 c1 hn with ⟨hcs, hx⟩ | ⟨ad, len, cap, zs, hcs, -, hl, hm, hz, hx, hcell, hwz⟩
  · simp only [List.cons.injEq, and_true] at hcs
    subst hcs
    exact ⟨[], none, 0, rfl, Nat.le_refl _, by omega, fun _ => rfl, fun h0 => absurd rfl h0⟩
  · simp only [List.cons.injEq, and_true] at hcs
    subst hcs
    simp at hz
    have hlen : ((zs.take len).map fun z => BitVec.ofNat 64 z.toNat).length = len := by rw [List.length_map, List.length_take, Nat.min_eq_left (by omega)]
    have hm' : cap ≤ 9223372036854775807 := by unfold maxLen at hm; omega
    refine ⟨(zs.take len).map fun z => BitVec.ofNat 64 z.toNat, some ad, cap, by rw [hlen], by rw [hlen]; omega, hm', (fun h => by cases h), fun h0 => ?_⟩
    rw [hlen] at h0
    have h00 := hcell 0 (by omega)
    have hadd : ad.add 0 = ad := by simp [Addr.add]
    rw [hadd] at h00
    obtain ⟨b, o, rfl⟩ := addr_plain h00
    refine ⟨b, o, rfl, fun i hi => ?_⟩
    rw [hlen] at hi
    have h1 := hcell i (by omega)
    have e1 : (⟨b, o, none⟩ : Addr).add i = ⟨b, o + i, none⟩ := by first | (simp [Addr.add]; done) | (simp [Addr.add]; omega)
    rw [e1] at h1
    rw [h1]
    have hz2 := hwz (zs[i]'(by omega)) (List.getElem_mem _)
    have h2 : IntKind.u64.min ≤ zs[i]'(by omega) ∧ zs[i]'(by omega) ≤ IntKind.u64.max := by simpa [Lit.wf] using hz2
    have h3 : 0 ≤ zs[i]'(by omega) ∧ zs[i]'(by omega) ≤ 18446744073709551615 := h2
    simp [List.getD, List.getElem?_eq_getElem (show i < zs.length by omega)]
    omega
theorem open_opening_t {H : Type} {enc : TypeId × Value → H} {w : World} {n : Nat} {x0 x1 : Value} {x : DataW H × List MemPlace} (hn : DataW.trod enc Try.prog w 0 (fun _ => true) true n 25 [x0, x1] = some x) :
    ∃ (xf : BitVec 64) (l : List (BitVec 64)), x0 = .int .u64 (xf.toNat : Int) ∧ U64Big w x1 l := by
  obtain ⟨xs, m, hm, hx, hlen, hxl, hf⟩ := DataW.trod_struct Try.underlying25 hn
  have c1 : Try.prog.cellsOf 23 = 1 := by kernel_rfl
  have c2 : Try.prog.cellsOf 22 = 1 := by kernel_rfl
  have h0 : DataW.trod enc Try.prog w 0 (fun _ => true) true m 23 [x0] = xs[0]? := by have := hf 0 _ rfl; simpa [c1] using this
  have h1 : DataW.trod enc Try.prog w 0 (fun _ => true) true m 22 [x1] = xs[1]? := by have := hf 1 _ rfl; simpa [c2] using this
  have hxl2 : xs.length = 2 := hxl
  rw [List.getElem?_eq_getElem (show 0 < xs.length by omega)] at h0
  rw [List.getElem?_eq_getElem (show 1 < xs.length by omega)] at h1
  obtain ⟨z, e1, -, w1⟩ := DataW.trod_int Try.underlying23 h0
  cases e1
  obtain ⟨xf, rfl⟩ := bdU w1
  obtain ⟨l, hl⟩ := open_u64t h1
  exact ⟨xf, l, rfl, hl⟩
theorem open_openings {H : Type} {enc : TypeId × Value → H} {w : World} {v : Value} {d : DataW H} {p : List MemPlace} (h : DataW.Trod enc Try.prog w 0 (fun _ => true) true 26 v d p) :
    ∃ (a b : BitVec 64) (y z : Value) (l k : List (BitVec 64)), v = .agg #[.int .u64 (a.toNat : Int), y, .int .u64 (b.toNat : Int), z] ∧ U64Big w y l ∧ U64Big w z k := by
  obtain ⟨fuel, hf⟩ := h
  obtain ⟨xs, m, -, -, hl, hn, hel⟩ := DataW.trod_array Try.underlying26 hf
  have c3 : Try.prog.cellsOf 25 = 2 := by kernel_rfl
  have c22 : Try.prog.cellsOf 26 = 4 := by kernel_rfl
  have hl2 : v.cells.toList.length = 4 := hl.trans c22
  have e0 : DataW.trod enc Try.prog w 0 (fun _ => true) true m 25 ((v.cells.toList.drop (0 * 2)).take 2) = xs[0]? := by have h := hel 0 (by decide); rw [c3] at h; exact h
  have e1 : DataW.trod enc Try.prog w 0 (fun _ => true) true m 25 ((v.cells.toList.drop (1 * 2)).take 2) = xs[1]? := by have h := hel 1 (by decide); rw [c3] at h; exact h
  clear hl hel hf
  have key : ∀ cs : List Value, cs.length = 4 → (DataW.trod enc Try.prog w 0 (fun _ => true) true m 25 ((cs.drop (0 * 2)).take 2) = xs[0]?) → (DataW.trod enc Try.prog w 0 (fun _ => true) true m 25 ((cs.drop (1 * 2)).take 2) = xs[1]?) →
      ∃ (a b : BitVec 64) (y z : Value) (l k : List (BitVec 64)), cs = [.int .u64 (a.toNat : Int), y, .int .u64 (b.toNat : Int), z] ∧ U64Big w y l ∧ U64Big w z k := by
    intro cs hcs k0 k1
    match cs, hcs with
    | [x0, x1, x2, x3], _ =>
      rw [List.getElem?_eq_getElem (show 0 < xs.length by omega)] at k0
      rw [List.getElem?_eq_getElem (show 1 < xs.length by omega)] at k1
      obtain ⟨a, l, rfl, hl⟩ := open_opening_t (show DataW.trod enc Try.prog w 0 (fun _ => true) true m 25 [x0, x1] = some _ from k0)
      obtain ⟨b, k, rfl, hk⟩ := open_opening_t (show DataW.trod enc Try.prog w 0 (fun _ => true) true m 25 [x2, x3] = some _ from k1)
      exact ⟨a, b, x1, x3, l, k, rfl, hl, hk⟩
  cases v with
  | agg cs =>
    obtain ⟨a, b, y, z, l, k, hcs, ha, hb⟩ := key cs.toList hl2 e0 e1
    exact ⟨a, b, y, z, l, k, by rw [show cs = #[Value.int .u64 (a.toNat : Int), y, Value.int .u64 (b.toNat : Int), z] from Array.ext' hcs], ha, hb⟩
  | _ => exact absurd hl2 (by simp [Value.cells])
theorem open_int3 {H : Type} {enc : TypeId × Value → H} {w : World} {v : Value} {d : DataW H} {p : List MemPlace} (h : DataW.Trod enc Try.prog w 0 (fun _ => true) true 27 v d p) :
    ∃ a b c : Int, v = .agg #[.int .i64 a, .int .i64 b, .int .i64 c] := by
  obtain ⟨fuel, hf⟩ := h
  obtain ⟨xs, m, -, -, hl, hn, -⟩ := DataW.trod_array Try.underlying27 hf
  have c1 : Try.prog.cellsOf 3 = 1 := by kernel_rfl
  have c3 : Try.prog.cellsOf 27 = 3 := by kernel_rfl
  have hl2 : v.cells.toList.length = 3 := hl.trans c3
  cases v with
  | agg cs =>
    obtain ⟨cs⟩ := cs
    match cs, hl2 with
    | [x0, x1, x2], _ =>
      obtain ⟨y0, y1, y2, n, -, k0, k1, k2⟩ := trod_array3 Try.underlying27 c1 (show DataW.trod enc Try.prog w 0 (fun _ => true) true fuel 27 [x0, x1, x2] = some _ from hf)
      obtain ⟨a, e0, -, -⟩ := DataW.trod_int Try.underlying3 k0
      obtain ⟨b, e1, -, -⟩ := DataW.trod_int Try.underlying3 k1
      obtain ⟨c, e2, -, -⟩ := DataW.trod_int Try.underlying3 k2
      cases e0; cases e1; cases e2
      exact ⟨a, b, c, rfl⟩
  | _ => exact absurd hl2 (by simp [Value.cells])
theorem mm_any (l P0 P1 : List (BitVec 64)) (v y z : Value) (u0 u1 : BitVec 64) (k0 k1 k2 : Int) (w : World) (hl : U64Big w v l) (ha : U64Big w y P0) (hb : U64Big w z P1) :
    Calls Try.prog 3 #[v, .agg #[.int .u64 (u0.toNat : Int), y, .int .u64 (u1.toNat : Int), z], .agg #[.int .i64 k0, .int .i64 k1, .int .i64 k2]] w fun e w' => e = .returned (.bool true) ∧ Below w.heap.size w w' := by
  have h := hl
  have g := ha
  have f := hb
  obtain ⟨p, c, rfl, -⟩ := h
  obtain ⟨xa, xc, rfl, -⟩ := g
  obtain ⟨ya, yc, rfl, -⟩ := f
  exact mm_walk l P0 P1 u0 u1 k0 k1 k2 p xa ya l.length c P0.length xc P1.length yc w hl ha hb rfl rfl rfl

theorem merkleMatchesReference_contract (H : Type) (enc : TypeId × Value → H) (W : World) (base : Nat) (args : Array Value) (ds gs : List (DataW H)) (before : List MemPlace)
    (hval : ∀ (j : Nat) t v, Try.f3.params[j]? = some t → args[j]? = some v → Value.okWide Try.prog W .any base t v)
    (hW : DataW.Whole enc Try.prog Try.f3.params.toList Rows.merkleMatchesReferenceSpec.vars false W args.toList ds gs before) :
    Calls Try.prog 3 args W fun e W' => ∃ v, e = .returned v ∧ Rows.merkleMatchesReferenceSpec.post enc Try.prog Try.f3 false true false false W args v W' := by
  have hW' := hW
  obtain ⟨p, q, hA0, hV, rfl, hfz, hnd⟩ := hW
  have hA : DataW.TrodAll enc Try.prog W 0 (fun _ => true) true Try.f3.params.toList args.toList ds p := hA0
  rw [Try.params3] at hA hval
  obtain ⟨v0, vs0, d0, ds0, p0, q0, hargs, rfl, rfl, h0, r0⟩ := trodAll_cons hA
  obtain ⟨v1, vs1, d1, ds1, p1, q1, rfl, rfl, rfl, h1, r1⟩ := trodAll_cons r0
  obtain ⟨v2, vs2, d2, ds2, p2, q2, rfl, rfl, rfl, h2, r2⟩ := trodAll_cons r1
  obtain ⟨rfl, rfl, rfl⟩ := trodAll_nil r2
  obtain rfl : args = #[v0, v1, v2] := by cases args; simp_all
  obtain ⟨rfl, rfl⟩ := trodVars_none hV
  obtain ⟨t0, in0⟩ := open_u64l (hval 0 _ v0 rfl rfl) h0
  obtain ⟨a1, b1, y1, z1, l1, m1, rfl, in1a, in1b⟩ := open_openings h1
  obtain ⟨k2a, k2b, k2c, rfl⟩ := open_int3 h2
  refine (mm_any t0 l1 m1 v0 y1 z1 a1 b1 k2a k2b k2c W in0 in1a in1b).mono fun e W' ⟨he, hg⟩ => ?_
  subst he
  exact ⟨_, rfl, post_true (T := 4) (by kernel_rfl) (by kernel_rfl) rfl rfl (by kernel_rfl) hW' hg rfl⟩

set_option maxRecDepth 100000 in
theorem merkleMatchesReference_lifted (os : Os) (started : os.Started) (H : Type) (enc : TypeId × Value → H) :
    ReturnsInHanded {} Try.checked os 3 .any (Rows.merkleMatchesReferenceSpec.pre6 enc Try.prog Try.f3 Rows.merkleMatchesReferenceRow.domain false) (Rows.merkleMatchesReferenceSpec.post enc Try.prog Try.f3 false true false false) := by
  refine returnsInHanded_of_change (C := Try.checked) own started (by kernel_rfl) Try.func3
    (ChangeSpec.witness6 (enc := enc) (C := Try.checked) false ⟨#[], #[.slice none 0 0, .agg #[.int .u64 0, .slice none 0 0, .int .u64 0, .slice none 0 0], .agg #[.int .i64 0, .int .i64 0, .int .i64 0]], []⟩ 8 (by kernel_rfl) (by kernel_rfl) (by kernel_rfl) (by kernel_rfl)) ?_
  intro W base args ds gs before hval hW _ _
  exact merkleMatchesReference_contract H enc W base args ds gs before hval hW

theorem merkleMatchesReference_holds : Rows.MerkleMatchesReferenceSaid :=
  OpenClaim.holds_of_wide 3 Try.f3 rfl rfl rfl rfl rfl rfl rfl ⟨rfl, rfl, rfl, rfl, rfl⟩ rfl rfl rfl rfl rfl (by kernel_rfl) Try.func3 (by kernel_rfl)
    (of_decide_eq_true (by kernel_rfl)) (by unfold Func.isWrapper; rw [if_neg (of_decide_eq_false (by kernel_rfl))]; exact ⟨rfl, rfl⟩)
    (fun os started H enc _ => merkleMatchesReference_lifted os started H enc)
end Go.Proofs.Ytchmiaeajkpijaa

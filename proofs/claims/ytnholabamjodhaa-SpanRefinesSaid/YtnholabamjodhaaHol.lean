import Derived.Test.YtnholabamjodhaaCd
import Derived.StillTailTactics
import Derived.Deep.QuietTactic
import Derived.BigQuiet
namespace Go.Proofs.Ytnholabamjodhaa
open Go.RowKit Go.Instr
set_option linter.unusedVariables false
set_option linter.unusedSimpArgs false

set_option maxRecDepth 100000 in
set_option maxHeartbeats 400000 in
theorem part_any (V L : List Int) (r : List Cd) (IH : ∀ t, t ∈ r → HoldsOk V L t) (k : Nat) (hk : k ≤ 1) (b1 b2 b3 : Nat) (x0 x1 vs ls : Value) (ob : Option Addr) (cb : Nat) (w : World)
    (h0 : w.cell? ⟨b1, 2, none⟩ = some (.slice ob r.length cb)) (hl : r.length ≤ cb) (hm : cb ≤ 9223372036854775807) (hxs : cdsIn w r ob 0)
    (hv : w.cell? ⟨b2, 0, none⟩ = some vs) (hL : w.cell? ⟨b3, 0, none⟩ = some ls) (hvs : intsIn w V vs) (hls : intsIn w L ls) :
    Calls Try.prog 74 #[.int .i64 (k : Int), .pointer (some ⟨b1, 0, none⟩), .pointer (some ⟨b2, 0, none⟩), .pointer (some ⟨b3, 0, none⟩)] w fun e w' =>
      e = .returned (.bool ((holdsCs V L r).getD k false)) ∧ Below w.heap.size w w' := by
  have Hlen := holdsCs_length V L r
  by_cases hlt : k < r.length
  · obtain ⟨b, off, rfl, hall⟩ := cdsIn_all hxs (by intro h; subst h; simp at hlt)
    obtain ⟨t, ht⟩ : ∃ t, r[k]? = some t := ⟨_, List.getElem?_eq_getElem hlt⟩
    obtain ⟨o, a, a2, ln, cp, ln2, cp2, c0, c1, c2, hin⟩ := hall k t ht
    have hr : (holdsCs V L r).getD k false = holdsC V L t := by
      rw [List.getD_eq_getElem?_getD, holdsCs_at V L r k t ht]; rfl
    rw [hr]
    have hti := fun W (hB : Below w.heap.size w W) => IH t (List.mem_of_getElem? ht) _ vs ls W (cdIn_below hB _ _ hin) (intsIn_below hB hvs) (intsIn_below hB hls)
    have Hti := hid hti; clear hti
    obtain ⟨len, hlen⟩ : ∃ len, r.length = len := ⟨_, rfl⟩
    rw [hlen] at h0 hl hlt
    clear hr hin hall ht IH hlen hxs hvs hls Hlen
    have hd : decide ((k : Int) < (len : Int)) = true := by simp; omega
    have hklt : (k : Int) < (len : Int) := by omega
    go_enter Try.func74, Try.ntmps74
    go_wp2_with fail
    go_still_tail 13, (by kernel_rfl)
    change wpList _ _ _ _ _ w.drew
    go_wp2_with fail
    have hb0 : Below w.heap.size w w.drew := (Below.refl _ _).drew
    refine (Hti.out _ hb0).mono ?_
    rintro e w2 ⟨rfl, hb2⟩
    have hbb := hid (hb0.trans (hb2.mono (Nat.le_refl _)))
    clear hb2 hb0
    go_wp2
    go_ret
    exact ⟨rfl, hbb.out⟩
  · have hr : (holdsCs V L r).getD k false = false := by
      rw [List.getD_eq_getElem?_getD, List.getElem?_eq_none (by omega)]; rfl
    rw [hr]
    obtain ⟨len, hlen⟩ : ∃ len, r.length = len := ⟨_, rfl⟩
    rw [hlen] at h0 hl hlt
    clear hr IH hlen hxs hvs hls Hlen
    have hd : decide ((k : Int) < (len : Int)) = false := by simp; omega
    go_enter Try.func74, Try.ntmps74
    go_wp2_with fail
    go_quiet (fail)
    go_wp2
    go_ret
    exact ⟨rfl, ⟨rfl, rfl, rfl, Nat.le_refl _, fun _ _ => rfl⟩⟩
end Go.Proofs.Ytnholabamjodhaa

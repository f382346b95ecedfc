/-
  No cell of these rows narrows 'for every input' (looked for: loops, veiled, ifaces, maps, wideKeys, modest, calm, conditions, laid).
  DERIVED. THE GIVEN ROWS OF THIS SEAT. 6 by the template 'for every input the law returns true; each argument reads behind the call as it read before'; 0 by the template 'total and deterministic' (their statements: YtagpinpelgkjcaaTotals.lean).
  GIVEN WITH THE SEED: the statements are not yours to turn. If you find one false, say at which input.
  Laid BY PROGRAM, IN A SANDBOX (cutbox-rows.mjs): the forced cells as the released guide's own fill.sh prints them over the translation 0458689aea53bcdf… (all of the seat's roots in one cut). By AI agents, Wed Nov 11 2026. No macro, syntax, notation, axiom, sorry.
-/
import Derived.Test.YtagpinpelgkjcaaChecked
import GoSem.Claim
import GoSem.ClaimJoined
import GoSem.ClaimMapViews
import Derived.JoinedTies
import Derived.KernelRfl
namespace Go.Proofs.Ytagpinpelgkjcaa
/- THE CELL 'sum', in the pinned program and in every row, IS THE sha256 OF THE DUMP (.gsa) THAT YtagpinpelgkjcaaProg.lean LOADS. Nothing in Lean hashes anything: it is a label: what it is worth is what the hold of that sum in a sandbox is worth. -/
noncomputable def Try.pinned : Pinned := { name := "ytagpinpelgkjcaa", sum := "0458689aea53bcdfdb55cfb6ed05d41adaf490ce27c03aba8fd51dcad37f3e96", checked := Try.checked }
namespace Rows
def none {H : Type} : Left H := { results := [], args := [] }

/-- 'parolelaw04.MerkleMatchesReference': WHATEVER THE INPUT: true; the input reads as it did. -/
def merkleMatchesReferenceSpec : ChangeSpec := { name := "merkleMatchesReference", fn := fun _ => fun
  | [d1, d2, d3] => { results := [.lit (.bool true)], args := [d1, d2, d3] }
  | _ => none }
def merkleMatchesReferenceRow : OpenClaim := { program := "ytagpinpelgkjcaa", sum := "0458689aea53bcdfdb55cfb6ed05d41adaf490ce27c03aba8fd51dcad37f3e96", func := "parole/parolelaw04.MerkleMatchesReference", spec := "merkleMatchesReference", unfollowed := true, recurses := true, apart := false }
def MerkleMatchesReferenceSaid : Prop := merkleMatchesReferenceRow.holds Try.pinned (OpenSpec.ofChange merkleMatchesReferenceSpec)

/-- ITS FALSE NEIGHBOUR: 'it returns false'. Refute it at one input. -/
def merkleMatchesReferenceWrong : ChangeSpec := { name := "merkleMatchesReference", fn := fun _ => fun
  | [d1, d2, d3] => { results := [.lit (.bool false)], args := [d1, d2, d3] }
  | _ => none }
def MerkleMatchesReferenceWrongFalsely : Prop := merkleMatchesReferenceRow.holds Try.pinned (OpenSpec.ofChange merkleMatchesReferenceWrong)

/-- 'parolelaw04.MerkleOpens': WHATEVER THE INPUT: true; the input reads as it did. -/
def merkleOpensSpec : ChangeSpec := { name := "merkleOpens", fn := fun _ => fun
  | [d1, d2, d3] => { results := [.lit (.bool true)], args := [d1, d2, d3] }
  | _ => none }
def merkleOpensRow : OpenClaim := { program := "ytagpinpelgkjcaa", sum := "0458689aea53bcdfdb55cfb6ed05d41adaf490ce27c03aba8fd51dcad37f3e96", func := "parole/parolelaw04.MerkleOpens", spec := "merkleOpens", unfollowed := true, recurses := true, apart := false }
def MerkleOpensSaid : Prop := merkleOpensRow.holds Try.pinned (OpenSpec.ofChange merkleOpensSpec)

/-- ITS FALSE NEIGHBOUR: 'it returns false'. Refute it at one input. -/
def merkleOpensWrong : ChangeSpec := { name := "merkleOpens", fn := fun _ => fun
  | [d1, d2, d3] => { results := [.lit (.bool false)], args := [d1, d2, d3] }
  | _ => none }
def MerkleOpensWrongFalsely : Prop := merkleOpensRow.holds Try.pinned (OpenSpec.ofChange merkleOpensWrong)

/-- 'parolelaw04.MerkleBinds': WHATEVER THE INPUT: true; the input reads as it did. -/
def merkleBindsSpec : ChangeSpec := { name := "merkleBinds", fn := fun _ => fun
  | [d1, d2, d3] => { results := [.lit (.bool true)], args := [d1, d2, d3] }
  | _ => none }
def merkleBindsRow : OpenClaim := { program := "ytagpinpelgkjcaa", sum := "0458689aea53bcdfdb55cfb6ed05d41adaf490ce27c03aba8fd51dcad37f3e96", func := "parole/parolelaw04.MerkleBinds", spec := "merkleBinds", unfollowed := true, recurses := true, apart := false }
def MerkleBindsSaid : Prop := merkleBindsRow.holds Try.pinned (OpenSpec.ofChange merkleBindsSpec)

/-- ITS FALSE NEIGHBOUR: 'it returns false'. Refute it at one input. -/
def merkleBindsWrong : ChangeSpec := { name := "merkleBinds", fn := fun _ => fun
  | [d1, d2, d3] => { results := [.lit (.bool false)], args := [d1, d2, d3] }
  | _ => none }
def MerkleBindsWrongFalsely : Prop := merkleBindsRow.holds Try.pinned (OpenSpec.ofChange merkleBindsWrong)

/-- 'parolelaw04.MerkleHalves': WHATEVER THE INPUT: true; the input reads as it did. -/
def merkleHalvesSpec : ChangeSpec := { name := "merkleHalves", fn := fun _ => fun
  | [d1, d2, d3] => { results := [.lit (.bool true)], args := [d1, d2, d3] }
  | _ => none }
def merkleHalvesRow : OpenClaim := { program := "ytagpinpelgkjcaa", sum := "0458689aea53bcdfdb55cfb6ed05d41adaf490ce27c03aba8fd51dcad37f3e96", func := "parole/parolelaw04.MerkleHalves", spec := "merkleHalves", unfollowed := true, recurses := true, apart := false }
def MerkleHalvesSaid : Prop := merkleHalvesRow.holds Try.pinned (OpenSpec.ofChange merkleHalvesSpec)

/-- ITS FALSE NEIGHBOUR: 'it returns false'. Refute it at one input. -/
def merkleHalvesWrong : ChangeSpec := { name := "merkleHalves", fn := fun _ => fun
  | [d1, d2, d3] => { results := [.lit (.bool false)], args := [d1, d2, d3] }
  | _ => none }
def MerkleHalvesWrongFalsely : Prop := merkleHalvesRow.holds Try.pinned (OpenSpec.ofChange merkleHalvesWrong)

/-- 'parolelaw04.MerkleChanges': WHATEVER THE INPUT: true; the input reads as it did. -/
def merkleChangesSpec : ChangeSpec := { name := "merkleChanges", fn := fun _ => fun
  | [d1, d2, d3] => { results := [.lit (.bool true)], args := [d1, d2, d3] }
  | _ => none }
def merkleChangesRow : OpenClaim := { program := "ytagpinpelgkjcaa", sum := "0458689aea53bcdfdb55cfb6ed05d41adaf490ce27c03aba8fd51dcad37f3e96", func := "parole/parolelaw04.MerkleChanges", spec := "merkleChanges", unfollowed := true, recurses := true, apart := false }
def MerkleChangesSaid : Prop := merkleChangesRow.holds Try.pinned (OpenSpec.ofChange merkleChangesSpec)

/-- ITS FALSE NEIGHBOUR: 'it returns false'. Refute it at one input. -/
def merkleChangesWrong : ChangeSpec := { name := "merkleChanges", fn := fun _ => fun
  | [d1, d2, d3] => { results := [.lit (.bool false)], args := [d1, d2, d3] }
  | _ => none }
def MerkleChangesWrongFalsely : Prop := merkleChangesRow.holds Try.pinned (OpenSpec.ofChange merkleChangesWrong)

/-- 'parolelaw04.MerkleRefuses': WHATEVER THE INPUT: true; the input reads as it did. -/
def merkleRefusesSpec : ChangeSpec := { name := "merkleRefuses", fn := fun _ => fun
  | [d1, d2, d3] => { results := [.lit (.bool true)], args := [d1, d2, d3] }
  | _ => none }
def merkleRefusesRow : OpenClaim := { program := "ytagpinpelgkjcaa", sum := "0458689aea53bcdfdb55cfb6ed05d41adaf490ce27c03aba8fd51dcad37f3e96", func := "parole/parolelaw04.MerkleRefuses", spec := "merkleRefuses", unfollowed := true, recurses := true, apart := false }
def MerkleRefusesSaid : Prop := merkleRefusesRow.holds Try.pinned (OpenSpec.ofChange merkleRefusesSpec)

/-- ITS FALSE NEIGHBOUR: 'it returns false'. Refute it at one input. -/
def merkleRefusesWrong : ChangeSpec := { name := "merkleRefuses", fn := fun _ => fun
  | [d1, d2, d3] => { results := [.lit (.bool false)], args := [d1, d2, d3] }
  | _ => none }
def MerkleRefusesWrongFalsely : Prop := merkleRefusesRow.holds Try.pinned (OpenSpec.ofChange merkleRefusesWrong)

/- THE SECOND FORM. 'bulk': how many values and letters a reading holds, each counted each time it is reached (what is shared counts as often as it is met; a slice's spare places count too). A statement '..UptoSaid' is the law's where the arguments, and the package variables that the reading takes, are together of bulk at most 1048576: NARROWER than '..Said'. Prove '..Said' where nothing that the law and all that it calls make is longer than what came in: it says more and counts as full. Else prove '..UptoSaid'. A law counts once. -/
mutual
def uptoBulk {H : Type} : DataW H → Nat
  | .lit (.string bytes) => bytes.length + 1
  | .lit _ => 1
  | .nil => 1
  | .ptr d => uptoBulk d + 1
  | .slice elems spare => uptoBulkAll elems + uptoBulkAll spare + 1
  | .agg parts => uptoBulkAll parts + 1
  | .iface _ d => uptoBulk d + 1
  | .map entries => uptoBulkEntries entries + 1
  | .held _ => 1
def uptoBulkAll {H : Type} : List (DataW H) → Nat
  | [] => 0
  | d :: r => uptoBulk d + uptoBulkAll r
def uptoBulkEntries {H : Type} : List (Lit × DataW H) → Nat
  | [] => 0
  | x :: r => uptoBulkEntry x + uptoBulkEntries r
def uptoBulkEntry {H : Type} : Lit × DataW H → Nat
  | (.string bytes, d) => bytes.length + uptoBulk d + 1
  | (_, d) => uptoBulk d + 1
 end
def uptoSmall : (H : Type) → List (DataW H) → Bool := fun _ ds => decide (uptoBulkAll ds ≤ 1048576)
def OpenSpec.upto (s : _root_.Go.ChangeSpec) : _root_.Go.OpenSpec := { _root_.Go.OpenSpec.ofChange s with cond := some uptoSmall }

/-- 'parolelaw04.MerkleMatchesReference', WHERE WHAT IT READS IS OF BULK AT MOST 1048576: true; the input reads as it did. -/
def merkleMatchesReferenceUptoRow : OpenClaim := { program := "ytagpinpelgkjcaa", sum := "0458689aea53bcdfdb55cfb6ed05d41adaf490ce27c03aba8fd51dcad37f3e96", func := "parole/parolelaw04.MerkleMatchesReference", spec := "merkleMatchesReference", unfollowed := true, recurses := true, apart := false, narrowed := true }
def MerkleMatchesReferenceUptoSaid : Prop := merkleMatchesReferenceUptoRow.holds Try.pinned (OpenSpec.upto merkleMatchesReferenceSpec)

/-- 'parolelaw04.MerkleOpens', WHERE WHAT IT READS IS OF BULK AT MOST 1048576: true; the input reads as it did. -/
def merkleOpensUptoRow : OpenClaim := { program := "ytagpinpelgkjcaa", sum := "0458689aea53bcdfdb55cfb6ed05d41adaf490ce27c03aba8fd51dcad37f3e96", func := "parole/parolelaw04.MerkleOpens", spec := "merkleOpens", unfollowed := true, recurses := true, apart := false, narrowed := true }
def MerkleOpensUptoSaid : Prop := merkleOpensUptoRow.holds Try.pinned (OpenSpec.upto merkleOpensSpec)

/-- 'parolelaw04.MerkleBinds', WHERE WHAT IT READS IS OF BULK AT MOST 1048576: true; the input reads as it did. -/
def merkleBindsUptoRow : OpenClaim := { program := "ytagpinpelgkjcaa", sum := "0458689aea53bcdfdb55cfb6ed05d41adaf490ce27c03aba8fd51dcad37f3e96", func := "parole/parolelaw04.MerkleBinds", spec := "merkleBinds", unfollowed := true, recurses := true, apart := false, narrowed := true }
def MerkleBindsUptoSaid : Prop := merkleBindsUptoRow.holds Try.pinned (OpenSpec.upto merkleBindsSpec)

/-- 'parolelaw04.MerkleHalves', WHERE WHAT IT READS IS OF BULK AT MOST 1048576: true; the input reads as it did. -/
def merkleHalvesUptoRow : OpenClaim := { program := "ytagpinpelgkjcaa", sum := "0458689aea53bcdfdb55cfb6ed05d41adaf490ce27c03aba8fd51dcad37f3e96", func := "parole/parolelaw04.MerkleHalves", spec := "merkleHalves", unfollowed := true, recurses := true, apart := false, narrowed := true }
def MerkleHalvesUptoSaid : Prop := merkleHalvesUptoRow.holds Try.pinned (OpenSpec.upto merkleHalvesSpec)

/-- 'parolelaw04.MerkleChanges', WHERE WHAT IT READS IS OF BULK AT MOST 1048576: true; the input reads as it did. -/
def merkleChangesUptoRow : OpenClaim := { program := "ytagpinpelgkjcaa", sum := "0458689aea53bcdfdb55cfb6ed05d41adaf490ce27c03aba8fd51dcad37f3e96", func := "parole/parolelaw04.MerkleChanges", spec := "merkleChanges", unfollowed := true, recurses := true, apart := false, narrowed := true }
def MerkleChangesUptoSaid : Prop := merkleChangesUptoRow.holds Try.pinned (OpenSpec.upto merkleChangesSpec)

/-- 'parolelaw04.MerkleRefuses', WHERE WHAT IT READS IS OF BULK AT MOST 1048576: true; the input reads as it did. -/
def merkleRefusesUptoRow : OpenClaim := { program := "ytagpinpelgkjcaa", sum := "0458689aea53bcdfdb55cfb6ed05d41adaf490ce27c03aba8fd51dcad37f3e96", func := "parole/parolelaw04.MerkleRefuses", spec := "merkleRefuses", unfollowed := true, recurses := true, apart := false, narrowed := true }
def MerkleRefusesUptoSaid : Prop := merkleRefusesUptoRow.holds Try.pinned (OpenSpec.upto merkleRefusesSpec)

end Rows
end Go.Proofs.Ytagpinpelgkjcaa

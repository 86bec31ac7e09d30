/-
  No cell of these rows narrows 'for every input' (looked for: loops, veiled, ifaces, maps, wideKeys, modest, calm, conditions, laid).
  DERIVED. THE GIVEN ROWS OF THIS SEAT. 3 by the template 'for every input the law returns true; each argument reads behind the call as it read before'; 0 by the template 'total and deterministic' (their statements: YtjkmgdhndbdhoaaTotals.lean).
  GIVEN WITH THE SEED: the statements are not yours to turn. If you find one false, say at which input.
  Laid BY PROGRAM, IN A SANDBOX (cutbox-rows.mjs): the forced cells as the released guide's own fill.sh prints them over the translation 2ddcb714c19f0ca8… (all of the seat's roots in one cut). By AI agents, Wed Nov 11 2026. No macro, syntax, notation, axiom, sorry.
-/
import Derived.Test.YtjkmgdhndbdhoaaChecked
import GoSem.Claim
import GoSem.ClaimJoined
import GoSem.ClaimMapViews
import Derived.JoinedTies
import Derived.KernelRfl
namespace Go.Proofs.Ytjkmgdhndbdhoaa
/- THE CELL 'sum', in the pinned program and in every row, IS THE sha256 OF THE DUMP (.gsa) THAT YtjkmgdhndbdhoaaProg.lean LOADS. Nothing in Lean hashes anything: it is a label: what it is worth is what the hold of that sum in a sandbox is worth. -/
noncomputable def Try.pinned : Pinned := { name := "ytjkmgdhndbdhoaa", sum := "2ddcb714c19f0ca8a6a4dd181f375e507a0a7e81ab96f3cf54f5661849815cc0", checked := Try.checked }
namespace Rows
def none {H : Type} : Left H := { results := [], args := [] }

/-- 'laws.FnExactPerfectMatchings': WHATEVER THE INPUT: true; the input reads as it did. -/
def fnExactPerfectMatchingsSpec : ChangeSpec := { name := "fnExactPerfectMatchings", fn := fun _ => fun
  | [d] => { results := [.lit (.bool true)], args := [d] }
  | _ => none }
def fnExactPerfectMatchingsRow : OpenClaim := { program := "ytjkmgdhndbdhoaa", sum := "2ddcb714c19f0ca8a6a4dd181f375e507a0a7e81ab96f3cf54f5661849815cc0", func := "loop.example/g01128/laws.FnExactPerfectMatchings", spec := "fnExactPerfectMatchings", unfollowed := true, recurses := true, apart := false }
def FnExactPerfectMatchingsSaid : Prop := fnExactPerfectMatchingsRow.holds Try.pinned (OpenSpec.ofChange fnExactPerfectMatchingsSpec)

/-- ITS FALSE NEIGHBOUR: 'it returns false'. Refute it at one input. -/
def fnExactPerfectMatchingsWrong : ChangeSpec := { name := "fnExactPerfectMatchings", fn := fun _ => fun
  | [d] => { results := [.lit (.bool false)], args := [d] }
  | _ => none }
def FnExactPerfectMatchingsWrongFalsely : Prop := fnExactPerfectMatchingsRow.holds Try.pinned (OpenSpec.ofChange fnExactPerfectMatchingsWrong)

/-- 'laws.FnExactMatchingSpace': WHATEVER THE INPUT: true; the input reads as it did. -/
def fnExactMatchingSpaceSpec : ChangeSpec := { name := "fnExactMatchingSpace", fn := fun _ => fun
  | [d1, d2] => { results := [.lit (.bool true)], args := [d1, d2] }
  | _ => none }
def fnExactMatchingSpaceRow : OpenClaim := { program := "ytjkmgdhndbdhoaa", sum := "2ddcb714c19f0ca8a6a4dd181f375e507a0a7e81ab96f3cf54f5661849815cc0", func := "loop.example/g01128/laws.FnExactMatchingSpace", spec := "fnExactMatchingSpace", unfollowed := true, recurses := true, apart := false }
def FnExactMatchingSpaceSaid : Prop := fnExactMatchingSpaceRow.holds Try.pinned (OpenSpec.ofChange fnExactMatchingSpaceSpec)

/-- ITS FALSE NEIGHBOUR: 'it returns false'. Refute it at one input. -/
def fnExactMatchingSpaceWrong : ChangeSpec := { name := "fnExactMatchingSpace", fn := fun _ => fun
  | [d1, d2] => { results := [.lit (.bool false)], args := [d1, d2] }
  | _ => none }
def FnExactMatchingSpaceWrongFalsely : Prop := fnExactMatchingSpaceRow.holds Try.pinned (OpenSpec.ofChange fnExactMatchingSpaceWrong)

/-- 'laws.FnExactLargestMatching': WHATEVER THE INPUT: true; the input reads as it did. -/
def fnExactLargestMatchingSpec : ChangeSpec := { name := "fnExactLargestMatching", fn := fun _ => fun
  | [d] => { results := [.lit (.bool true)], args := [d] }
  | _ => none }
def fnExactLargestMatchingRow : OpenClaim := { program := "ytjkmgdhndbdhoaa", sum := "2ddcb714c19f0ca8a6a4dd181f375e507a0a7e81ab96f3cf54f5661849815cc0", func := "loop.example/g01128/laws.FnExactLargestMatching", spec := "fnExactLargestMatching", unfollowed := true, recurses := true, apart := false }
def FnExactLargestMatchingSaid : Prop := fnExactLargestMatchingRow.holds Try.pinned (OpenSpec.ofChange fnExactLargestMatchingSpec)

/-- ITS FALSE NEIGHBOUR: 'it returns false'. Refute it at one input. -/
def fnExactLargestMatchingWrong : ChangeSpec := { name := "fnExactLargestMatching", fn := fun _ => fun
  | [d] => { results := [.lit (.bool false)], args := [d] }
  | _ => none }
def FnExactLargestMatchingWrongFalsely : Prop := fnExactLargestMatchingRow.holds Try.pinned (OpenSpec.ofChange fnExactLargestMatchingWrong)

/- THE SECOND FORM. 'bulk': how many values and letters a reading holds, each counted each time it is reached (what is shared counts as often as it is met; a slice's spare places count too). A statement '..UptoSaid' is the law's where the arguments, and the package variables that the reading takes, are together of bulk at most 1048576: NARROWER than '..Said'. Prove '..Said' where nothing that the law and all that it calls make is longer than what came in: it says more and counts as full. Else prove '..UptoSaid'. A law counts once. -/
mutual
def uptoBulk {H : Type} : DataW H → Nat
  | .lit (.string bytes) => bytes.length + 1
  | .lit _ => 1
  | .nil => 1
  | .ptr d => uptoBulk d + 1
  | .slice elems spare => uptoBulkAll elems + uptoBulkAll spare + 1
  | .agg parts => uptoBulkAll parts + 1
  | .iface _ d => uptoBulk d + 1
  | .map entries => uptoBulkEntries entries + 1
  | .held _ => 1
def uptoBulkAll {H : Type} : List (DataW H) → Nat
  | [] => 0
  | d :: r => uptoBulk d + uptoBulkAll r
def uptoBulkEntries {H : Type} : List (Lit × DataW H) → Nat
  | [] => 0
  | x :: r => uptoBulkEntry x + uptoBulkEntries r
def uptoBulkEntry {H : Type} : Lit × DataW H → Nat
  | (.string bytes, d) => bytes.length + uptoBulk d + 1
  | (_, d) => uptoBulk d + 1
 end
def uptoSmall : (H : Type) → List (DataW H) → Bool := fun _ ds => decide (uptoBulkAll ds ≤ 1048576)
def OpenSpec.upto (s : _root_.Go.ChangeSpec) : _root_.Go.OpenSpec := { _root_.Go.OpenSpec.ofChange s with cond := some uptoSmall }

/-- 'laws.FnExactPerfectMatchings', WHERE WHAT IT READS IS OF BULK AT MOST 1048576: true; the input reads as it did. -/
def fnExactPerfectMatchingsUptoRow : OpenClaim := { program := "ytjkmgdhndbdhoaa", sum := "2ddcb714c19f0ca8a6a4dd181f375e507a0a7e81ab96f3cf54f5661849815cc0", func := "loop.example/g01128/laws.FnExactPerfectMatchings", spec := "fnExactPerfectMatchings", unfollowed := true, recurses := true, apart := false, narrowed := true }
def FnExactPerfectMatchingsUptoSaid : Prop := fnExactPerfectMatchingsUptoRow.holds Try.pinned (OpenSpec.upto fnExactPerfectMatchingsSpec)

/-- 'laws.FnExactMatchingSpace', WHERE WHAT IT READS IS OF BULK AT MOST 1048576: true; the input reads as it did. -/
def fnExactMatchingSpaceUptoRow : OpenClaim := { program := "ytjkmgdhndbdhoaa", sum := "2ddcb714c19f0ca8a6a4dd181f375e507a0a7e81ab96f3cf54f5661849815cc0", func := "loop.example/g01128/laws.FnExactMatchingSpace", spec := "fnExactMatchingSpace", unfollowed := true, recurses := true, apart := false, narrowed := true }
def FnExactMatchingSpaceUptoSaid : Prop := fnExactMatchingSpaceUptoRow.holds Try.pinned (OpenSpec.upto fnExactMatchingSpaceSpec)

/-- 'laws.FnExactLargestMatching', WHERE WHAT IT READS IS OF BULK AT MOST 1048576: true; the input reads as it did. -/
def fnExactLargestMatchingUptoRow : OpenClaim := { program := "ytjkmgdhndbdhoaa", sum := "2ddcb714c19f0ca8a6a4dd181f375e507a0a7e81ab96f3cf54f5661849815cc0", func := "loop.example/g01128/laws.FnExactLargestMatching", spec := "fnExactLargestMatching", unfollowed := true, recurses := true, apart := false, narrowed := true }
def FnExactLargestMatchingUptoSaid : Prop := fnExactLargestMatchingUptoRow.holds Try.pinned (OpenSpec.upto fnExactLargestMatchingSpec)

end Rows
end Go.Proofs.Ytjkmgdhndbdhoaa

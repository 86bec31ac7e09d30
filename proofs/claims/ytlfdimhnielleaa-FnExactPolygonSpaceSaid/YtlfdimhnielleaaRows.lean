/-
  No cell of these rows narrows 'for every input' (looked for: loops, veiled, ifaces, maps, wideKeys, modest, calm, conditions, laid).
  DERIVED. THE GIVEN ROWS OF THIS SEAT. 4 by the template 'for every input the law returns true; each argument reads behind the call as it read before'; 0 by the template 'total and deterministic' (their statements: YtlfdimhnielleaaTotals.lean).
  GIVEN WITH THE SEED: the statements are not yours to turn. If you find one false, say at which input.
  Laid BY PROGRAM, IN A SANDBOX (cutbox-rows.mjs): the forced cells as the released guide's own fill.sh prints them over the translation 0cada11e93c81857… (all of the seat's roots in one cut). By AI agents, Wed Nov 11 2026. No macro, syntax, notation, axiom, sorry.
-/
import Derived.Test.YtlfdimhnielleaaChecked
import GoSem.Claim
import GoSem.ClaimJoined
import GoSem.ClaimMapViews
import Derived.JoinedTies
import Derived.KernelRfl
namespace Go.Proofs.Ytlfdimhnielleaa
/- THE CELL 'sum', in the pinned program and in every row, IS THE sha256 OF THE DUMP (.gsa) THAT YtlfdimhnielleaaProg.lean LOADS. Nothing in Lean hashes anything: it is a label: what it is worth is what the hold of that sum in a sandbox is worth. -/
noncomputable def Try.pinned : Pinned := { name := "ytlfdimhnielleaa", sum := "0cada11e93c8185726fe9046d2bcdae8a4a15e414b3b3e16355c2911cac3e8af", checked := Try.checked }
namespace Rows
def none {H : Type} : Left H := { results := [], args := [] }

/-- 'laws.FnExactPolygonSpace': WHATEVER THE INPUT: true; the input reads as it did. -/
def fnExactPolygonSpaceSpec : ChangeSpec := { name := "fnExactPolygonSpace", fn := fun _ => fun
  | [d] => { results := [.lit (.bool true)], args := [d] }
  | _ => none }
def fnExactPolygonSpaceRow : OpenClaim := { program := "ytlfdimhnielleaa", sum := "0cada11e93c8185726fe9046d2bcdae8a4a15e414b3b3e16355c2911cac3e8af", func := "loop.example/g01128/laws.FnExactPolygonSpace", spec := "fnExactPolygonSpace", unfollowed := true, recurses := true, apart := false }
def FnExactPolygonSpaceSaid : Prop := fnExactPolygonSpaceRow.holds Try.pinned (OpenSpec.ofChange fnExactPolygonSpaceSpec)

/-- ITS FALSE NEIGHBOUR: 'it returns false'. Refute it at one input. -/
def fnExactPolygonSpaceWrong : ChangeSpec := { name := "fnExactPolygonSpace", fn := fun _ => fun
  | [d] => { results := [.lit (.bool false)], args := [d] }
  | _ => none }
def FnExactPolygonSpaceWrongFalsely : Prop := fnExactPolygonSpaceRow.holds Try.pinned (OpenSpec.ofChange fnExactPolygonSpaceWrong)

/-- 'laws.FnExactFlipSpace': WHATEVER THE INPUT: true; the input reads as it did. -/
def fnExactFlipSpaceSpec : ChangeSpec := { name := "fnExactFlipSpace", fn := fun _ => fun
  | [d] => { results := [.lit (.bool true)], args := [d] }
  | _ => none }
def fnExactFlipSpaceRow : OpenClaim := { program := "ytlfdimhnielleaa", sum := "0cada11e93c8185726fe9046d2bcdae8a4a15e414b3b3e16355c2911cac3e8af", func := "loop.example/g01128/laws.FnExactFlipSpace", spec := "fnExactFlipSpace", unfollowed := true, recurses := true, apart := false }
def FnExactFlipSpaceSaid : Prop := fnExactFlipSpaceRow.holds Try.pinned (OpenSpec.ofChange fnExactFlipSpaceSpec)

/-- ITS FALSE NEIGHBOUR: 'it returns false'. Refute it at one input. -/
def fnExactFlipSpaceWrong : ChangeSpec := { name := "fnExactFlipSpace", fn := fun _ => fun
  | [d] => { results := [.lit (.bool false)], args := [d] }
  | _ => none }
def FnExactFlipSpaceWrongFalsely : Prop := fnExactFlipSpaceRow.holds Try.pinned (OpenSpec.ofChange fnExactFlipSpaceWrong)

/-- 'laws.FnExactParitySpace': WHATEVER THE INPUT: true; the input reads as it did. -/
def fnExactParitySpaceSpec : ChangeSpec := { name := "fnExactParitySpace", fn := fun _ => fun
  | [d] => { results := [.lit (.bool true)], args := [d] }
  | _ => none }
def fnExactParitySpaceRow : OpenClaim := { program := "ytlfdimhnielleaa", sum := "0cada11e93c8185726fe9046d2bcdae8a4a15e414b3b3e16355c2911cac3e8af", func := "loop.example/g01128/laws.FnExactParitySpace", spec := "fnExactParitySpace", unfollowed := true, recurses := true, apart := false }
def FnExactParitySpaceSaid : Prop := fnExactParitySpaceRow.holds Try.pinned (OpenSpec.ofChange fnExactParitySpaceSpec)

/-- ITS FALSE NEIGHBOUR: 'it returns false'. Refute it at one input. -/
def fnExactParitySpaceWrong : ChangeSpec := { name := "fnExactParitySpace", fn := fun _ => fun
  | [d] => { results := [.lit (.bool false)], args := [d] }
  | _ => none }
def FnExactParitySpaceWrongFalsely : Prop := fnExactParitySpaceRow.holds Try.pinned (OpenSpec.ofChange fnExactParitySpaceWrong)

/-- 'laws.FnExactPolygonDistance': WHATEVER THE INPUT: true; the input reads as it did. -/
def fnExactPolygonDistanceSpec : ChangeSpec := { name := "fnExactPolygonDistance", fn := fun _ => fun
  | [d1, d2, d3] => { results := [.lit (.bool true)], args := [d1, d2, d3] }
  | _ => none }
def fnExactPolygonDistanceRow : OpenClaim := { program := "ytlfdimhnielleaa", sum := "0cada11e93c8185726fe9046d2bcdae8a4a15e414b3b3e16355c2911cac3e8af", func := "loop.example/g01128/laws.FnExactPolygonDistance", spec := "fnExactPolygonDistance", unfollowed := true, recurses := true, apart := false }
def FnExactPolygonDistanceSaid : Prop := fnExactPolygonDistanceRow.holds Try.pinned (OpenSpec.ofChange fnExactPolygonDistanceSpec)

/-- ITS FALSE NEIGHBOUR: 'it returns false'. Refute it at one input. -/
def fnExactPolygonDistanceWrong : ChangeSpec := { name := "fnExactPolygonDistance", fn := fun _ => fun
  | [d1, d2, d3] => { results := [.lit (.bool false)], args := [d1, d2, d3] }
  | _ => none }
def FnExactPolygonDistanceWrongFalsely : Prop := fnExactPolygonDistanceRow.holds Try.pinned (OpenSpec.ofChange fnExactPolygonDistanceWrong)

/- THE SECOND FORM. 'bulk': how many values and letters a reading holds, each counted each time it is reached (what is shared counts as often as it is met; a slice's spare places count too). A statement '..UptoSaid' is the law's where the arguments, and the package variables that the reading takes, are together of bulk at most 1048576: NARROWER than '..Said'. Prove '..Said' where nothing that the law and all that it calls make is longer than what came in: it says more and counts as full. Else prove '..UptoSaid'. A law counts once. -/
mutual
def uptoBulk {H : Type} : DataW H → Nat
  | .lit (.string bytes) => bytes.length + 1
  | .lit _ => 1
  | .nil => 1
  | .ptr d => uptoBulk d + 1
  | .slice elems spare => uptoBulkAll elems + uptoBulkAll spare + 1
  | .agg parts => uptoBulkAll parts + 1
  | .iface _ d => uptoBulk d + 1
  | .map entries => uptoBulkEntries entries + 1
  | .held _ => 1
def uptoBulkAll {H : Type} : List (DataW H) → Nat
  | [] => 0
  | d :: r => uptoBulk d + uptoBulkAll r
def uptoBulkEntries {H : Type} : List (Lit × DataW H) → Nat
  | [] => 0
  | x :: r => uptoBulkEntry x + uptoBulkEntries r
def uptoBulkEntry {H : Type} : Lit × DataW H → Nat
  | (.string bytes, d) => bytes.length + uptoBulk d + 1
  | (_, d) => uptoBulk d + 1
 end
def uptoSmall : (H : Type) → List (DataW H) → Bool := fun _ ds => decide (uptoBulkAll ds ≤ 1048576)
def OpenSpec.upto (s : _root_.Go.ChangeSpec) : _root_.Go.OpenSpec := { _root_.Go.OpenSpec.ofChange s with cond := some uptoSmall }

/-- 'laws.FnExactPolygonSpace', WHERE WHAT IT READS IS OF BULK AT MOST 1048576: true; the input reads as it did. -/
def fnExactPolygonSpaceUptoRow : OpenClaim := { program := "ytlfdimhnielleaa", sum := "0cada11e93c8185726fe9046d2bcdae8a4a15e414b3b3e16355c2911cac3e8af", func := "loop.example/g01128/laws.FnExactPolygonSpace", spec := "fnExactPolygonSpace", unfollowed := true, recurses := true, apart := false, narrowed := true }
def FnExactPolygonSpaceUptoSaid : Prop := fnExactPolygonSpaceUptoRow.holds Try.pinned (OpenSpec.upto fnExactPolygonSpaceSpec)

/-- 'laws.FnExactFlipSpace', WHERE WHAT IT READS IS OF BULK AT MOST 1048576: true; the input reads as it did. -/
def fnExactFlipSpaceUptoRow : OpenClaim := { program := "ytlfdimhnielleaa", sum := "0cada11e93c8185726fe9046d2bcdae8a4a15e414b3b3e16355c2911cac3e8af", func := "loop.example/g01128/laws.FnExactFlipSpace", spec := "fnExactFlipSpace", unfollowed := true, recurses := true, apart := false, narrowed := true }
def FnExactFlipSpaceUptoSaid : Prop := fnExactFlipSpaceUptoRow.holds Try.pinned (OpenSpec.upto fnExactFlipSpaceSpec)

/-- 'laws.FnExactParitySpace', WHERE WHAT IT READS IS OF BULK AT MOST 1048576: true; the input reads as it did. -/
def fnExactParitySpaceUptoRow : OpenClaim := { program := "ytlfdimhnielleaa", sum := "0cada11e93c8185726fe9046d2bcdae8a4a15e414b3b3e16355c2911cac3e8af", func := "loop.example/g01128/laws.FnExactParitySpace", spec := "fnExactParitySpace", unfollowed := true, recurses := true, apart := false, narrowed := true }
def FnExactParitySpaceUptoSaid : Prop := fnExactParitySpaceUptoRow.holds Try.pinned (OpenSpec.upto fnExactParitySpaceSpec)

/-- 'laws.FnExactPolygonDistance', WHERE WHAT IT READS IS OF BULK AT MOST 1048576: true; the input reads as it did. -/
def fnExactPolygonDistanceUptoRow : OpenClaim := { program := "ytlfdimhnielleaa", sum := "0cada11e93c8185726fe9046d2bcdae8a4a15e414b3b3e16355c2911cac3e8af", func := "loop.example/g01128/laws.FnExactPolygonDistance", spec := "fnExactPolygonDistance", unfollowed := true, recurses := true, apart := false, narrowed := true }
def FnExactPolygonDistanceUptoSaid : Prop := fnExactPolygonDistanceUptoRow.holds Try.pinned (OpenSpec.upto fnExactPolygonDistanceSpec)

end Rows
end Go.Proofs.Ytlfdimhnielleaa

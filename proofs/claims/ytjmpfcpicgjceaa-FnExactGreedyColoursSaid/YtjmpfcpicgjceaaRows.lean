/-
  No cell of these rows narrows 'for every input' (looked for: loops, veiled, ifaces, maps, wideKeys, modest, calm, conditions, laid).
  DERIVED. THE GIVEN ROWS OF THIS SEAT. 12 by the template 'for every input the law returns true; each argument reads behind the call as it read before'; 0 by the template 'total and deterministic' (their statements: YtjmpfcpicgjceaaTotals.lean).
  GIVEN WITH THE SEED: the statements are not yours to turn. If you find one false, say at which input.
  Laid BY PROGRAM, IN A SANDBOX (cutbox-rows.mjs): the forced cells as the released guide's own fill.sh prints them over the translation c4336dbfc2029e6f… (all of the seat's roots in one cut). By AI agents, Wed Nov 11 2026. No macro, syntax, notation, axiom, sorry.
-/
import Derived.Test.YtjmpfcpicgjceaaChecked
import GoSem.Claim
import GoSem.ClaimJoined
import GoSem.ClaimMapViews
import Derived.JoinedTies
import Derived.KernelRfl
namespace Go.Proofs.Ytjmpfcpicgjceaa
/- THE CELL 'sum', in the pinned program and in every row, IS THE sha256 OF THE DUMP (.gsa) THAT YtjmpfcpicgjceaaProg.lean LOADS. Nothing in Lean hashes anything: it is a label: what it is worth is what the hold of that sum in a sandbox is worth. -/
noncomputable def Try.pinned : Pinned := { name := "ytjmpfcpicgjceaa", sum := "c4336dbfc2029e6f97636233b2f81cc8ce8728a1af2863998a47a6fa8a417468", checked := Try.checked }
namespace Rows
def none {H : Type} : Left H := { results := [], args := [] }

/-- 'laws.FnExactRenameColours': WHATEVER THE INPUT: true; the input reads as it did. -/
def fnExactRenameColoursSpec : ChangeSpec := { name := "fnExactRenameColours", fn := fun _ => fun
  | [d1, d2, d3, d4] => { results := [.lit (.bool true)], args := [d1, d2, d3, d4] }
  | _ => none }
def fnExactRenameColoursRow : OpenClaim := { program := "ytjmpfcpicgjceaa", sum := "c4336dbfc2029e6f97636233b2f81cc8ce8728a1af2863998a47a6fa8a417468", func := "loop.example/g01128/laws.FnExactRenameColours", spec := "fnExactRenameColours", unfollowed := true, recurses := true, apart := false }
def FnExactRenameColoursSaid : Prop := fnExactRenameColoursRow.holds Try.pinned (OpenSpec.ofChange fnExactRenameColoursSpec)

/-- ITS FALSE NEIGHBOUR: 'it returns false'. Refute it at one input. -/
def fnExactRenameColoursWrong : ChangeSpec := { name := "fnExactRenameColours", fn := fun _ => fun
  | [d1, d2, d3, d4] => { results := [.lit (.bool false)], args := [d1, d2, d3, d4] }
  | _ => none }
def FnExactRenameColoursWrongFalsely : Prop := fnExactRenameColoursRow.holds Try.pinned (OpenSpec.ofChange fnExactRenameColoursWrong)

/-- 'laws.FnExactIsIndependent': WHATEVER THE INPUT: true; the input reads as it did. -/
def fnExactIsIndependentSpec : ChangeSpec := { name := "fnExactIsIndependent", fn := fun _ => fun
  | [d1, d2] => { results := [.lit (.bool true)], args := [d1, d2] }
  | _ => none }
def fnExactIsIndependentRow : OpenClaim := { program := "ytjmpfcpicgjceaa", sum := "c4336dbfc2029e6f97636233b2f81cc8ce8728a1af2863998a47a6fa8a417468", func := "loop.example/g01128/laws.FnExactIsIndependent", spec := "fnExactIsIndependent", unfollowed := true, recurses := true, apart := false }
def FnExactIsIndependentSaid : Prop := fnExactIsIndependentRow.holds Try.pinned (OpenSpec.ofChange fnExactIsIndependentSpec)

/-- ITS FALSE NEIGHBOUR: 'it returns false'. Refute it at one input. -/
def fnExactIsIndependentWrong : ChangeSpec := { name := "fnExactIsIndependent", fn := fun _ => fun
  | [d1, d2] => { results := [.lit (.bool false)], args := [d1, d2] }
  | _ => none }
def FnExactIsIndependentWrongFalsely : Prop := fnExactIsIndependentRow.holds Try.pinned (OpenSpec.ofChange fnExactIsIndependentWrong)

/-- 'laws.FnExactOtherNodes': WHATEVER THE INPUT: true; the input reads as it did. -/
def fnExactOtherNodesSpec : ChangeSpec := { name := "fnExactOtherNodes", fn := fun _ => fun
  | [d1, d2] => { results := [.lit (.bool true)], args := [d1, d2] }
  | _ => none }
def fnExactOtherNodesRow : OpenClaim := { program := "ytjmpfcpicgjceaa", sum := "c4336dbfc2029e6f97636233b2f81cc8ce8728a1af2863998a47a6fa8a417468", func := "loop.example/g01128/laws.FnExactOtherNodes", spec := "fnExactOtherNodes", unfollowed := true, recurses := true, apart := false }
def FnExactOtherNodesSaid : Prop := fnExactOtherNodesRow.holds Try.pinned (OpenSpec.ofChange fnExactOtherNodesSpec)

/-- ITS FALSE NEIGHBOUR: 'it returns false'. Refute it at one input. -/
def fnExactOtherNodesWrong : ChangeSpec := { name := "fnExactOtherNodes", fn := fun _ => fun
  | [d1, d2] => { results := [.lit (.bool false)], args := [d1, d2] }
  | _ => none }
def FnExactOtherNodesWrongFalsely : Prop := fnExactOtherNodesRow.holds Try.pinned (OpenSpec.ofChange fnExactOtherNodesWrong)

/-- 'laws.FnExactHasKind': WHATEVER THE INPUT: true; the input reads as it did. -/
def fnExactHasKindSpec : ChangeSpec := { name := "fnExactHasKind", fn := fun _ => fun
  | [d1, d2, d3] => { results := [.lit (.bool true)], args := [d1, d2, d3] }
  | _ => none }
def fnExactHasKindRow : OpenClaim := { program := "ytjmpfcpicgjceaa", sum := "c4336dbfc2029e6f97636233b2f81cc8ce8728a1af2863998a47a6fa8a417468", func := "loop.example/g01128/laws.FnExactHasKind", spec := "fnExactHasKind", unfollowed := true, recurses := true, apart := false }
def FnExactHasKindSaid : Prop := fnExactHasKindRow.holds Try.pinned (OpenSpec.ofChange fnExactHasKindSpec)

/-- ITS FALSE NEIGHBOUR: 'it returns false'. Refute it at one input. -/
def fnExactHasKindWrong : ChangeSpec := { name := "fnExactHasKind", fn := fun _ => fun
  | [d1, d2, d3] => { results := [.lit (.bool false)], args := [d1, d2, d3] }
  | _ => none }
def FnExactHasKindWrongFalsely : Prop := fnExactHasKindRow.holds Try.pinned (OpenSpec.ofChange fnExactHasKindWrong)

/-- 'laws.FnExactIsTightSet': WHATEVER THE INPUT: true; the input reads as it did. -/
def fnExactIsTightSetSpec : ChangeSpec := { name := "fnExactIsTightSet", fn := fun _ => fun
  | [d1, d2, d3] => { results := [.lit (.bool true)], args := [d1, d2, d3] }
  | _ => none }
def fnExactIsTightSetRow : OpenClaim := { program := "ytjmpfcpicgjceaa", sum := "c4336dbfc2029e6f97636233b2f81cc8ce8728a1af2863998a47a6fa8a417468", func := "loop.example/g01128/laws.FnExactIsTightSet", spec := "fnExactIsTightSet", unfollowed := true, recurses := true, apart := false }
def FnExactIsTightSetSaid : Prop := fnExactIsTightSetRow.holds Try.pinned (OpenSpec.ofChange fnExactIsTightSetSpec)

/-- ITS FALSE NEIGHBOUR: 'it returns false'. Refute it at one input. -/
def fnExactIsTightSetWrong : ChangeSpec := { name := "fnExactIsTightSet", fn := fun _ => fun
  | [d1, d2, d3] => { results := [.lit (.bool false)], args := [d1, d2, d3] }
  | _ => none }
def FnExactIsTightSetWrongFalsely : Prop := fnExactIsTightSetRow.holds Try.pinned (OpenSpec.ofChange fnExactIsTightSetWrong)

/-- 'laws.FnExactGreedyTight': WHATEVER THE INPUT: true; the input reads as it did. -/
def fnExactGreedyTightSpec : ChangeSpec := { name := "fnExactGreedyTight", fn := fun _ => fun
  | [d1, d2, d3] => { results := [.lit (.bool true)], args := [d1, d2, d3] }
  | _ => none }
def fnExactGreedyTightRow : OpenClaim := { program := "ytjmpfcpicgjceaa", sum := "c4336dbfc2029e6f97636233b2f81cc8ce8728a1af2863998a47a6fa8a417468", func := "loop.example/g01128/laws.FnExactGreedyTight", spec := "fnExactGreedyTight", unfollowed := true, recurses := true, apart := false }
def FnExactGreedyTightSaid : Prop := fnExactGreedyTightRow.holds Try.pinned (OpenSpec.ofChange fnExactGreedyTightSpec)

/-- ITS FALSE NEIGHBOUR: 'it returns false'. Refute it at one input. -/
def fnExactGreedyTightWrong : ChangeSpec := { name := "fnExactGreedyTight", fn := fun _ => fun
  | [d1, d2, d3] => { results := [.lit (.bool false)], args := [d1, d2, d3] }
  | _ => none }
def FnExactGreedyTightWrongFalsely : Prop := fnExactGreedyTightRow.holds Try.pinned (OpenSpec.ofChange fnExactGreedyTightWrong)

/-- 'laws.FnExactKindWays': WHATEVER THE INPUT: true; the input reads as it did. -/
def fnExactKindWaysSpec : ChangeSpec := { name := "fnExactKindWays", fn := fun _ => fun
  | [d1, d2, d3] => { results := [.lit (.bool true)], args := [d1, d2, d3] }
  | _ => none }
def fnExactKindWaysRow : OpenClaim := { program := "ytjmpfcpicgjceaa", sum := "c4336dbfc2029e6f97636233b2f81cc8ce8728a1af2863998a47a6fa8a417468", func := "loop.example/g01128/laws.FnExactKindWays", spec := "fnExactKindWays", unfollowed := true, recurses := true, apart := false }
def FnExactKindWaysSaid : Prop := fnExactKindWaysRow.holds Try.pinned (OpenSpec.ofChange fnExactKindWaysSpec)

/-- ITS FALSE NEIGHBOUR: 'it returns false'. Refute it at one input. -/
def fnExactKindWaysWrong : ChangeSpec := { name := "fnExactKindWays", fn := fun _ => fun
  | [d1, d2, d3] => { results := [.lit (.bool false)], args := [d1, d2, d3] }
  | _ => none }
def FnExactKindWaysWrongFalsely : Prop := fnExactKindWaysRow.holds Try.pinned (OpenSpec.ofChange fnExactKindWaysWrong)

/-- 'laws.FnExactStillNodes': WHATEVER THE INPUT: true; the input reads as it did. -/
def fnExactStillNodesSpec : ChangeSpec := { name := "fnExactStillNodes", fn := fun _ => fun
  | [d1, d2, d3] => { results := [.lit (.bool true)], args := [d1, d2, d3] }
  | _ => none }
def fnExactStillNodesRow : OpenClaim := { program := "ytjmpfcpicgjceaa", sum := "c4336dbfc2029e6f97636233b2f81cc8ce8728a1af2863998a47a6fa8a417468", func := "loop.example/g01128/laws.FnExactStillNodes", spec := "fnExactStillNodes", unfollowed := true, recurses := true, apart := false }
def FnExactStillNodesSaid : Prop := fnExactStillNodesRow.holds Try.pinned (OpenSpec.ofChange fnExactStillNodesSpec)

/-- ITS FALSE NEIGHBOUR: 'it returns false'. Refute it at one input. -/
def fnExactStillNodesWrong : ChangeSpec := { name := "fnExactStillNodes", fn := fun _ => fun
  | [d1, d2, d3] => { results := [.lit (.bool false)], args := [d1, d2, d3] }
  | _ => none }
def FnExactStillNodesWrongFalsely : Prop := fnExactStillNodesRow.holds Try.pinned (OpenSpec.ofChange fnExactStillNodesWrong)

/-- 'laws.FnExactGreedyColours': WHATEVER THE INPUT: true; the input reads as it did. -/
def fnExactGreedyColoursSpec : ChangeSpec := { name := "fnExactGreedyColours", fn := fun _ => fun
  | [d1, d2] => { results := [.lit (.bool true)], args := [d1, d2] }
  | _ => none }
def fnExactGreedyColoursRow : OpenClaim := { program := "ytjmpfcpicgjceaa", sum := "c4336dbfc2029e6f97636233b2f81cc8ce8728a1af2863998a47a6fa8a417468", func := "loop.example/g01128/laws.FnExactGreedyColours", spec := "fnExactGreedyColours", unfollowed := true, recurses := true, apart := false }
def FnExactGreedyColoursSaid : Prop := fnExactGreedyColoursRow.holds Try.pinned (OpenSpec.ofChange fnExactGreedyColoursSpec)

/-- ITS FALSE NEIGHBOUR: 'it returns false'. Refute it at one input. -/
def fnExactGreedyColoursWrong : ChangeSpec := { name := "fnExactGreedyColours", fn := fun _ => fun
  | [d1, d2] => { results := [.lit (.bool false)], args := [d1, d2] }
  | _ => none }
def FnExactGreedyColoursWrongFalsely : Prop := fnExactGreedyColoursRow.holds Try.pinned (OpenSpec.ofChange fnExactGreedyColoursWrong)

/-- 'laws.FnExactChainOf': WHATEVER THE INPUT: true; the input reads as it did. -/
def fnExactChainOfSpec : ChangeSpec := { name := "fnExactChainOf", fn := fun _ => fun
  | [d1, d2, d3, d4, d5] => { results := [.lit (.bool true)], args := [d1, d2, d3, d4, d5] }
  | _ => none }
def fnExactChainOfRow : OpenClaim := { program := "ytjmpfcpicgjceaa", sum := "c4336dbfc2029e6f97636233b2f81cc8ce8728a1af2863998a47a6fa8a417468", func := "loop.example/g01128/laws.FnExactChainOf", spec := "fnExactChainOf", unfollowed := true, recurses := true, apart := false }
def FnExactChainOfSaid : Prop := fnExactChainOfRow.holds Try.pinned (OpenSpec.ofChange fnExactChainOfSpec)

/-- ITS FALSE NEIGHBOUR: 'it returns false'. Refute it at one input. -/
def fnExactChainOfWrong : ChangeSpec := { name := "fnExactChainOf", fn := fun _ => fun
  | [d1, d2, d3, d4, d5] => { results := [.lit (.bool false)], args := [d1, d2, d3, d4, d5] }
  | _ => none }
def FnExactChainOfWrongFalsely : Prop := fnExactChainOfRow.holds Try.pinned (OpenSpec.ofChange fnExactChainOfWrong)

/-- 'laws.FnExactKempeChange': WHATEVER THE INPUT: true; the input reads as it did. -/
def fnExactKempeChangeSpec : ChangeSpec := { name := "fnExactKempeChange", fn := fun _ => fun
  | [d1, d2, d3, d4, d5] => { results := [.lit (.bool true)], args := [d1, d2, d3, d4, d5] }
  | _ => none }
def fnExactKempeChangeRow : OpenClaim := { program := "ytjmpfcpicgjceaa", sum := "c4336dbfc2029e6f97636233b2f81cc8ce8728a1af2863998a47a6fa8a417468", func := "loop.example/g01128/laws.FnExactKempeChange", spec := "fnExactKempeChange", unfollowed := true, recurses := true, apart := false }
def FnExactKempeChangeSaid : Prop := fnExactKempeChangeRow.holds Try.pinned (OpenSpec.ofChange fnExactKempeChangeSpec)

/-- ITS FALSE NEIGHBOUR: 'it returns false'. Refute it at one input. -/
def fnExactKempeChangeWrong : ChangeSpec := { name := "fnExactKempeChange", fn := fun _ => fun
  | [d1, d2, d3, d4, d5] => { results := [.lit (.bool false)], args := [d1, d2, d3, d4, d5] }
  | _ => none }
def FnExactKempeChangeWrongFalsely : Prop := fnExactKempeChangeRow.holds Try.pinned (OpenSpec.ofChange fnExactKempeChangeWrong)

/-- 'laws.FnExactCutPlaces': WHATEVER THE INPUT: true; the input reads as it did. -/
def fnExactCutPlacesSpec : ChangeSpec := { name := "fnExactCutPlaces", fn := fun _ => fun
  | [d] => { results := [.lit (.bool true)], args := [d] }
  | _ => none }
def fnExactCutPlacesRow : OpenClaim := { program := "ytjmpfcpicgjceaa", sum := "c4336dbfc2029e6f97636233b2f81cc8ce8728a1af2863998a47a6fa8a417468", func := "loop.example/g01128/laws.FnExactCutPlaces", spec := "fnExactCutPlaces", unfollowed := true, recurses := true, apart := false }
def FnExactCutPlacesSaid : Prop := fnExactCutPlacesRow.holds Try.pinned (OpenSpec.ofChange fnExactCutPlacesSpec)

/-- ITS FALSE NEIGHBOUR: 'it returns false'. Refute it at one input. -/
def fnExactCutPlacesWrong : ChangeSpec := { name := "fnExactCutPlaces", fn := fun _ => fun
  | [d] => { results := [.lit (.bool false)], args := [d] }
  | _ => none }
def FnExactCutPlacesWrongFalsely : Prop := fnExactCutPlacesRow.holds Try.pinned (OpenSpec.ofChange fnExactCutPlacesWrong)

/- THE SECOND FORM. 'bulk': how many values and letters a reading holds, each counted each time it is reached (what is shared counts as often as it is met; a slice's spare places count too). A statement '..UptoSaid' is the law's where the arguments, and the package variables that the reading takes, are together of bulk at most 1048576: NARROWER than '..Said'. Prove '..Said' where nothing that the law and all that it calls make is longer than what came in: it says more and counts as full. Else prove '..UptoSaid'. A law counts once. -/
mutual
def uptoBulk {H : Type} : DataW H → Nat
  | .lit (.string bytes) => bytes.length + 1
  | .lit _ => 1
  | .nil => 1
  | .ptr d => uptoBulk d + 1
  | .slice elems spare => uptoBulkAll elems + uptoBulkAll spare + 1
  | .agg parts => uptoBulkAll parts + 1
  | .iface _ d => uptoBulk d + 1
  | .map entries => uptoBulkEntries entries + 1
  | .held _ => 1
def uptoBulkAll {H : Type} : List (DataW H) → Nat
  | [] => 0
  | d :: r => uptoBulk d + uptoBulkAll r
def uptoBulkEntries {H : Type} : List (Lit × DataW H) → Nat
  | [] => 0
  | x :: r => uptoBulkEntry x + uptoBulkEntries r
def uptoBulkEntry {H : Type} : Lit × DataW H → Nat
  | (.string bytes, d) => bytes.length + uptoBulk d + 1
  | (_, d) => uptoBulk d + 1
 end
def uptoSmall : (H : Type) → List (DataW H) → Bool := fun _ ds => decide (uptoBulkAll ds ≤ 1048576)
def OpenSpec.upto (s : _root_.Go.ChangeSpec) : _root_.Go.OpenSpec := { _root_.Go.OpenSpec.ofChange s with cond := some uptoSmall }

/-- 'laws.FnExactRenameColours', WHERE WHAT IT READS IS OF BULK AT MOST 1048576: true; the input reads as it did. -/
def fnExactRenameColoursUptoRow : OpenClaim := { program := "ytjmpfcpicgjceaa", sum := "c4336dbfc2029e6f97636233b2f81cc8ce8728a1af2863998a47a6fa8a417468", func := "loop.example/g01128/laws.FnExactRenameColours", spec := "fnExactRenameColours", unfollowed := true, recurses := true, apart := false, narrowed := true }
def FnExactRenameColoursUptoSaid : Prop := fnExactRenameColoursUptoRow.holds Try.pinned (OpenSpec.upto fnExactRenameColoursSpec)

/-- 'laws.FnExactIsIndependent', WHERE WHAT IT READS IS OF BULK AT MOST 1048576: true; the input reads as it did. -/
def fnExactIsIndependentUptoRow : OpenClaim := { program := "ytjmpfcpicgjceaa", sum := "c4336dbfc2029e6f97636233b2f81cc8ce8728a1af2863998a47a6fa8a417468", func := "loop.example/g01128/laws.FnExactIsIndependent", spec := "fnExactIsIndependent", unfollowed := true, recurses := true, apart := false, narrowed := true }
def FnExactIsIndependentUptoSaid : Prop := fnExactIsIndependentUptoRow.holds Try.pinned (OpenSpec.upto fnExactIsIndependentSpec)

/-- 'laws.FnExactOtherNodes', WHERE WHAT IT READS IS OF BULK AT MOST 1048576: true; the input reads as it did. -/
def fnExactOtherNodesUptoRow : OpenClaim := { program := "ytjmpfcpicgjceaa", sum := "c4336dbfc2029e6f97636233b2f81cc8ce8728a1af2863998a47a6fa8a417468", func := "loop.example/g01128/laws.FnExactOtherNodes", spec := "fnExactOtherNodes", unfollowed := true, recurses := true, apart := false, narrowed := true }
def FnExactOtherNodesUptoSaid : Prop := fnExactOtherNodesUptoRow.holds Try.pinned (OpenSpec.upto fnExactOtherNodesSpec)

/-- 'laws.FnExactHasKind', WHERE WHAT IT READS IS OF BULK AT MOST 1048576: true; the input reads as it did. -/
def fnExactHasKindUptoRow : OpenClaim := { program := "ytjmpfcpicgjceaa", sum := "c4336dbfc2029e6f97636233b2f81cc8ce8728a1af2863998a47a6fa8a417468", func := "loop.example/g01128/laws.FnExactHasKind", spec := "fnExactHasKind", unfollowed := true, recurses := true, apart := false, narrowed := true }
def FnExactHasKindUptoSaid : Prop := fnExactHasKindUptoRow.holds Try.pinned (OpenSpec.upto fnExactHasKindSpec)

/-- 'laws.FnExactIsTightSet', WHERE WHAT IT READS IS OF BULK AT MOST 1048576: true; the input reads as it did. -/
def fnExactIsTightSetUptoRow : OpenClaim := { program := "ytjmpfcpicgjceaa", sum := "c4336dbfc2029e6f97636233b2f81cc8ce8728a1af2863998a47a6fa8a417468", func := "loop.example/g01128/laws.FnExactIsTightSet", spec := "fnExactIsTightSet", unfollowed := true, recurses := true, apart := false, narrowed := true }
def FnExactIsTightSetUptoSaid : Prop := fnExactIsTightSetUptoRow.holds Try.pinned (OpenSpec.upto fnExactIsTightSetSpec)

/-- 'laws.FnExactGreedyTight', WHERE WHAT IT READS IS OF BULK AT MOST 1048576: true; the input reads as it did. -/
def fnExactGreedyTightUptoRow : OpenClaim := { program := "ytjmpfcpicgjceaa", sum := "c4336dbfc2029e6f97636233b2f81cc8ce8728a1af2863998a47a6fa8a417468", func := "loop.example/g01128/laws.FnExactGreedyTight", spec := "fnExactGreedyTight", unfollowed := true, recurses := true, apart := false, narrowed := true }
def FnExactGreedyTightUptoSaid : Prop := fnExactGreedyTightUptoRow.holds Try.pinned (OpenSpec.upto fnExactGreedyTightSpec)

/-- 'laws.FnExactKindWays', WHERE WHAT IT READS IS OF BULK AT MOST 1048576: true; the input reads as it did. -/
def fnExactKindWaysUptoRow : OpenClaim := { program := "ytjmpfcpicgjceaa", sum := "c4336dbfc2029e6f97636233b2f81cc8ce8728a1af2863998a47a6fa8a417468", func := "loop.example/g01128/laws.FnExactKindWays", spec := "fnExactKindWays", unfollowed := true, recurses := true, apart := false, narrowed := true }
def FnExactKindWaysUptoSaid : Prop := fnExactKindWaysUptoRow.holds Try.pinned (OpenSpec.upto fnExactKindWaysSpec)

/-- 'laws.FnExactStillNodes', WHERE WHAT IT READS IS OF BULK AT MOST 1048576: true; the input reads as it did. -/
def fnExactStillNodesUptoRow : OpenClaim := { program := "ytjmpfcpicgjceaa", sum := "c4336dbfc2029e6f97636233b2f81cc8ce8728a1af2863998a47a6fa8a417468", func := "loop.example/g01128/laws.FnExactStillNodes", spec := "fnExactStillNodes", unfollowed := true, recurses := true, apart := false, narrowed := true }
def FnExactStillNodesUptoSaid : Prop := fnExactStillNodesUptoRow.holds Try.pinned (OpenSpec.upto fnExactStillNodesSpec)

/-- 'laws.FnExactGreedyColours', WHERE WHAT IT READS IS OF BULK AT MOST 1048576: true; the input reads as it did. -/
def fnExactGreedyColoursUptoRow : OpenClaim := { program := "ytjmpfcpicgjceaa", sum := "c4336dbfc2029e6f97636233b2f81cc8ce8728a1af2863998a47a6fa8a417468", func := "loop.example/g01128/laws.FnExactGreedyColours", spec := "fnExactGreedyColours", unfollowed := true, recurses := true, apart := false, narrowed := true }
def FnExactGreedyColoursUptoSaid : Prop := fnExactGreedyColoursUptoRow.holds Try.pinned (OpenSpec.upto fnExactGreedyColoursSpec)

/-- 'laws.FnExactChainOf', WHERE WHAT IT READS IS OF BULK AT MOST 1048576: true; the input reads as it did. -/
def fnExactChainOfUptoRow : OpenClaim := { program := "ytjmpfcpicgjceaa", sum := "c4336dbfc2029e6f97636233b2f81cc8ce8728a1af2863998a47a6fa8a417468", func := "loop.example/g01128/laws.FnExactChainOf", spec := "fnExactChainOf", unfollowed := true, recurses := true, apart := false, narrowed := true }
def FnExactChainOfUptoSaid : Prop := fnExactChainOfUptoRow.holds Try.pinned (OpenSpec.upto fnExactChainOfSpec)

/-- 'laws.FnExactKempeChange', WHERE WHAT IT READS IS OF BULK AT MOST 1048576: true; the input reads as it did. -/
def fnExactKempeChangeUptoRow : OpenClaim := { program := "ytjmpfcpicgjceaa", sum := "c4336dbfc2029e6f97636233b2f81cc8ce8728a1af2863998a47a6fa8a417468", func := "loop.example/g01128/laws.FnExactKempeChange", spec := "fnExactKempeChange", unfollowed := true, recurses := true, apart := false, narrowed := true }
def FnExactKempeChangeUptoSaid : Prop := fnExactKempeChangeUptoRow.holds Try.pinned (OpenSpec.upto fnExactKempeChangeSpec)

/-- 'laws.FnExactCutPlaces', WHERE WHAT IT READS IS OF BULK AT MOST 1048576: true; the input reads as it did. -/
def fnExactCutPlacesUptoRow : OpenClaim := { program := "ytjmpfcpicgjceaa", sum := "c4336dbfc2029e6f97636233b2f81cc8ce8728a1af2863998a47a6fa8a417468", func := "loop.example/g01128/laws.FnExactCutPlaces", spec := "fnExactCutPlaces", unfollowed := true, recurses := true, apart := false, narrowed := true }
def FnExactCutPlacesUptoSaid : Prop := fnExactCutPlacesUptoRow.holds Try.pinned (OpenSpec.upto fnExactCutPlacesSpec)

end Rows
end Go.Proofs.Ytjmpfcpicgjceaa

/-
  No cell of these rows narrows 'for every input' (looked for: loops, veiled, ifaces, maps, wideKeys, modest, calm, conditions, laid).
  DERIVED. THE GIVEN ROWS OF THIS SEAT. 12 by the template 'for every input the law returns true; each argument reads behind the call as it read before'; 0 by the template 'total and deterministic' (their statements: YthogfineaeklpaaTotals.lean).
  GIVEN WITH THE SEED: the statements are not yours to turn. If you find one false, say at which input.
  Laid BY PROGRAM, IN A SANDBOX (cutbox-rows.mjs): the forced cells as the released guide's own fill.sh prints them over the translation 3fd80eb296cf50ae… (all of the seat's roots in one cut). By AI agents, Wed Nov 11 2026. No macro, syntax, notation, axiom, sorry.
-/
import Derived.Test.YthogfineaeklpaaChecked
import GoSem.Claim
import GoSem.ClaimJoined
import GoSem.ClaimMapViews
import Derived.JoinedTies
import Derived.KernelRfl
namespace Go.Proofs.Ythogfineaeklpaa
/- THE CELL 'sum', in the pinned program and in every row, IS THE sha256 OF THE DUMP (.gsa) THAT YthogfineaeklpaaProg.lean LOADS. Nothing in Lean hashes anything: it is a label: what it is worth is what the hold of that sum in a sandbox is worth. -/
noncomputable def Try.pinned : Pinned := { name := "ythogfineaeklpaa", sum := "3fd80eb296cf50aee4b15852ae1c5eb72f5879894829c007b3ba125bc0663db2", checked := Try.checked }
namespace Rows
def none {H : Type} : Left H := { results := [], args := [] }

/-- 'laws.FnExactIsIndependent': WHATEVER THE INPUT: true; the input reads as it did. -/
def fnExactIsIndependentSpec : ChangeSpec := { name := "fnExactIsIndependent", fn := fun _ => fun
  | [d1, d2] => { results := [.lit (.bool true)], args := [d1, d2] }
  | _ => none }
def fnExactIsIndependentRow : OpenClaim := { program := "ythogfineaeklpaa", sum := "3fd80eb296cf50aee4b15852ae1c5eb72f5879894829c007b3ba125bc0663db2", func := "loop.example/g01128/laws.FnExactIsIndependent", spec := "fnExactIsIndependent", unfollowed := true, recurses := true, apart := false }
def FnExactIsIndependentSaid : Prop := fnExactIsIndependentRow.holds Try.pinned (OpenSpec.ofChange fnExactIsIndependentSpec)

/-- ITS FALSE NEIGHBOUR: 'it returns false'. Refute it at one input. -/
def fnExactIsIndependentWrong : ChangeSpec := { name := "fnExactIsIndependent", fn := fun _ => fun
  | [d1, d2] => { results := [.lit (.bool false)], args := [d1, d2] }
  | _ => none }
def FnExactIsIndependentWrongFalsely : Prop := fnExactIsIndependentRow.holds Try.pinned (OpenSpec.ofChange fnExactIsIndependentWrong)

/-- 'laws.FnExactHasKind': WHATEVER THE INPUT: true; the input reads as it did. -/
def fnExactHasKindSpec : ChangeSpec := { name := "fnExactHasKind", fn := fun _ => fun
  | [d1, d2, d3] => { results := [.lit (.bool true)], args := [d1, d2, d3] }
  | _ => none }
def fnExactHasKindRow : OpenClaim := { program := "ythogfineaeklpaa", sum := "3fd80eb296cf50aee4b15852ae1c5eb72f5879894829c007b3ba125bc0663db2", func := "loop.example/g01128/laws.FnExactHasKind", spec := "fnExactHasKind", unfollowed := true, recurses := true, apart := false }
def FnExactHasKindSaid : Prop := fnExactHasKindRow.holds Try.pinned (OpenSpec.ofChange fnExactHasKindSpec)

/-- ITS FALSE NEIGHBOUR: 'it returns false'. Refute it at one input. -/
def fnExactHasKindWrong : ChangeSpec := { name := "fnExactHasKind", fn := fun _ => fun
  | [d1, d2, d3] => { results := [.lit (.bool false)], args := [d1, d2, d3] }
  | _ => none }
def FnExactHasKindWrongFalsely : Prop := fnExactHasKindRow.holds Try.pinned (OpenSpec.ofChange fnExactHasKindWrong)

/-- 'laws.FnExactIsTightSet': WHATEVER THE INPUT: true; the input reads as it did. -/
def fnExactIsTightSetSpec : ChangeSpec := { name := "fnExactIsTightSet", fn := fun _ => fun
  | [d1, d2, d3] => { results := [.lit (.bool true)], args := [d1, d2, d3] }
  | _ => none }
def fnExactIsTightSetRow : OpenClaim := { program := "ythogfineaeklpaa", sum := "3fd80eb296cf50aee4b15852ae1c5eb72f5879894829c007b3ba125bc0663db2", func := "loop.example/g01128/laws.FnExactIsTightSet", spec := "fnExactIsTightSet", unfollowed := true, recurses := true, apart := false }
def FnExactIsTightSetSaid : Prop := fnExactIsTightSetRow.holds Try.pinned (OpenSpec.ofChange fnExactIsTightSetSpec)

/-- ITS FALSE NEIGHBOUR: 'it returns false'. Refute it at one input. -/
def fnExactIsTightSetWrong : ChangeSpec := { name := "fnExactIsTightSet", fn := fun _ => fun
  | [d1, d2, d3] => { results := [.lit (.bool false)], args := [d1, d2, d3] }
  | _ => none }
def FnExactIsTightSetWrongFalsely : Prop := fnExactIsTightSetRow.holds Try.pinned (OpenSpec.ofChange fnExactIsTightSetWrong)

/-- 'laws.FnExactOtherNodes': WHATEVER THE INPUT: true; the input reads as it did. -/
def fnExactOtherNodesSpec : ChangeSpec := { name := "fnExactOtherNodes", fn := fun _ => fun
  | [d1, d2] => { results := [.lit (.bool true)], args := [d1, d2] }
  | _ => none }
def fnExactOtherNodesRow : OpenClaim := { program := "ythogfineaeklpaa", sum := "3fd80eb296cf50aee4b15852ae1c5eb72f5879894829c007b3ba125bc0663db2", func := "loop.example/g01128/laws.FnExactOtherNodes", spec := "fnExactOtherNodes", unfollowed := true, recurses := true, apart := false }
def FnExactOtherNodesSaid : Prop := fnExactOtherNodesRow.holds Try.pinned (OpenSpec.ofChange fnExactOtherNodesSpec)

/-- ITS FALSE NEIGHBOUR: 'it returns false'. Refute it at one input. -/
def fnExactOtherNodesWrong : ChangeSpec := { name := "fnExactOtherNodes", fn := fun _ => fun
  | [d1, d2] => { results := [.lit (.bool false)], args := [d1, d2] }
  | _ => none }
def FnExactOtherNodesWrongFalsely : Prop := fnExactOtherNodesRow.holds Try.pinned (OpenSpec.ofChange fnExactOtherNodesWrong)

/-- 'laws.FnExactCliqueGraph': WHATEVER THE INPUT: true; the input reads as it did. -/
def fnExactCliqueGraphSpec : ChangeSpec := { name := "fnExactCliqueGraph", fn := fun _ => fun
  | [d] => { results := [.lit (.bool true)], args := [d] }
  | _ => none }
def fnExactCliqueGraphRow : OpenClaim := { program := "ythogfineaeklpaa", sum := "3fd80eb296cf50aee4b15852ae1c5eb72f5879894829c007b3ba125bc0663db2", func := "loop.example/g01128/laws.FnExactCliqueGraph", spec := "fnExactCliqueGraph", apart := false }
def FnExactCliqueGraphSaid : Prop := fnExactCliqueGraphRow.holds Try.pinned (OpenSpec.ofChange fnExactCliqueGraphSpec)

/-- ITS FALSE NEIGHBOUR: 'it returns false'. Refute it at one input. -/
def fnExactCliqueGraphWrong : ChangeSpec := { name := "fnExactCliqueGraph", fn := fun _ => fun
  | [d] => { results := [.lit (.bool false)], args := [d] }
  | _ => none }
def FnExactCliqueGraphWrongFalsely : Prop := fnExactCliqueGraphRow.holds Try.pinned (OpenSpec.ofChange fnExactCliqueGraphWrong)

/-- 'laws.FnExactGreedyTight': WHATEVER THE INPUT: true; the input reads as it did. -/
def fnExactGreedyTightSpec : ChangeSpec := { name := "fnExactGreedyTight", fn := fun _ => fun
  | [d1, d2, d3] => { results := [.lit (.bool true)], args := [d1, d2, d3] }
  | _ => none }
def fnExactGreedyTightRow : OpenClaim := { program := "ythogfineaeklpaa", sum := "3fd80eb296cf50aee4b15852ae1c5eb72f5879894829c007b3ba125bc0663db2", func := "loop.example/g01128/laws.FnExactGreedyTight", spec := "fnExactGreedyTight", unfollowed := true, recurses := true, apart := false }
def FnExactGreedyTightSaid : Prop := fnExactGreedyTightRow.holds Try.pinned (OpenSpec.ofChange fnExactGreedyTightSpec)

/-- ITS FALSE NEIGHBOUR: 'it returns false'. Refute it at one input. -/
def fnExactGreedyTightWrong : ChangeSpec := { name := "fnExactGreedyTight", fn := fun _ => fun
  | [d1, d2, d3] => { results := [.lit (.bool false)], args := [d1, d2, d3] }
  | _ => none }
def FnExactGreedyTightWrongFalsely : Prop := fnExactGreedyTightRow.holds Try.pinned (OpenSpec.ofChange fnExactGreedyTightWrong)

/-- 'laws.FnExactKindWays': WHATEVER THE INPUT: true; the input reads as it did. -/
def fnExactKindWaysSpec : ChangeSpec := { name := "fnExactKindWays", fn := fun _ => fun
  | [d1, d2, d3] => { results := [.lit (.bool true)], args := [d1, d2, d3] }
  | _ => none }
def fnExactKindWaysRow : OpenClaim := { program := "ythogfineaeklpaa", sum := "3fd80eb296cf50aee4b15852ae1c5eb72f5879894829c007b3ba125bc0663db2", func := "loop.example/g01128/laws.FnExactKindWays", spec := "fnExactKindWays", unfollowed := true, recurses := true, apart := false }
def FnExactKindWaysSaid : Prop := fnExactKindWaysRow.holds Try.pinned (OpenSpec.ofChange fnExactKindWaysSpec)

/-- ITS FALSE NEIGHBOUR: 'it returns false'. Refute it at one input. -/
def fnExactKindWaysWrong : ChangeSpec := { name := "fnExactKindWays", fn := fun _ => fun
  | [d1, d2, d3] => { results := [.lit (.bool false)], args := [d1, d2, d3] }
  | _ => none }
def FnExactKindWaysWrongFalsely : Prop := fnExactKindWaysRow.holds Try.pinned (OpenSpec.ofChange fnExactKindWaysWrong)

/-- 'laws.FnExactIsColouring': WHATEVER THE INPUT: true; the input reads as it did. -/
def fnExactIsColouringSpec : ChangeSpec := { name := "fnExactIsColouring", fn := fun _ => fun
  | [d1, d2, d3] => { results := [.lit (.bool true)], args := [d1, d2, d3] }
  | _ => none }
def fnExactIsColouringRow : OpenClaim := { program := "ythogfineaeklpaa", sum := "3fd80eb296cf50aee4b15852ae1c5eb72f5879894829c007b3ba125bc0663db2", func := "loop.example/g01128/laws.FnExactIsColouring", spec := "fnExactIsColouring", unfollowed := true, recurses := true, apart := false }
def FnExactIsColouringSaid : Prop := fnExactIsColouringRow.holds Try.pinned (OpenSpec.ofChange fnExactIsColouringSpec)

/-- ITS FALSE NEIGHBOUR: 'it returns false'. Refute it at one input. -/
def fnExactIsColouringWrong : ChangeSpec := { name := "fnExactIsColouring", fn := fun _ => fun
  | [d1, d2, d3] => { results := [.lit (.bool false)], args := [d1, d2, d3] }
  | _ => none }
def FnExactIsColouringWrongFalsely : Prop := fnExactIsColouringRow.holds Try.pinned (OpenSpec.ofChange fnExactIsColouringWrong)

/-- 'laws.FnExactStillNodes': WHATEVER THE INPUT: true; the input reads as it did. -/
def fnExactStillNodesSpec : ChangeSpec := { name := "fnExactStillNodes", fn := fun _ => fun
  | [d1, d2, d3] => { results := [.lit (.bool true)], args := [d1, d2, d3] }
  | _ => none }
def fnExactStillNodesRow : OpenClaim := { program := "ythogfineaeklpaa", sum := "3fd80eb296cf50aee4b15852ae1c5eb72f5879894829c007b3ba125bc0663db2", func := "loop.example/g01128/laws.FnExactStillNodes", spec := "fnExactStillNodes", unfollowed := true, recurses := true, apart := false }
def FnExactStillNodesSaid : Prop := fnExactStillNodesRow.holds Try.pinned (OpenSpec.ofChange fnExactStillNodesSpec)

/-- ITS FALSE NEIGHBOUR: 'it returns false'. Refute it at one input. -/
def fnExactStillNodesWrong : ChangeSpec := { name := "fnExactStillNodes", fn := fun _ => fun
  | [d1, d2, d3] => { results := [.lit (.bool false)], args := [d1, d2, d3] }
  | _ => none }
def FnExactStillNodesWrongFalsely : Prop := fnExactStillNodesRow.holds Try.pinned (OpenSpec.ofChange fnExactStillNodesWrong)

/-- 'laws.FnExactPeelingOf': WHATEVER THE INPUT: true; the input reads as it did. -/
def fnExactPeelingOfSpec : ChangeSpec := { name := "fnExactPeelingOf", fn := fun _ => fun
  | [d] => { results := [.lit (.bool true)], args := [d] }
  | _ => none }
def fnExactPeelingOfRow : OpenClaim := { program := "ythogfineaeklpaa", sum := "3fd80eb296cf50aee4b15852ae1c5eb72f5879894829c007b3ba125bc0663db2", func := "loop.example/g01128/laws.FnExactPeelingOf", spec := "fnExactPeelingOf", apart := false }
def FnExactPeelingOfSaid : Prop := fnExactPeelingOfRow.holds Try.pinned (OpenSpec.ofChange fnExactPeelingOfSpec)

/-- ITS FALSE NEIGHBOUR: 'it returns false'. Refute it at one input. -/
def fnExactPeelingOfWrong : ChangeSpec := { name := "fnExactPeelingOf", fn := fun _ => fun
  | [d] => { results := [.lit (.bool false)], args := [d] }
  | _ => none }
def FnExactPeelingOfWrongFalsely : Prop := fnExactPeelingOfRow.holds Try.pinned (OpenSpec.ofChange fnExactPeelingOfWrong)

/-- 'laws.FnExactGreedyColours': WHATEVER THE INPUT: true; the input reads as it did. -/
def fnExactGreedyColoursSpec : ChangeSpec := { name := "fnExactGreedyColours", fn := fun _ => fun
  | [d1, d2] => { results := [.lit (.bool true)], args := [d1, d2] }
  | _ => none }
def fnExactGreedyColoursRow : OpenClaim := { program := "ythogfineaeklpaa", sum := "3fd80eb296cf50aee4b15852ae1c5eb72f5879894829c007b3ba125bc0663db2", func := "loop.example/g01128/laws.FnExactGreedyColours", spec := "fnExactGreedyColours", unfollowed := true, recurses := true, apart := false }
def FnExactGreedyColoursSaid : Prop := fnExactGreedyColoursRow.holds Try.pinned (OpenSpec.ofChange fnExactGreedyColoursSpec)

/-- ITS FALSE NEIGHBOUR: 'it returns false'. Refute it at one input. -/
def fnExactGreedyColoursWrong : ChangeSpec := { name := "fnExactGreedyColours", fn := fun _ => fun
  | [d1, d2] => { results := [.lit (.bool false)], args := [d1, d2] }
  | _ => none }
def FnExactGreedyColoursWrongFalsely : Prop := fnExactGreedyColoursRow.holds Try.pinned (OpenSpec.ofChange fnExactGreedyColoursWrong)

/-- 'laws.FnExactRenameColours': WHATEVER THE INPUT: true; the input reads as it did. -/
def fnExactRenameColoursSpec : ChangeSpec := { name := "fnExactRenameColours", fn := fun _ => fun
  | [d1, d2, d3, d4] => { results := [.lit (.bool true)], args := [d1, d2, d3, d4] }
  | _ => none }
def fnExactRenameColoursRow : OpenClaim := { program := "ythogfineaeklpaa", sum := "3fd80eb296cf50aee4b15852ae1c5eb72f5879894829c007b3ba125bc0663db2", func := "loop.example/g01128/laws.FnExactRenameColours", spec := "fnExactRenameColours", unfollowed := true, recurses := true, apart := false }
def FnExactRenameColoursSaid : Prop := fnExactRenameColoursRow.holds Try.pinned (OpenSpec.ofChange fnExactRenameColoursSpec)

/-- ITS FALSE NEIGHBOUR: 'it returns false'. Refute it at one input. -/
def fnExactRenameColoursWrong : ChangeSpec := { name := "fnExactRenameColours", fn := fun _ => fun
  | [d1, d2, d3, d4] => { results := [.lit (.bool false)], args := [d1, d2, d3, d4] }
  | _ => none }
def FnExactRenameColoursWrongFalsely : Prop := fnExactRenameColoursRow.holds Try.pinned (OpenSpec.ofChange fnExactRenameColoursWrong)

/- THE SECOND FORM. 'bulk': how many values and letters a reading holds, each counted each time it is reached (what is shared counts as often as it is met; a slice's spare places count too). A statement '..UptoSaid' is the law's where the arguments, and the package variables that the reading takes, are together of bulk at most 1048576: NARROWER than '..Said'. Prove '..Said' where nothing that the law and all that it calls make is longer than what came in: it says more and counts as full. Else prove '..UptoSaid'. A law counts once. -/
mutual
def uptoBulk {H : Type} : DataW H → Nat
  | .lit (.string bytes) => bytes.length + 1
  | .lit _ => 1
  | .nil => 1
  | .ptr d => uptoBulk d + 1
  | .slice elems spare => uptoBulkAll elems + uptoBulkAll spare + 1
  | .agg parts => uptoBulkAll parts + 1
  | .iface _ d => uptoBulk d + 1
  | .map entries => uptoBulkEntries entries + 1
  | .held _ => 1
def uptoBulkAll {H : Type} : List (DataW H) → Nat
  | [] => 0
  | d :: r => uptoBulk d + uptoBulkAll r
def uptoBulkEntries {H : Type} : List (Lit × DataW H) → Nat
  | [] => 0
  | x :: r => uptoBulkEntry x + uptoBulkEntries r
def uptoBulkEntry {H : Type} : Lit × DataW H → Nat
  | (.string bytes, d) => bytes.length + uptoBulk d + 1
  | (_, d) => uptoBulk d + 1
 end
def uptoSmall : (H : Type) → List (DataW H) → Bool := fun _ ds => decide (uptoBulkAll ds ≤ 1048576)
def OpenSpec.upto (s : _root_.Go.ChangeSpec) : _root_.Go.OpenSpec := { _root_.Go.OpenSpec.ofChange s with cond := some uptoSmall }

/-- 'laws.FnExactIsIndependent', WHERE WHAT IT READS IS OF BULK AT MOST 1048576: true; the input reads as it did. -/
def fnExactIsIndependentUptoRow : OpenClaim := { program := "ythogfineaeklpaa", sum := "3fd80eb296cf50aee4b15852ae1c5eb72f5879894829c007b3ba125bc0663db2", func := "loop.example/g01128/laws.FnExactIsIndependent", spec := "fnExactIsIndependent", unfollowed := true, recurses := true, apart := false, narrowed := true }
def FnExactIsIndependentUptoSaid : Prop := fnExactIsIndependentUptoRow.holds Try.pinned (OpenSpec.upto fnExactIsIndependentSpec)

/-- 'laws.FnExactHasKind', WHERE WHAT IT READS IS OF BULK AT MOST 1048576: true; the input reads as it did. -/
def fnExactHasKindUptoRow : OpenClaim := { program := "ythogfineaeklpaa", sum := "3fd80eb296cf50aee4b15852ae1c5eb72f5879894829c007b3ba125bc0663db2", func := "loop.example/g01128/laws.FnExactHasKind", spec := "fnExactHasKind", unfollowed := true, recurses := true, apart := false, narrowed := true }
def FnExactHasKindUptoSaid : Prop := fnExactHasKindUptoRow.holds Try.pinned (OpenSpec.upto fnExactHasKindSpec)

/-- 'laws.FnExactIsTightSet', WHERE WHAT IT READS IS OF BULK AT MOST 1048576: true; the input reads as it did. -/
def fnExactIsTightSetUptoRow : OpenClaim := { program := "ythogfineaeklpaa", sum := "3fd80eb296cf50aee4b15852ae1c5eb72f5879894829c007b3ba125bc0663db2", func := "loop.example/g01128/laws.FnExactIsTightSet", spec := "fnExactIsTightSet", unfollowed := true, recurses := true, apart := false, narrowed := true }
def FnExactIsTightSetUptoSaid : Prop := fnExactIsTightSetUptoRow.holds Try.pinned (OpenSpec.upto fnExactIsTightSetSpec)

/-- 'laws.FnExactOtherNodes', WHERE WHAT IT READS IS OF BULK AT MOST 1048576: true; the input reads as it did. -/
def fnExactOtherNodesUptoRow : OpenClaim := { program := "ythogfineaeklpaa", sum := "3fd80eb296cf50aee4b15852ae1c5eb72f5879894829c007b3ba125bc0663db2", func := "loop.example/g01128/laws.FnExactOtherNodes", spec := "fnExactOtherNodes", unfollowed := true, recurses := true, apart := false, narrowed := true }
def FnExactOtherNodesUptoSaid : Prop := fnExactOtherNodesUptoRow.holds Try.pinned (OpenSpec.upto fnExactOtherNodesSpec)

/-- 'laws.FnExactCliqueGraph', WHERE WHAT IT READS IS OF BULK AT MOST 1048576: true; the input reads as it did. -/
def fnExactCliqueGraphUptoRow : OpenClaim := { program := "ythogfineaeklpaa", sum := "3fd80eb296cf50aee4b15852ae1c5eb72f5879894829c007b3ba125bc0663db2", func := "loop.example/g01128/laws.FnExactCliqueGraph", spec := "fnExactCliqueGraph", apart := false, narrowed := true }
def FnExactCliqueGraphUptoSaid : Prop := fnExactCliqueGraphUptoRow.holds Try.pinned (OpenSpec.upto fnExactCliqueGraphSpec)

/-- 'laws.FnExactGreedyTight', WHERE WHAT IT READS IS OF BULK AT MOST 1048576: true; the input reads as it did. -/
def fnExactGreedyTightUptoRow : OpenClaim := { program := "ythogfineaeklpaa", sum := "3fd80eb296cf50aee4b15852ae1c5eb72f5879894829c007b3ba125bc0663db2", func := "loop.example/g01128/laws.FnExactGreedyTight", spec := "fnExactGreedyTight", unfollowed := true, recurses := true, apart := false, narrowed := true }
def FnExactGreedyTightUptoSaid : Prop := fnExactGreedyTightUptoRow.holds Try.pinned (OpenSpec.upto fnExactGreedyTightSpec)

/-- 'laws.FnExactKindWays', WHERE WHAT IT READS IS OF BULK AT MOST 1048576: true; the input reads as it did. -/
def fnExactKindWaysUptoRow : OpenClaim := { program := "ythogfineaeklpaa", sum := "3fd80eb296cf50aee4b15852ae1c5eb72f5879894829c007b3ba125bc0663db2", func := "loop.example/g01128/laws.FnExactKindWays", spec := "fnExactKindWays", unfollowed := true, recurses := true, apart := false, narrowed := true }
def FnExactKindWaysUptoSaid : Prop := fnExactKindWaysUptoRow.holds Try.pinned (OpenSpec.upto fnExactKindWaysSpec)

/-- 'laws.FnExactIsColouring', WHERE WHAT IT READS IS OF BULK AT MOST 1048576: true; the input reads as it did. -/
def fnExactIsColouringUptoRow : OpenClaim := { program := "ythogfineaeklpaa", sum := "3fd80eb296cf50aee4b15852ae1c5eb72f5879894829c007b3ba125bc0663db2", func := "loop.example/g01128/laws.FnExactIsColouring", spec := "fnExactIsColouring", unfollowed := true, recurses := true, apart := false, narrowed := true }
def FnExactIsColouringUptoSaid : Prop := fnExactIsColouringUptoRow.holds Try.pinned (OpenSpec.upto fnExactIsColouringSpec)

/-- 'laws.FnExactStillNodes', WHERE WHAT IT READS IS OF BULK AT MOST 1048576: true; the input reads as it did. -/
def fnExactStillNodesUptoRow : OpenClaim := { program := "ythogfineaeklpaa", sum := "3fd80eb296cf50aee4b15852ae1c5eb72f5879894829c007b3ba125bc0663db2", func := "loop.example/g01128/laws.FnExactStillNodes", spec := "fnExactStillNodes", unfollowed := true, recurses := true, apart := false, narrowed := true }
def FnExactStillNodesUptoSaid : Prop := fnExactStillNodesUptoRow.holds Try.pinned (OpenSpec.upto fnExactStillNodesSpec)

/-- 'laws.FnExactPeelingOf', WHERE WHAT IT READS IS OF BULK AT MOST 1048576: true; the input reads as it did. -/
def fnExactPeelingOfUptoRow : OpenClaim := { program := "ythogfineaeklpaa", sum := "3fd80eb296cf50aee4b15852ae1c5eb72f5879894829c007b3ba125bc0663db2", func := "loop.example/g01128/laws.FnExactPeelingOf", spec := "fnExactPeelingOf", apart := false, narrowed := true }
def FnExactPeelingOfUptoSaid : Prop := fnExactPeelingOfUptoRow.holds Try.pinned (OpenSpec.upto fnExactPeelingOfSpec)

/-- 'laws.FnExactGreedyColours', WHERE WHAT IT READS IS OF BULK AT MOST 1048576: true; the input reads as it did. -/
def fnExactGreedyColoursUptoRow : OpenClaim := { program := "ythogfineaeklpaa", sum := "3fd80eb296cf50aee4b15852ae1c5eb72f5879894829c007b3ba125bc0663db2", func := "loop.example/g01128/laws.FnExactGreedyColours", spec := "fnExactGreedyColours", unfollowed := true, recurses := true, apart := false, narrowed := true }
def FnExactGreedyColoursUptoSaid : Prop := fnExactGreedyColoursUptoRow.holds Try.pinned (OpenSpec.upto fnExactGreedyColoursSpec)

/-- 'laws.FnExactRenameColours', WHERE WHAT IT READS IS OF BULK AT MOST 1048576: true; the input reads as it did. -/
def fnExactRenameColoursUptoRow : OpenClaim := { program := "ythogfineaeklpaa", sum := "3fd80eb296cf50aee4b15852ae1c5eb72f5879894829c007b3ba125bc0663db2", func := "loop.example/g01128/laws.FnExactRenameColours", spec := "fnExactRenameColours", unfollowed := true, recurses := true, apart := false, narrowed := true }
def FnExactRenameColoursUptoSaid : Prop := fnExactRenameColoursUptoRow.holds Try.pinned (OpenSpec.upto fnExactRenameColoursSpec)

end Rows
end Go.Proofs.Ythogfineaeklpaa

/-
  No cell of these rows narrows 'for every input' (looked for: loops, veiled, ifaces, maps, wideKeys, modest, calm, conditions, laid).
  DERIVED. THE GIVEN ROWS OF THIS SEAT. 10 by the template 'for every input the law returns true; each argument reads behind the call as it read before'; 0 by the template 'total and deterministic' (their statements: YthnladggckadmaaTotals.lean).
  GIVEN WITH THE SEED: the statements are not yours to turn. If you find one false, say at which input.
  Laid BY PROGRAM, IN A SANDBOX (cutbox-rows.mjs): the forced cells as the released guide's own fill.sh prints them over the translation f26c0c7b7131f8c8… (all of the seat's roots in one cut). By AI agents, Wed Nov 11 2026. No macro, syntax, notation, axiom, sorry.
-/
import Derived.Test.YthnladggckadmaaChecked
import GoSem.Claim
import GoSem.ClaimJoined
import GoSem.ClaimMapViews
import Derived.JoinedTies
import Derived.KernelRfl
namespace Go.Proofs.Ythnladggckadmaa
/- THE CELL 'sum', in the pinned program and in every row, IS THE sha256 OF THE DUMP (.gsa) THAT YthnladggckadmaaProg.lean LOADS. Nothing in Lean hashes anything: it is a label: what it is worth is what the hold of that sum in a sandbox is worth. -/
noncomputable def Try.pinned : Pinned := { name := "ythnladggckadmaa", sum := "f26c0c7b7131f8c8199c2d7ecc223c13f11e022d706283b78976570cf73518a7", checked := Try.checked }
namespace Rows
def none {H : Type} : Left H := { results := [], args := [] }

/-- 'laws.FnExactIsIndependent': WHATEVER THE INPUT: true; the input reads as it did. -/
def fnExactIsIndependentSpec : ChangeSpec := { name := "fnExactIsIndependent", fn := fun _ => fun
  | [d1, d2] => { results := [.lit (.bool true)], args := [d1, d2] }
  | _ => none }
def fnExactIsIndependentRow : OpenClaim := { program := "ythnladggckadmaa", sum := "f26c0c7b7131f8c8199c2d7ecc223c13f11e022d706283b78976570cf73518a7", func := "loop.example/g01128/laws.FnExactIsIndependent", spec := "fnExactIsIndependent", unfollowed := true, recurses := true, apart := false }
def FnExactIsIndependentSaid : Prop := fnExactIsIndependentRow.holds Try.pinned (OpenSpec.ofChange fnExactIsIndependentSpec)

/-- ITS FALSE NEIGHBOUR: 'it returns false'. Refute it at one input. -/
def fnExactIsIndependentWrong : ChangeSpec := { name := "fnExactIsIndependent", fn := fun _ => fun
  | [d1, d2] => { results := [.lit (.bool false)], args := [d1, d2] }
  | _ => none }
def FnExactIsIndependentWrongFalsely : Prop := fnExactIsIndependentRow.holds Try.pinned (OpenSpec.ofChange fnExactIsIndependentWrong)

/-- 'laws.FnExactOtherNodes': WHATEVER THE INPUT: true; the input reads as it did. -/
def fnExactOtherNodesSpec : ChangeSpec := { name := "fnExactOtherNodes", fn := fun _ => fun
  | [d1, d2] => { results := [.lit (.bool true)], args := [d1, d2] }
  | _ => none }
def fnExactOtherNodesRow : OpenClaim := { program := "ythnladggckadmaa", sum := "f26c0c7b7131f8c8199c2d7ecc223c13f11e022d706283b78976570cf73518a7", func := "loop.example/g01128/laws.FnExactOtherNodes", spec := "fnExactOtherNodes", apart := false }
def FnExactOtherNodesSaid : Prop := fnExactOtherNodesRow.holds Try.pinned (OpenSpec.ofChange fnExactOtherNodesSpec)

/-- ITS FALSE NEIGHBOUR: 'it returns false'. Refute it at one input. -/
def fnExactOtherNodesWrong : ChangeSpec := { name := "fnExactOtherNodes", fn := fun _ => fun
  | [d1, d2] => { results := [.lit (.bool false)], args := [d1, d2] }
  | _ => none }
def FnExactOtherNodesWrongFalsely : Prop := fnExactOtherNodesRow.holds Try.pinned (OpenSpec.ofChange fnExactOtherNodesWrong)

/-- 'laws.FnExactCliqueGraph': WHATEVER THE INPUT: true; the input reads as it did. -/
def fnExactCliqueGraphSpec : ChangeSpec := { name := "fnExactCliqueGraph", fn := fun _ => fun
  | [d] => { results := [.lit (.bool true)], args := [d] }
  | _ => none }
def fnExactCliqueGraphRow : OpenClaim := { program := "ythnladggckadmaa", sum := "f26c0c7b7131f8c8199c2d7ecc223c13f11e022d706283b78976570cf73518a7", func := "loop.example/g01128/laws.FnExactCliqueGraph", spec := "fnExactCliqueGraph", apart := false }
def FnExactCliqueGraphSaid : Prop := fnExactCliqueGraphRow.holds Try.pinned (OpenSpec.ofChange fnExactCliqueGraphSpec)

/-- ITS FALSE NEIGHBOUR: 'it returns false'. Refute it at one input. -/
def fnExactCliqueGraphWrong : ChangeSpec := { name := "fnExactCliqueGraph", fn := fun _ => fun
  | [d] => { results := [.lit (.bool false)], args := [d] }
  | _ => none }
def FnExactCliqueGraphWrongFalsely : Prop := fnExactCliqueGraphRow.holds Try.pinned (OpenSpec.ofChange fnExactCliqueGraphWrong)

/-- 'laws.FnExactHasKind': WHATEVER THE INPUT: true; the input reads as it did. -/
def fnExactHasKindSpec : ChangeSpec := { name := "fnExactHasKind", fn := fun _ => fun
  | [d1, d2, d3] => { results := [.lit (.bool true)], args := [d1, d2, d3] }
  | _ => none }
def fnExactHasKindRow : OpenClaim := { program := "ythnladggckadmaa", sum := "f26c0c7b7131f8c8199c2d7ecc223c13f11e022d706283b78976570cf73518a7", func := "loop.example/g01128/laws.FnExactHasKind", spec := "fnExactHasKind", apart := false }
def FnExactHasKindSaid : Prop := fnExactHasKindRow.holds Try.pinned (OpenSpec.ofChange fnExactHasKindSpec)

/-- ITS FALSE NEIGHBOUR: 'it returns false'. Refute it at one input. -/
def fnExactHasKindWrong : ChangeSpec := { name := "fnExactHasKind", fn := fun _ => fun
  | [d1, d2, d3] => { results := [.lit (.bool false)], args := [d1, d2, d3] }
  | _ => none }
def FnExactHasKindWrongFalsely : Prop := fnExactHasKindRow.holds Try.pinned (OpenSpec.ofChange fnExactHasKindWrong)

/-- 'laws.FnExactIsTightSet': WHATEVER THE INPUT: true; the input reads as it did. -/
def fnExactIsTightSetSpec : ChangeSpec := { name := "fnExactIsTightSet", fn := fun _ => fun
  | [d1, d2, d3] => { results := [.lit (.bool true)], args := [d1, d2, d3] }
  | _ => none }
def fnExactIsTightSetRow : OpenClaim := { program := "ythnladggckadmaa", sum := "f26c0c7b7131f8c8199c2d7ecc223c13f11e022d706283b78976570cf73518a7", func := "loop.example/g01128/laws.FnExactIsTightSet", spec := "fnExactIsTightSet", apart := false }
def FnExactIsTightSetSaid : Prop := fnExactIsTightSetRow.holds Try.pinned (OpenSpec.ofChange fnExactIsTightSetSpec)

/-- ITS FALSE NEIGHBOUR: 'it returns false'. Refute it at one input. -/
def fnExactIsTightSetWrong : ChangeSpec := { name := "fnExactIsTightSet", fn := fun _ => fun
  | [d1, d2, d3] => { results := [.lit (.bool false)], args := [d1, d2, d3] }
  | _ => none }
def FnExactIsTightSetWrongFalsely : Prop := fnExactIsTightSetRow.holds Try.pinned (OpenSpec.ofChange fnExactIsTightSetWrong)

/-- 'laws.FnExactGreedyTight': WHATEVER THE INPUT: true; the input reads as it did. -/
def fnExactGreedyTightSpec : ChangeSpec := { name := "fnExactGreedyTight", fn := fun _ => fun
  | [d1, d2, d3] => { results := [.lit (.bool true)], args := [d1, d2, d3] }
  | _ => none }
def fnExactGreedyTightRow : OpenClaim := { program := "ythnladggckadmaa", sum := "f26c0c7b7131f8c8199c2d7ecc223c13f11e022d706283b78976570cf73518a7", func := "loop.example/g01128/laws.FnExactGreedyTight", spec := "fnExactGreedyTight", apart := false }
def FnExactGreedyTightSaid : Prop := fnExactGreedyTightRow.holds Try.pinned (OpenSpec.ofChange fnExactGreedyTightSpec)

/-- ITS FALSE NEIGHBOUR: 'it returns false'. Refute it at one input. -/
def fnExactGreedyTightWrong : ChangeSpec := { name := "fnExactGreedyTight", fn := fun _ => fun
  | [d1, d2, d3] => { results := [.lit (.bool false)], args := [d1, d2, d3] }
  | _ => none }
def FnExactGreedyTightWrongFalsely : Prop := fnExactGreedyTightRow.holds Try.pinned (OpenSpec.ofChange fnExactGreedyTightWrong)

/-- 'laws.FnExactKindWays': WHATEVER THE INPUT: true; the input reads as it did. -/
def fnExactKindWaysSpec : ChangeSpec := { name := "fnExactKindWays", fn := fun _ => fun
  | [d1, d2, d3] => { results := [.lit (.bool true)], args := [d1, d2, d3] }
  | _ => none }
def fnExactKindWaysRow : OpenClaim := { program := "ythnladggckadmaa", sum := "f26c0c7b7131f8c8199c2d7ecc223c13f11e022d706283b78976570cf73518a7", func := "loop.example/g01128/laws.FnExactKindWays", spec := "fnExactKindWays", apart := false }
def FnExactKindWaysSaid : Prop := fnExactKindWaysRow.holds Try.pinned (OpenSpec.ofChange fnExactKindWaysSpec)

/-- ITS FALSE NEIGHBOUR: 'it returns false'. Refute it at one input. -/
def fnExactKindWaysWrong : ChangeSpec := { name := "fnExactKindWays", fn := fun _ => fun
  | [d1, d2, d3] => { results := [.lit (.bool false)], args := [d1, d2, d3] }
  | _ => none }
def FnExactKindWaysWrongFalsely : Prop := fnExactKindWaysRow.holds Try.pinned (OpenSpec.ofChange fnExactKindWaysWrong)

/-- 'laws.FnExactForestLocked': WHATEVER THE INPUT: true; the input reads as it did. -/
def fnExactForestLockedSpec : ChangeSpec := { name := "fnExactForestLocked", fn := fun _ => fun
  | [d1, d2] => { results := [.lit (.bool true)], args := [d1, d2] }
  | _ => none }
def fnExactForestLockedRow : OpenClaim := { program := "ythnladggckadmaa", sum := "f26c0c7b7131f8c8199c2d7ecc223c13f11e022d706283b78976570cf73518a7", func := "loop.example/g01128/laws.FnExactForestLocked", spec := "fnExactForestLocked", unfollowed := true, recurses := true, apart := false }
def FnExactForestLockedSaid : Prop := fnExactForestLockedRow.holds Try.pinned (OpenSpec.ofChange fnExactForestLockedSpec)

/-- ITS FALSE NEIGHBOUR: 'it returns false'. Refute it at one input. -/
def fnExactForestLockedWrong : ChangeSpec := { name := "fnExactForestLocked", fn := fun _ => fun
  | [d1, d2] => { results := [.lit (.bool false)], args := [d1, d2] }
  | _ => none }
def FnExactForestLockedWrongFalsely : Prop := fnExactForestLockedRow.holds Try.pinned (OpenSpec.ofChange fnExactForestLockedWrong)

/-- 'laws.FnExactForestMeets': WHATEVER THE INPUT: true; the input reads as it did. -/
def fnExactForestMeetsSpec : ChangeSpec := { name := "fnExactForestMeets", fn := fun _ => fun
  | [d1, d2, d3] => { results := [.lit (.bool true)], args := [d1, d2, d3] }
  | _ => none }
def fnExactForestMeetsRow : OpenClaim := { program := "ythnladggckadmaa", sum := "f26c0c7b7131f8c8199c2d7ecc223c13f11e022d706283b78976570cf73518a7", func := "loop.example/g01128/laws.FnExactForestMeets", spec := "fnExactForestMeets", unfollowed := true, recurses := true, apart := false }
def FnExactForestMeetsSaid : Prop := fnExactForestMeetsRow.holds Try.pinned (OpenSpec.ofChange fnExactForestMeetsSpec)

/-- ITS FALSE NEIGHBOUR: 'it returns false'. Refute it at one input. -/
def fnExactForestMeetsWrong : ChangeSpec := { name := "fnExactForestMeets", fn := fun _ => fun
  | [d1, d2, d3] => { results := [.lit (.bool false)], args := [d1, d2, d3] }
  | _ => none }
def FnExactForestMeetsWrongFalsely : Prop := fnExactForestMeetsRow.holds Try.pinned (OpenSpec.ofChange fnExactForestMeetsWrong)

/-- 'laws.FnExactTokenBound': WHATEVER THE INPUT: true; the input reads as it did. -/
def fnExactTokenBoundSpec : ChangeSpec := { name := "fnExactTokenBound", fn := fun _ => fun
  | [d1, d2, d3] => { results := [.lit (.bool true)], args := [d1, d2, d3] }
  | _ => none }
def fnExactTokenBoundRow : OpenClaim := { program := "ythnladggckadmaa", sum := "f26c0c7b7131f8c8199c2d7ecc223c13f11e022d706283b78976570cf73518a7", func := "loop.example/g01128/laws.FnExactTokenBound", spec := "fnExactTokenBound", unfollowed := true, recurses := true, apart := false }
def FnExactTokenBoundSaid : Prop := fnExactTokenBoundRow.holds Try.pinned (OpenSpec.ofChange fnExactTokenBoundSpec)

/-- ITS FALSE NEIGHBOUR: 'it returns false'. Refute it at one input. -/
def fnExactTokenBoundWrong : ChangeSpec := { name := "fnExactTokenBound", fn := fun _ => fun
  | [d1, d2, d3] => { results := [.lit (.bool false)], args := [d1, d2, d3] }
  | _ => none }
def FnExactTokenBoundWrongFalsely : Prop := fnExactTokenBoundRow.holds Try.pinned (OpenSpec.ofChange fnExactTokenBoundWrong)

/- THE SECOND FORM. 'bulk': how many values and letters a reading holds, each counted each time it is reached (what is shared counts as often as it is met; a slice's spare places count too). A statement '..UptoSaid' is the law's where the arguments, and the package variables that the reading takes, are together of bulk at most 1048576: NARROWER than '..Said'. Prove '..Said' where nothing that the law and all that it calls make is longer than what came in: it says more and counts as full. Else prove '..UptoSaid'. A law counts once. -/
mutual
def uptoBulk {H : Type} : DataW H → Nat
  | .lit (.string bytes) => bytes.length + 1
  | .lit _ => 1
  | .nil => 1
  | .ptr d => uptoBulk d + 1
  | .slice elems spare => uptoBulkAll elems + uptoBulkAll spare + 1
  | .agg parts => uptoBulkAll parts + 1
  | .iface _ d => uptoBulk d + 1
  | .map entries => uptoBulkEntries entries + 1
  | .held _ => 1
def uptoBulkAll {H : Type} : List (DataW H) → Nat
  | [] => 0
  | d :: r => uptoBulk d + uptoBulkAll r
def uptoBulkEntries {H : Type} : List (Lit × DataW H) → Nat
  | [] => 0
  | x :: r => uptoBulkEntry x + uptoBulkEntries r
def uptoBulkEntry {H : Type} : Lit × DataW H → Nat
  | (.string bytes, d) => bytes.length + uptoBulk d + 1
  | (_, d) => uptoBulk d + 1
 end
def uptoSmall : (H : Type) → List (DataW H) → Bool := fun _ ds => decide (uptoBulkAll ds ≤ 1048576)
def OpenSpec.upto (s : _root_.Go.ChangeSpec) : _root_.Go.OpenSpec := { _root_.Go.OpenSpec.ofChange s with cond := some uptoSmall }

/-- 'laws.FnExactIsIndependent', WHERE WHAT IT READS IS OF BULK AT MOST 1048576: true; the input reads as it did. -/
def fnExactIsIndependentUptoRow : OpenClaim := { program := "ythnladggckadmaa", sum := "f26c0c7b7131f8c8199c2d7ecc223c13f11e022d706283b78976570cf73518a7", func := "loop.example/g01128/laws.FnExactIsIndependent", spec := "fnExactIsIndependent", unfollowed := true, recurses := true, apart := false, narrowed := true }
def FnExactIsIndependentUptoSaid : Prop := fnExactIsIndependentUptoRow.holds Try.pinned (OpenSpec.upto fnExactIsIndependentSpec)

/-- 'laws.FnExactOtherNodes', WHERE WHAT IT READS IS OF BULK AT MOST 1048576: true; the input reads as it did. -/
def fnExactOtherNodesUptoRow : OpenClaim := { program := "ythnladggckadmaa", sum := "f26c0c7b7131f8c8199c2d7ecc223c13f11e022d706283b78976570cf73518a7", func := "loop.example/g01128/laws.FnExactOtherNodes", spec := "fnExactOtherNodes", apart := false, narrowed := true }
def FnExactOtherNodesUptoSaid : Prop := fnExactOtherNodesUptoRow.holds Try.pinned (OpenSpec.upto fnExactOtherNodesSpec)

/-- 'laws.FnExactCliqueGraph', WHERE WHAT IT READS IS OF BULK AT MOST 1048576: true; the input reads as it did. -/
def fnExactCliqueGraphUptoRow : OpenClaim := { program := "ythnladggckadmaa", sum := "f26c0c7b7131f8c8199c2d7ecc223c13f11e022d706283b78976570cf73518a7", func := "loop.example/g01128/laws.FnExactCliqueGraph", spec := "fnExactCliqueGraph", apart := false, narrowed := true }
def FnExactCliqueGraphUptoSaid : Prop := fnExactCliqueGraphUptoRow.holds Try.pinned (OpenSpec.upto fnExactCliqueGraphSpec)

/-- 'laws.FnExactHasKind', WHERE WHAT IT READS IS OF BULK AT MOST 1048576: true; the input reads as it did. -/
def fnExactHasKindUptoRow : OpenClaim := { program := "ythnladggckadmaa", sum := "f26c0c7b7131f8c8199c2d7ecc223c13f11e022d706283b78976570cf73518a7", func := "loop.example/g01128/laws.FnExactHasKind", spec := "fnExactHasKind", apart := false, narrowed := true }
def FnExactHasKindUptoSaid : Prop := fnExactHasKindUptoRow.holds Try.pinned (OpenSpec.upto fnExactHasKindSpec)

/-- 'laws.FnExactIsTightSet', WHERE WHAT IT READS IS OF BULK AT MOST 1048576: true; the input reads as it did. -/
def fnExactIsTightSetUptoRow : OpenClaim := { program := "ythnladggckadmaa", sum := "f26c0c7b7131f8c8199c2d7ecc223c13f11e022d706283b78976570cf73518a7", func := "loop.example/g01128/laws.FnExactIsTightSet", spec := "fnExactIsTightSet", apart := false, narrowed := true }
def FnExactIsTightSetUptoSaid : Prop := fnExactIsTightSetUptoRow.holds Try.pinned (OpenSpec.upto fnExactIsTightSetSpec)

/-- 'laws.FnExactGreedyTight', WHERE WHAT IT READS IS OF BULK AT MOST 1048576: true; the input reads as it did. -/
def fnExactGreedyTightUptoRow : OpenClaim := { program := "ythnladggckadmaa", sum := "f26c0c7b7131f8c8199c2d7ecc223c13f11e022d706283b78976570cf73518a7", func := "loop.example/g01128/laws.FnExactGreedyTight", spec := "fnExactGreedyTight", apart := false, narrowed := true }
def FnExactGreedyTightUptoSaid : Prop := fnExactGreedyTightUptoRow.holds Try.pinned (OpenSpec.upto fnExactGreedyTightSpec)

/-- 'laws.FnExactKindWays', WHERE WHAT IT READS IS OF BULK AT MOST 1048576: true; the input reads as it did. -/
def fnExactKindWaysUptoRow : OpenClaim := { program := "ythnladggckadmaa", sum := "f26c0c7b7131f8c8199c2d7ecc223c13f11e022d706283b78976570cf73518a7", func := "loop.example/g01128/laws.FnExactKindWays", spec := "fnExactKindWays", apart := false, narrowed := true }
def FnExactKindWaysUptoSaid : Prop := fnExactKindWaysUptoRow.holds Try.pinned (OpenSpec.upto fnExactKindWaysSpec)

/-- 'laws.FnExactForestLocked', WHERE WHAT IT READS IS OF BULK AT MOST 1048576: true; the input reads as it did. -/
def fnExactForestLockedUptoRow : OpenClaim := { program := "ythnladggckadmaa", sum := "f26c0c7b7131f8c8199c2d7ecc223c13f11e022d706283b78976570cf73518a7", func := "loop.example/g01128/laws.FnExactForestLocked", spec := "fnExactForestLocked", unfollowed := true, recurses := true, apart := false, narrowed := true }
def FnExactForestLockedUptoSaid : Prop := fnExactForestLockedUptoRow.holds Try.pinned (OpenSpec.upto fnExactForestLockedSpec)

/-- 'laws.FnExactForestMeets', WHERE WHAT IT READS IS OF BULK AT MOST 1048576: true; the input reads as it did. -/
def fnExactForestMeetsUptoRow : OpenClaim := { program := "ythnladggckadmaa", sum := "f26c0c7b7131f8c8199c2d7ecc223c13f11e022d706283b78976570cf73518a7", func := "loop.example/g01128/laws.FnExactForestMeets", spec := "fnExactForestMeets", unfollowed := true, recurses := true, apart := false, narrowed := true }
def FnExactForestMeetsUptoSaid : Prop := fnExactForestMeetsUptoRow.holds Try.pinned (OpenSpec.upto fnExactForestMeetsSpec)

/-- 'laws.FnExactTokenBound', WHERE WHAT IT READS IS OF BULK AT MOST 1048576: true; the input reads as it did. -/
def fnExactTokenBoundUptoRow : OpenClaim := { program := "ythnladggckadmaa", sum := "f26c0c7b7131f8c8199c2d7ecc223c13f11e022d706283b78976570cf73518a7", func := "loop.example/g01128/laws.FnExactTokenBound", spec := "fnExactTokenBound", unfollowed := true, recurses := true, apart := false, narrowed := true }
def FnExactTokenBoundUptoSaid : Prop := fnExactTokenBoundUptoRow.holds Try.pinned (OpenSpec.upto fnExactTokenBoundSpec)

end Rows
end Go.Proofs.Ythnladggckadmaa

/-
  No cell of these rows narrows 'for every input' (looked for: loops, veiled, ifaces, maps, wideKeys, modest, calm, conditions, laid).
  DERIVED. THE GIVEN ROWS OF THIS SEAT. 8 by the template 'for every input the law returns true; each argument reads behind the call as it read before'; 0 by the template 'total and deterministic' (their statements: YtbpheblbbdiapabTotals.lean).
  GIVEN WITH THE SEED: the statements are not yours to turn. If you find one false, say at which input.
  Laid BY PROGRAM, IN A SANDBOX (cutbox-rows.mjs): the forced cells as the released guide's own fill.sh prints them over the translation f3469a1c75afdf42… (all of the seat's roots in one cut). By AI agents, Wed Nov 11 2026. No macro, syntax, notation, axiom, sorry.
-/
import Derived.Test.YtbpheblbbdiapabChecked
import GoSem.Claim
import GoSem.ClaimJoined
import GoSem.ClaimMapViews
import Derived.JoinedTies
import Derived.KernelRfl
namespace Go.Proofs.Ytbpheblbbdiapab
/- THE CELL 'sum', in the pinned program and in every row, IS THE sha256 OF THE DUMP (.gsa) THAT YtbpheblbbdiapabProg.lean LOADS. Nothing in Lean hashes anything: it is a label: what it is worth is what the hold of that sum in a sandbox is worth. -/
noncomputable def Try.pinned : Pinned := { name := "ytbpheblbbdiapab", sum := "f3469a1c75afdf427c41c6f5bb255f5117b00d51181e1d88e321b615c6def550", checked := Try.checked }
namespace Rows
def none {H : Type} : Left H := { results := [], args := [] }

/-- 'laws.FnExactCutOf': WHATEVER THE INPUT: true; the input reads as it did. -/
def fnExactCutOfSpec : ChangeSpec := { name := "fnExactCutOf", fn := fun _ => fun
  | [d1, d2, d3] => { results := [.lit (.bool true)], args := [d1, d2, d3] }
  | _ => none }
def fnExactCutOfRow : OpenClaim := { program := "ytbpheblbbdiapab", sum := "f3469a1c75afdf427c41c6f5bb255f5117b00d51181e1d88e321b615c6def550", func := "loop.example/g01128/laws.FnExactCutOf", spec := "fnExactCutOf", unfollowed := true, recurses := true, apart := false }
def FnExactCutOfSaid : Prop := fnExactCutOfRow.holds Try.pinned (OpenSpec.ofChange fnExactCutOfSpec)

/-- ITS FALSE NEIGHBOUR: 'it returns false'. Refute it at one input. -/
def fnExactCutOfWrong : ChangeSpec := { name := "fnExactCutOf", fn := fun _ => fun
  | [d1, d2, d3] => { results := [.lit (.bool false)], args := [d1, d2, d3] }
  | _ => none }
def FnExactCutOfWrongFalsely : Prop := fnExactCutOfRow.holds Try.pinned (OpenSpec.ofChange fnExactCutOfWrong)

/-- 'laws.FnExactCircleOf': WHATEVER THE INPUT: true; the input reads as it did. -/
def fnExactCircleOfSpec : ChangeSpec := { name := "fnExactCircleOf", fn := fun _ => fun
  | [d1, d2, d3] => { results := [.lit (.bool true)], args := [d1, d2, d3] }
  | _ => none }
def fnExactCircleOfRow : OpenClaim := { program := "ytbpheblbbdiapab", sum := "f3469a1c75afdf427c41c6f5bb255f5117b00d51181e1d88e321b615c6def550", func := "loop.example/g01128/laws.FnExactCircleOf", spec := "fnExactCircleOf", unfollowed := true, recurses := true, apart := false }
def FnExactCircleOfSaid : Prop := fnExactCircleOfRow.holds Try.pinned (OpenSpec.ofChange fnExactCircleOfSpec)

/-- ITS FALSE NEIGHBOUR: 'it returns false'. Refute it at one input. -/
def fnExactCircleOfWrong : ChangeSpec := { name := "fnExactCircleOf", fn := fun _ => fun
  | [d1, d2, d3] => { results := [.lit (.bool false)], args := [d1, d2, d3] }
  | _ => none }
def FnExactCircleOfWrongFalsely : Prop := fnExactCircleOfRow.holds Try.pinned (OpenSpec.ofChange fnExactCircleOfWrong)

/-- 'laws.FnExactLightTree': WHATEVER THE INPUT: true; the input reads as it did. -/
def fnExactLightTreeSpec : ChangeSpec := { name := "fnExactLightTree", fn := fun _ => fun
  | [d1, d2] => { results := [.lit (.bool true)], args := [d1, d2] }
  | _ => none }
def fnExactLightTreeRow : OpenClaim := { program := "ytbpheblbbdiapab", sum := "f3469a1c75afdf427c41c6f5bb255f5117b00d51181e1d88e321b615c6def550", func := "loop.example/g01128/laws.FnExactLightTree", spec := "fnExactLightTree", unfollowed := true, recurses := true, apart := false }
def FnExactLightTreeSaid : Prop := fnExactLightTreeRow.holds Try.pinned (OpenSpec.ofChange fnExactLightTreeSpec)

/-- ITS FALSE NEIGHBOUR: 'it returns false'. Refute it at one input. -/
def fnExactLightTreeWrong : ChangeSpec := { name := "fnExactLightTree", fn := fun _ => fun
  | [d1, d2] => { results := [.lit (.bool false)], args := [d1, d2] }
  | _ => none }
def FnExactLightTreeWrongFalsely : Prop := fnExactLightTreeRow.holds Try.pinned (OpenSpec.ofChange fnExactLightTreeWrong)

/-- 'laws.FnExactTreeWalk': WHATEVER THE INPUT: true; the input reads as it did. -/
def fnExactTreeWalkSpec : ChangeSpec := { name := "fnExactTreeWalk", fn := fun _ => fun
  | [d1, d2, d3] => { results := [.lit (.bool true)], args := [d1, d2, d3] }
  | _ => none }
def fnExactTreeWalkRow : OpenClaim := { program := "ytbpheblbbdiapab", sum := "f3469a1c75afdf427c41c6f5bb255f5117b00d51181e1d88e321b615c6def550", func := "loop.example/g01128/laws.FnExactTreeWalk", spec := "fnExactTreeWalk", unfollowed := true, recurses := true, apart := false }
def FnExactTreeWalkSaid : Prop := fnExactTreeWalkRow.holds Try.pinned (OpenSpec.ofChange fnExactTreeWalkSpec)

/-- ITS FALSE NEIGHBOUR: 'it returns false'. Refute it at one input. -/
def fnExactTreeWalkWrong : ChangeSpec := { name := "fnExactTreeWalk", fn := fun _ => fun
  | [d1, d2, d3] => { results := [.lit (.bool false)], args := [d1, d2, d3] }
  | _ => none }
def FnExactTreeWalkWrongFalsely : Prop := fnExactTreeWalkRow.holds Try.pinned (OpenSpec.ofChange fnExactTreeWalkWrong)

/-- 'laws.FnExactCountTrees': WHATEVER THE INPUT: true; the input reads as it did. -/
def fnExactCountTreesSpec : ChangeSpec := { name := "fnExactCountTrees", fn := fun _ => fun
  | [d] => { results := [.lit (.bool true)], args := [d] }
  | _ => none }
def fnExactCountTreesRow : OpenClaim := { program := "ytbpheblbbdiapab", sum := "f3469a1c75afdf427c41c6f5bb255f5117b00d51181e1d88e321b615c6def550", func := "loop.example/g01128/laws.FnExactCountTrees", spec := "fnExactCountTrees", apart := false }
def FnExactCountTreesSaid : Prop := fnExactCountTreesRow.holds Try.pinned (OpenSpec.ofChange fnExactCountTreesSpec)

/-- ITS FALSE NEIGHBOUR: 'it returns false'. Refute it at one input. -/
def fnExactCountTreesWrong : ChangeSpec := { name := "fnExactCountTrees", fn := fun _ => fun
  | [d] => { results := [.lit (.bool false)], args := [d] }
  | _ => none }
def FnExactCountTreesWrongFalsely : Prop := fnExactCountTreesRow.holds Try.pinned (OpenSpec.ofChange fnExactCountTreesWrong)

/-- 'laws.FnExactCountWays': WHATEVER THE INPUT: true; the input reads as it did. -/
def fnExactCountWaysSpec : ChangeSpec := { name := "fnExactCountWays", fn := fun _ => fun
  | [d1, d2, d3] => { results := [.lit (.bool true)], args := [d1, d2, d3] }
  | _ => none }
def fnExactCountWaysRow : OpenClaim := { program := "ytbpheblbbdiapab", sum := "f3469a1c75afdf427c41c6f5bb255f5117b00d51181e1d88e321b615c6def550", func := "loop.example/g01128/laws.FnExactCountWays", spec := "fnExactCountWays", unfollowed := true, recurses := true, apart := false }
def FnExactCountWaysSaid : Prop := fnExactCountWaysRow.holds Try.pinned (OpenSpec.ofChange fnExactCountWaysSpec)

/-- ITS FALSE NEIGHBOUR: 'it returns false'. Refute it at one input. -/
def fnExactCountWaysWrong : ChangeSpec := { name := "fnExactCountWays", fn := fun _ => fun
  | [d1, d2, d3] => { results := [.lit (.bool false)], args := [d1, d2, d3] }
  | _ => none }
def FnExactCountWaysWrongFalsely : Prop := fnExactCountWaysRow.holds Try.pinned (OpenSpec.ofChange fnExactCountWaysWrong)

/-- 'laws.FnExactShortestWays': WHATEVER THE INPUT: true; the input reads as it did. -/
def fnExactShortestWaysSpec : ChangeSpec := { name := "fnExactShortestWays", fn := fun _ => fun
  | [d1, d2, d3] => { results := [.lit (.bool true)], args := [d1, d2, d3] }
  | _ => none }
def fnExactShortestWaysRow : OpenClaim := { program := "ytbpheblbbdiapab", sum := "f3469a1c75afdf427c41c6f5bb255f5117b00d51181e1d88e321b615c6def550", func := "loop.example/g01128/laws.FnExactShortestWays", spec := "fnExactShortestWays", unfollowed := true, recurses := true, apart := false }
def FnExactShortestWaysSaid : Prop := fnExactShortestWaysRow.holds Try.pinned (OpenSpec.ofChange fnExactShortestWaysSpec)

/-- ITS FALSE NEIGHBOUR: 'it returns false'. Refute it at one input. -/
def fnExactShortestWaysWrong : ChangeSpec := { name := "fnExactShortestWays", fn := fun _ => fun
  | [d1, d2, d3] => { results := [.lit (.bool false)], args := [d1, d2, d3] }
  | _ => none }
def FnExactShortestWaysWrongFalsely : Prop := fnExactShortestWaysRow.holds Try.pinned (OpenSpec.ofChange fnExactShortestWaysWrong)

/-- 'laws.FnExactLayersOf': WHATEVER THE INPUT: true; the input reads as it did. -/
def fnExactLayersOfSpec : ChangeSpec := { name := "fnExactLayersOf", fn := fun _ => fun
  | [d1, d2, d3] => { results := [.lit (.bool true)], args := [d1, d2, d3] }
  | _ => none }
def fnExactLayersOfRow : OpenClaim := { program := "ytbpheblbbdiapab", sum := "f3469a1c75afdf427c41c6f5bb255f5117b00d51181e1d88e321b615c6def550", func := "loop.example/g01128/laws.FnExactLayersOf", spec := "fnExactLayersOf", unfollowed := true, recurses := true, apart := false }
def FnExactLayersOfSaid : Prop := fnExactLayersOfRow.holds Try.pinned (OpenSpec.ofChange fnExactLayersOfSpec)

/-- ITS FALSE NEIGHBOUR: 'it returns false'. Refute it at one input. -/
def fnExactLayersOfWrong : ChangeSpec := { name := "fnExactLayersOf", fn := fun _ => fun
  | [d1, d2, d3] => { results := [.lit (.bool false)], args := [d1, d2, d3] }
  | _ => none }
def FnExactLayersOfWrongFalsely : Prop := fnExactLayersOfRow.holds Try.pinned (OpenSpec.ofChange fnExactLayersOfWrong)

/- THE SECOND FORM. 'bulk': how many values and letters a reading holds, each counted each time it is reached (what is shared counts as often as it is met; a slice's spare places count too). A statement '..UptoSaid' is the law's where the arguments, and the package variables that the reading takes, are together of bulk at most 1048576: NARROWER than '..Said'. Prove '..Said' where nothing that the law and all that it calls make is longer than what came in: it says more and counts as full. Else prove '..UptoSaid'. A law counts once. -/
mutual
def uptoBulk {H : Type} : DataW H → Nat
  | .lit (.string bytes) => bytes.length + 1
  | .lit _ => 1
  | .nil => 1
  | .ptr d => uptoBulk d + 1
  | .slice elems spare => uptoBulkAll elems + uptoBulkAll spare + 1
  | .agg parts => uptoBulkAll parts + 1
  | .iface _ d => uptoBulk d + 1
  | .map entries => uptoBulkEntries entries + 1
  | .held _ => 1
def uptoBulkAll {H : Type} : List (DataW H) → Nat
  | [] => 0
  | d :: r => uptoBulk d + uptoBulkAll r
def uptoBulkEntries {H : Type} : List (Lit × DataW H) → Nat
  | [] => 0
  | x :: r => uptoBulkEntry x + uptoBulkEntries r
def uptoBulkEntry {H : Type} : Lit × DataW H → Nat
  | (.string bytes, d) => bytes.length + uptoBulk d + 1
  | (_, d) => uptoBulk d + 1
 end
def uptoSmall : (H : Type) → List (DataW H) → Bool := fun _ ds => decide (uptoBulkAll ds ≤ 1048576)
def OpenSpec.upto (s : _root_.Go.ChangeSpec) : _root_.Go.OpenSpec := { _root_.Go.OpenSpec.ofChange s with cond := some uptoSmall }

/-- 'laws.FnExactCutOf', WHERE WHAT IT READS IS OF BULK AT MOST 1048576: true; the input reads as it did. -/
def fnExactCutOfUptoRow : OpenClaim := { program := "ytbpheblbbdiapab", sum := "f3469a1c75afdf427c41c6f5bb255f5117b00d51181e1d88e321b615c6def550", func := "loop.example/g01128/laws.FnExactCutOf", spec := "fnExactCutOf", unfollowed := true, recurses := true, apart := false, narrowed := true }
def FnExactCutOfUptoSaid : Prop := fnExactCutOfUptoRow.holds Try.pinned (OpenSpec.upto fnExactCutOfSpec)

/-- 'laws.FnExactCircleOf', WHERE WHAT IT READS IS OF BULK AT MOST 1048576: true; the input reads as it did. -/
def fnExactCircleOfUptoRow : OpenClaim := { program := "ytbpheblbbdiapab", sum := "f3469a1c75afdf427c41c6f5bb255f5117b00d51181e1d88e321b615c6def550", func := "loop.example/g01128/laws.FnExactCircleOf", spec := "fnExactCircleOf", unfollowed := true, recurses := true, apart := false, narrowed := true }
def FnExactCircleOfUptoSaid : Prop := fnExactCircleOfUptoRow.holds Try.pinned (OpenSpec.upto fnExactCircleOfSpec)

/-- 'laws.FnExactLightTree', WHERE WHAT IT READS IS OF BULK AT MOST 1048576: true; the input reads as it did. -/
def fnExactLightTreeUptoRow : OpenClaim := { program := "ytbpheblbbdiapab", sum := "f3469a1c75afdf427c41c6f5bb255f5117b00d51181e1d88e321b615c6def550", func := "loop.example/g01128/laws.FnExactLightTree", spec := "fnExactLightTree", unfollowed := true, recurses := true, apart := false, narrowed := true }
def FnExactLightTreeUptoSaid : Prop := fnExactLightTreeUptoRow.holds Try.pinned (OpenSpec.upto fnExactLightTreeSpec)

/-- 'laws.FnExactTreeWalk', WHERE WHAT IT READS IS OF BULK AT MOST 1048576: true; the input reads as it did. -/
def fnExactTreeWalkUptoRow : OpenClaim := { program := "ytbpheblbbdiapab", sum := "f3469a1c75afdf427c41c6f5bb255f5117b00d51181e1d88e321b615c6def550", func := "loop.example/g01128/laws.FnExactTreeWalk", spec := "fnExactTreeWalk", unfollowed := true, recurses := true, apart := false, narrowed := true }
def FnExactTreeWalkUptoSaid : Prop := fnExactTreeWalkUptoRow.holds Try.pinned (OpenSpec.upto fnExactTreeWalkSpec)

/-- 'laws.FnExactCountTrees', WHERE WHAT IT READS IS OF BULK AT MOST 1048576: true; the input reads as it did. -/
def fnExactCountTreesUptoRow : OpenClaim := { program := "ytbpheblbbdiapab", sum := "f3469a1c75afdf427c41c6f5bb255f5117b00d51181e1d88e321b615c6def550", func := "loop.example/g01128/laws.FnExactCountTrees", spec := "fnExactCountTrees", apart := false, narrowed := true }
def FnExactCountTreesUptoSaid : Prop := fnExactCountTreesUptoRow.holds Try.pinned (OpenSpec.upto fnExactCountTreesSpec)

/-- 'laws.FnExactCountWays', WHERE WHAT IT READS IS OF BULK AT MOST 1048576: true; the input reads as it did. -/
def fnExactCountWaysUptoRow : OpenClaim := { program := "ytbpheblbbdiapab", sum := "f3469a1c75afdf427c41c6f5bb255f5117b00d51181e1d88e321b615c6def550", func := "loop.example/g01128/laws.FnExactCountWays", spec := "fnExactCountWays", unfollowed := true, recurses := true, apart := false, narrowed := true }
def FnExactCountWaysUptoSaid : Prop := fnExactCountWaysUptoRow.holds Try.pinned (OpenSpec.upto fnExactCountWaysSpec)

/-- 'laws.FnExactShortestWays', WHERE WHAT IT READS IS OF BULK AT MOST 1048576: true; the input reads as it did. -/
def fnExactShortestWaysUptoRow : OpenClaim := { program := "ytbpheblbbdiapab", sum := "f3469a1c75afdf427c41c6f5bb255f5117b00d51181e1d88e321b615c6def550", func := "loop.example/g01128/laws.FnExactShortestWays", spec := "fnExactShortestWays", unfollowed := true, recurses := true, apart := false, narrowed := true }
def FnExactShortestWaysUptoSaid : Prop := fnExactShortestWaysUptoRow.holds Try.pinned (OpenSpec.upto fnExactShortestWaysSpec)

/-- 'laws.FnExactLayersOf', WHERE WHAT IT READS IS OF BULK AT MOST 1048576: true; the input reads as it did. -/
def fnExactLayersOfUptoRow : OpenClaim := { program := "ytbpheblbbdiapab", sum := "f3469a1c75afdf427c41c6f5bb255f5117b00d51181e1d88e321b615c6def550", func := "loop.example/g01128/laws.FnExactLayersOf", spec := "fnExactLayersOf", unfollowed := true, recurses := true, apart := false, narrowed := true }
def FnExactLayersOfUptoSaid : Prop := fnExactLayersOfUptoRow.holds Try.pinned (OpenSpec.upto fnExactLayersOfSpec)

end Rows
end Go.Proofs.Ytbpheblbbdiapab

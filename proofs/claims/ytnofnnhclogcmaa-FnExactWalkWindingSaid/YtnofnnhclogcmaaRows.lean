/-
  No cell of these rows narrows 'for every input' (looked for: loops, veiled, ifaces, maps, wideKeys, modest, calm, conditions, laid).
  DERIVED. THE GIVEN ROWS OF THIS SEAT. 9 by the template 'for every input the law returns true; each argument reads behind the call as it read before'; 0 by the template 'total and deterministic' (their statements: YtnofnnhclogcmaaTotals.lean).
  GIVEN WITH THE SEED: the statements are not yours to turn. If you find one false, say at which input.
  Laid BY PROGRAM, IN A SANDBOX (cutbox-rows.mjs): the forced cells as the released guide's own fill.sh prints them over the translation 93f370d0eb8f8db2… (all of the seat's roots in one cut). By AI agents, Wed Nov 11 2026. No macro, syntax, notation, axiom, sorry.
-/
import Derived.Test.YtnofnnhclogcmaaChecked
import GoSem.Claim
import GoSem.ClaimJoined
import GoSem.ClaimMapViews
import Derived.JoinedTies
import Derived.KernelRfl
namespace Go.Proofs.Ytnofnnhclogcmaa
/- THE CELL 'sum', in the pinned program and in every row, IS THE sha256 OF THE DUMP (.gsa) THAT YtnofnnhclogcmaaProg.lean LOADS. Nothing in Lean hashes anything: it is a label: what it is worth is what the hold of that sum in a sandbox is worth. -/
noncomputable def Try.pinned : Pinned := { name := "ytnofnnhclogcmaa", sum := "93f370d0eb8f8db28a67d01d566a2bed3a8954fbe35b785d4c04b73ca29f9e7a", checked := Try.checked }
namespace Rows
def none {H : Type} : Left H := { results := [], args := [] }

/-- 'laws.FnExactHeightsOf': WHATEVER THE INPUT: true; the input reads as it did. -/
def fnExactHeightsOfSpec : ChangeSpec := { name := "fnExactHeightsOf", fn := fun _ => fun
  | [d1, d2] => { results := [.lit (.bool true)], args := [d1, d2] }
  | _ => none }
def fnExactHeightsOfRow : OpenClaim := { program := "ytnofnnhclogcmaa", sum := "93f370d0eb8f8db28a67d01d566a2bed3a8954fbe35b785d4c04b73ca29f9e7a", func := "loop.example/g01128/laws.FnExactHeightsOf", spec := "fnExactHeightsOf", unfollowed := true, recurses := true, apart := false }
def FnExactHeightsOfSaid : Prop := fnExactHeightsOfRow.holds Try.pinned (OpenSpec.ofChange fnExactHeightsOfSpec)

/-- ITS FALSE NEIGHBOUR: 'it returns false'. Refute it at one input. -/
def fnExactHeightsOfWrong : ChangeSpec := { name := "fnExactHeightsOf", fn := fun _ => fun
  | [d1, d2] => { results := [.lit (.bool false)], args := [d1, d2] }
  | _ => none }
def FnExactHeightsOfWrongFalsely : Prop := fnExactHeightsOfRow.holds Try.pinned (OpenSpec.ofChange fnExactHeightsOfWrong)

/-- 'laws.FnExactWalkWinding': WHATEVER THE INPUT: true; the input reads as it did. -/
def fnExactWalkWindingSpec : ChangeSpec := { name := "fnExactWalkWinding", fn := fun _ => fun
  | [d1, d2] => { results := [.lit (.bool true)], args := [d1, d2] }
  | _ => none }
def fnExactWalkWindingRow : OpenClaim := { program := "ytnofnnhclogcmaa", sum := "93f370d0eb8f8db28a67d01d566a2bed3a8954fbe35b785d4c04b73ca29f9e7a", func := "loop.example/g01128/laws.FnExactWalkWinding", spec := "fnExactWalkWinding", unfollowed := true, recurses := true, apart := false }
def FnExactWalkWindingSaid : Prop := fnExactWalkWindingRow.holds Try.pinned (OpenSpec.ofChange fnExactWalkWindingSpec)

/-- ITS FALSE NEIGHBOUR: 'it returns false'. Refute it at one input. -/
def fnExactWalkWindingWrong : ChangeSpec := { name := "fnExactWalkWinding", fn := fun _ => fun
  | [d1, d2] => { results := [.lit (.bool false)], args := [d1, d2] }
  | _ => none }
def FnExactWalkWindingWrongFalsely : Prop := fnExactWalkWindingRow.holds Try.pinned (OpenSpec.ofChange fnExactWalkWindingWrong)

/-- 'laws.FnExactSlackOf': WHATEVER THE INPUT: true; the input reads as it did. -/
def fnExactSlackOfSpec : ChangeSpec := { name := "fnExactSlackOf", fn := fun _ => fun
  | [d1, d2] => { results := [.lit (.bool true)], args := [d1, d2] }
  | _ => none }
def fnExactSlackOfRow : OpenClaim := { program := "ytnofnnhclogcmaa", sum := "93f370d0eb8f8db28a67d01d566a2bed3a8954fbe35b785d4c04b73ca29f9e7a", func := "loop.example/g01128/laws.FnExactSlackOf", spec := "fnExactSlackOf", unfollowed := true, recurses := true, apart := false }
def FnExactSlackOfSaid : Prop := fnExactSlackOfRow.holds Try.pinned (OpenSpec.ofChange fnExactSlackOfSpec)

/-- ITS FALSE NEIGHBOUR: 'it returns false'. Refute it at one input. -/
def fnExactSlackOfWrong : ChangeSpec := { name := "fnExactSlackOf", fn := fun _ => fun
  | [d1, d2] => { results := [.lit (.bool false)], args := [d1, d2] }
  | _ => none }
def FnExactSlackOfWrongFalsely : Prop := fnExactSlackOfRow.holds Try.pinned (OpenSpec.ofChange fnExactSlackOfWrong)

/-- 'laws.FnExactIsClosedWalk': WHATEVER THE INPUT: true; the input reads as it did. -/
def fnExactIsClosedWalkSpec : ChangeSpec := { name := "fnExactIsClosedWalk", fn := fun _ => fun
  | [d1, d2, d3] => { results := [.lit (.bool true)], args := [d1, d2, d3] }
  | _ => none }
def fnExactIsClosedWalkRow : OpenClaim := { program := "ytnofnnhclogcmaa", sum := "93f370d0eb8f8db28a67d01d566a2bed3a8954fbe35b785d4c04b73ca29f9e7a", func := "loop.example/g01128/laws.FnExactIsClosedWalk", spec := "fnExactIsClosedWalk", unfollowed := true, recurses := true, apart := false }
def FnExactIsClosedWalkSaid : Prop := fnExactIsClosedWalkRow.holds Try.pinned (OpenSpec.ofChange fnExactIsClosedWalkSpec)

/-- ITS FALSE NEIGHBOUR: 'it returns false'. Refute it at one input. -/
def fnExactIsClosedWalkWrong : ChangeSpec := { name := "fnExactIsClosedWalk", fn := fun _ => fun
  | [d1, d2, d3] => { results := [.lit (.bool false)], args := [d1, d2, d3] }
  | _ => none }
def FnExactIsClosedWalkWrongFalsely : Prop := fnExactIsClosedWalkRow.holds Try.pinned (OpenSpec.ofChange fnExactIsClosedWalkWrong)

/-- 'laws.FnExactTurnWalk': WHATEVER THE INPUT: true; the input reads as it did. -/
def fnExactTurnWalkSpec : ChangeSpec := { name := "fnExactTurnWalk", fn := fun _ => fun
  | [d1, d2, d3] => { results := [.lit (.bool true)], args := [d1, d2, d3] }
  | _ => none }
def fnExactTurnWalkRow : OpenClaim := { program := "ytnofnnhclogcmaa", sum := "93f370d0eb8f8db28a67d01d566a2bed3a8954fbe35b785d4c04b73ca29f9e7a", func := "loop.example/g01128/laws.FnExactTurnWalk", spec := "fnExactTurnWalk", unfollowed := true, recurses := true, apart := false }
def FnExactTurnWalkSaid : Prop := fnExactTurnWalkRow.holds Try.pinned (OpenSpec.ofChange fnExactTurnWalkSpec)

/-- ITS FALSE NEIGHBOUR: 'it returns false'. Refute it at one input. -/
def fnExactTurnWalkWrong : ChangeSpec := { name := "fnExactTurnWalk", fn := fun _ => fun
  | [d1, d2, d3] => { results := [.lit (.bool false)], args := [d1, d2, d3] }
  | _ => none }
def FnExactTurnWalkWrongFalsely : Prop := fnExactTurnWalkRow.holds Try.pinned (OpenSpec.ofChange fnExactTurnWalkWrong)

/-- 'laws.FnExactBackWalk': WHATEVER THE INPUT: true; the input reads as it did. -/
def fnExactBackWalkSpec : ChangeSpec := { name := "fnExactBackWalk", fn := fun _ => fun
  | [d1, d2] => { results := [.lit (.bool true)], args := [d1, d2] }
  | _ => none }
def fnExactBackWalkRow : OpenClaim := { program := "ytnofnnhclogcmaa", sum := "93f370d0eb8f8db28a67d01d566a2bed3a8954fbe35b785d4c04b73ca29f9e7a", func := "loop.example/g01128/laws.FnExactBackWalk", spec := "fnExactBackWalk", unfollowed := true, recurses := true, apart := false }
def FnExactBackWalkSaid : Prop := fnExactBackWalkRow.holds Try.pinned (OpenSpec.ofChange fnExactBackWalkSpec)

/-- ITS FALSE NEIGHBOUR: 'it returns false'. Refute it at one input. -/
def fnExactBackWalkWrong : ChangeSpec := { name := "fnExactBackWalk", fn := fun _ => fun
  | [d1, d2] => { results := [.lit (.bool false)], args := [d1, d2] }
  | _ => none }
def FnExactBackWalkWrongFalsely : Prop := fnExactBackWalkRow.holds Try.pinned (OpenSpec.ofChange fnExactBackWalkWrong)

/-- 'laws.FnExactSameClass': WHATEVER THE INPUT: true; the input reads as it did. -/
def fnExactSameClassSpec : ChangeSpec := { name := "fnExactSameClass", fn := fun _ => fun
  | [d1, d2, d3] => { results := [.lit (.bool true)], args := [d1, d2, d3] }
  | _ => none }
def fnExactSameClassRow : OpenClaim := { program := "ytnofnnhclogcmaa", sum := "93f370d0eb8f8db28a67d01d566a2bed3a8954fbe35b785d4c04b73ca29f9e7a", func := "loop.example/g01128/laws.FnExactSameClass", spec := "fnExactSameClass", unfollowed := true, recurses := true, apart := false }
def FnExactSameClassSaid : Prop := fnExactSameClassRow.holds Try.pinned (OpenSpec.ofChange fnExactSameClassSpec)

/-- ITS FALSE NEIGHBOUR: 'it returns false'. Refute it at one input. -/
def fnExactSameClassWrong : ChangeSpec := { name := "fnExactSameClass", fn := fun _ => fun
  | [d1, d2, d3] => { results := [.lit (.bool false)], args := [d1, d2, d3] }
  | _ => none }
def FnExactSameClassWrongFalsely : Prop := fnExactSameClassRow.holds Try.pinned (OpenSpec.ofChange fnExactSameClassWrong)

/-- 'laws.FnExactCycleOf': WHATEVER THE INPUT: true; the input reads as it did. -/
def fnExactCycleOfSpec : ChangeSpec := { name := "fnExactCycleOf", fn := fun _ => fun
  | [d] => { results := [.lit (.bool true)], args := [d] }
  | _ => none }
def fnExactCycleOfRow : OpenClaim := { program := "ytnofnnhclogcmaa", sum := "93f370d0eb8f8db28a67d01d566a2bed3a8954fbe35b785d4c04b73ca29f9e7a", func := "loop.example/g01128/laws.FnExactCycleOf", spec := "fnExactCycleOf", unfollowed := true, recurses := true, apart := false }
def FnExactCycleOfSaid : Prop := fnExactCycleOfRow.holds Try.pinned (OpenSpec.ofChange fnExactCycleOfSpec)

/-- ITS FALSE NEIGHBOUR: 'it returns false'. Refute it at one input. -/
def fnExactCycleOfWrong : ChangeSpec := { name := "fnExactCycleOf", fn := fun _ => fun
  | [d] => { results := [.lit (.bool false)], args := [d] }
  | _ => none }
def FnExactCycleOfWrongFalsely : Prop := fnExactCycleOfRow.holds Try.pinned (OpenSpec.ofChange fnExactCycleOfWrong)

/-- 'laws.FnExactWindingOf': WHATEVER THE INPUT: true; the input reads as it did. -/
def fnExactWindingOfSpec : ChangeSpec := { name := "fnExactWindingOf", fn := fun _ => fun
  | [d1, d2, d3] => { results := [.lit (.bool true)], args := [d1, d2, d3] }
  | _ => none }
def fnExactWindingOfRow : OpenClaim := { program := "ytnofnnhclogcmaa", sum := "93f370d0eb8f8db28a67d01d566a2bed3a8954fbe35b785d4c04b73ca29f9e7a", func := "loop.example/g01128/laws.FnExactWindingOf", spec := "fnExactWindingOf", unfollowed := true, recurses := true, apart := false }
def FnExactWindingOfSaid : Prop := fnExactWindingOfRow.holds Try.pinned (OpenSpec.ofChange fnExactWindingOfSpec)

/-- ITS FALSE NEIGHBOUR: 'it returns false'. Refute it at one input. -/
def fnExactWindingOfWrong : ChangeSpec := { name := "fnExactWindingOf", fn := fun _ => fun
  | [d1, d2, d3] => { results := [.lit (.bool false)], args := [d1, d2, d3] }
  | _ => none }
def FnExactWindingOfWrongFalsely : Prop := fnExactWindingOfRow.holds Try.pinned (OpenSpec.ofChange fnExactWindingOfWrong)

/- THE SECOND FORM. 'bulk': how many values and letters a reading holds, each counted each time it is reached (what is shared counts as often as it is met; a slice's spare places count too). A statement '..UptoSaid' is the law's where the arguments, and the package variables that the reading takes, are together of bulk at most 1048576: NARROWER than '..Said'. Prove '..Said' where nothing that the law and all that it calls make is longer than what came in: it says more and counts as full. Else prove '..UptoSaid'. A law counts once. -/
mutual
def uptoBulk {H : Type} : DataW H → Nat
  | .lit (.string bytes) => bytes.length + 1
  | .lit _ => 1
  | .nil => 1
  | .ptr d => uptoBulk d + 1
  | .slice elems spare => uptoBulkAll elems + uptoBulkAll spare + 1
  | .agg parts => uptoBulkAll parts + 1
  | .iface _ d => uptoBulk d + 1
  | .map entries => uptoBulkEntries entries + 1
  | .held _ => 1
def uptoBulkAll {H : Type} : List (DataW H) → Nat
  | [] => 0
  | d :: r => uptoBulk d + uptoBulkAll r
def uptoBulkEntries {H : Type} : List (Lit × DataW H) → Nat
  | [] => 0
  | x :: r => uptoBulkEntry x + uptoBulkEntries r
def uptoBulkEntry {H : Type} : Lit × DataW H → Nat
  | (.string bytes, d) => bytes.length + uptoBulk d + 1
  | (_, d) => uptoBulk d + 1
 end
def uptoSmall : (H : Type) → List (DataW H) → Bool := fun _ ds => decide (uptoBulkAll ds ≤ 1048576)
def OpenSpec.upto (s : _root_.Go.ChangeSpec) : _root_.Go.OpenSpec := { _root_.Go.OpenSpec.ofChange s with cond := some uptoSmall }

/-- 'laws.FnExactHeightsOf', WHERE WHAT IT READS IS OF BULK AT MOST 1048576: true; the input reads as it did. -/
def fnExactHeightsOfUptoRow : OpenClaim := { program := "ytnofnnhclogcmaa", sum := "93f370d0eb8f8db28a67d01d566a2bed3a8954fbe35b785d4c04b73ca29f9e7a", func := "loop.example/g01128/laws.FnExactHeightsOf", spec := "fnExactHeightsOf", unfollowed := true, recurses := true, apart := false, narrowed := true }
def FnExactHeightsOfUptoSaid : Prop := fnExactHeightsOfUptoRow.holds Try.pinned (OpenSpec.upto fnExactHeightsOfSpec)

/-- 'laws.FnExactWalkWinding', WHERE WHAT IT READS IS OF BULK AT MOST 1048576: true; the input reads as it did. -/
def fnExactWalkWindingUptoRow : OpenClaim := { program := "ytnofnnhclogcmaa", sum := "93f370d0eb8f8db28a67d01d566a2bed3a8954fbe35b785d4c04b73ca29f9e7a", func := "loop.example/g01128/laws.FnExactWalkWinding", spec := "fnExactWalkWinding", unfollowed := true, recurses := true, apart := false, narrowed := true }
def FnExactWalkWindingUptoSaid : Prop := fnExactWalkWindingUptoRow.holds Try.pinned (OpenSpec.upto fnExactWalkWindingSpec)

/-- 'laws.FnExactSlackOf', WHERE WHAT IT READS IS OF BULK AT MOST 1048576: true; the input reads as it did. -/
def fnExactSlackOfUptoRow : OpenClaim := { program := "ytnofnnhclogcmaa", sum := "93f370d0eb8f8db28a67d01d566a2bed3a8954fbe35b785d4c04b73ca29f9e7a", func := "loop.example/g01128/laws.FnExactSlackOf", spec := "fnExactSlackOf", unfollowed := true, recurses := true, apart := false, narrowed := true }
def FnExactSlackOfUptoSaid : Prop := fnExactSlackOfUptoRow.holds Try.pinned (OpenSpec.upto fnExactSlackOfSpec)

/-- 'laws.FnExactIsClosedWalk', WHERE WHAT IT READS IS OF BULK AT MOST 1048576: true; the input reads as it did. -/
def fnExactIsClosedWalkUptoRow : OpenClaim := { program := "ytnofnnhclogcmaa", sum := "93f370d0eb8f8db28a67d01d566a2bed3a8954fbe35b785d4c04b73ca29f9e7a", func := "loop.example/g01128/laws.FnExactIsClosedWalk", spec := "fnExactIsClosedWalk", unfollowed := true, recurses := true, apart := false, narrowed := true }
def FnExactIsClosedWalkUptoSaid : Prop := fnExactIsClosedWalkUptoRow.holds Try.pinned (OpenSpec.upto fnExactIsClosedWalkSpec)

/-- 'laws.FnExactTurnWalk', WHERE WHAT IT READS IS OF BULK AT MOST 1048576: true; the input reads as it did. -/
def fnExactTurnWalkUptoRow : OpenClaim := { program := "ytnofnnhclogcmaa", sum := "93f370d0eb8f8db28a67d01d566a2bed3a8954fbe35b785d4c04b73ca29f9e7a", func := "loop.example/g01128/laws.FnExactTurnWalk", spec := "fnExactTurnWalk", unfollowed := true, recurses := true, apart := false, narrowed := true }
def FnExactTurnWalkUptoSaid : Prop := fnExactTurnWalkUptoRow.holds Try.pinned (OpenSpec.upto fnExactTurnWalkSpec)

/-- 'laws.FnExactBackWalk', WHERE WHAT IT READS IS OF BULK AT MOST 1048576: true; the input reads as it did. -/
def fnExactBackWalkUptoRow : OpenClaim := { program := "ytnofnnhclogcmaa", sum := "93f370d0eb8f8db28a67d01d566a2bed3a8954fbe35b785d4c04b73ca29f9e7a", func := "loop.example/g01128/laws.FnExactBackWalk", spec := "fnExactBackWalk", unfollowed := true, recurses := true, apart := false, narrowed := true }
def FnExactBackWalkUptoSaid : Prop := fnExactBackWalkUptoRow.holds Try.pinned (OpenSpec.upto fnExactBackWalkSpec)

/-- 'laws.FnExactSameClass', WHERE WHAT IT READS IS OF BULK AT MOST 1048576: true; the input reads as it did. -/
def fnExactSameClassUptoRow : OpenClaim := { program := "ytnofnnhclogcmaa", sum := "93f370d0eb8f8db28a67d01d566a2bed3a8954fbe35b785d4c04b73ca29f9e7a", func := "loop.example/g01128/laws.FnExactSameClass", spec := "fnExactSameClass", unfollowed := true, recurses := true, apart := false, narrowed := true }
def FnExactSameClassUptoSaid : Prop := fnExactSameClassUptoRow.holds Try.pinned (OpenSpec.upto fnExactSameClassSpec)

/-- 'laws.FnExactCycleOf', WHERE WHAT IT READS IS OF BULK AT MOST 1048576: true; the input reads as it did. -/
def fnExactCycleOfUptoRow : OpenClaim := { program := "ytnofnnhclogcmaa", sum := "93f370d0eb8f8db28a67d01d566a2bed3a8954fbe35b785d4c04b73ca29f9e7a", func := "loop.example/g01128/laws.FnExactCycleOf", spec := "fnExactCycleOf", unfollowed := true, recurses := true, apart := false, narrowed := true }
def FnExactCycleOfUptoSaid : Prop := fnExactCycleOfUptoRow.holds Try.pinned (OpenSpec.upto fnExactCycleOfSpec)

/-- 'laws.FnExactWindingOf', WHERE WHAT IT READS IS OF BULK AT MOST 1048576: true; the input reads as it did. -/
def fnExactWindingOfUptoRow : OpenClaim := { program := "ytnofnnhclogcmaa", sum := "93f370d0eb8f8db28a67d01d566a2bed3a8954fbe35b785d4c04b73ca29f9e7a", func := "loop.example/g01128/laws.FnExactWindingOf", spec := "fnExactWindingOf", unfollowed := true, recurses := true, apart := false, narrowed := true }
def FnExactWindingOfUptoSaid : Prop := fnExactWindingOfUptoRow.holds Try.pinned (OpenSpec.upto fnExactWindingOfSpec)

end Rows
end Go.Proofs.Ytnofnnhclogcmaa

/-
  No cell of these rows narrows 'for every input' (looked for: loops, veiled, ifaces, maps, wideKeys, modest, calm, conditions, laid).
  DERIVED. THE GIVEN ROWS OF THIS SEAT. 9 by the template 'for every input the law returns true; each argument reads behind the call as it read before'; 0 by the template 'total and deterministic' (their statements: YtcgeedklfejhbabTotals.lean).
  GIVEN WITH THE SEED: the statements are not yours to turn. If you find one false, say at which input.
  Laid BY PROGRAM, IN A SANDBOX (cutbox-rows.mjs): the forced cells as the released guide's own fill.sh prints them over the translation 5b9969c7a4d8fd20… (all of the seat's roots in one cut). By AI agents, Wed Nov 11 2026. No macro, syntax, notation, axiom, sorry.
-/
import Derived.Test.YtcgeedklfejhbabChecked
import GoSem.Claim
import GoSem.ClaimJoined
import GoSem.ClaimMapViews
import Derived.JoinedTies
import Derived.KernelRfl
namespace Go.Proofs.Ytcgeedklfejhbab
/- THE CELL 'sum', in the pinned program and in every row, IS THE sha256 OF THE DUMP (.gsa) THAT YtcgeedklfejhbabProg.lean LOADS. Nothing in Lean hashes anything: it is a label: what it is worth is what the hold of that sum in a sandbox is worth. -/
noncomputable def Try.pinned : Pinned := { name := "ytcgeedklfejhbab", sum := "5b9969c7a4d8fd2083573820f62f38374d670f9680c158b2f1367d1570d78f95", checked := Try.checked }
namespace Rows
def none {H : Type} : Left H := { results := [], args := [] }

/-- 'laws.FnExactIsTree': WHATEVER THE INPUT: true; the input reads as it did. -/
def fnExactIsTreeSpec : ChangeSpec := { name := "fnExactIsTree", fn := fun _ => fun
  | [d1, d2] => { results := [.lit (.bool true)], args := [d1, d2] }
  | _ => none }
def fnExactIsTreeRow : OpenClaim := { program := "ytcgeedklfejhbab", sum := "5b9969c7a4d8fd2083573820f62f38374d670f9680c158b2f1367d1570d78f95", func := "loop.example/g01128/laws.FnExactIsTree", spec := "fnExactIsTree", unfollowed := true, recurses := true, apart := false }
def FnExactIsTreeSaid : Prop := fnExactIsTreeRow.holds Try.pinned (OpenSpec.ofChange fnExactIsTreeSpec)

/-- ITS FALSE NEIGHBOUR: 'it returns false'. Refute it at one input. -/
def fnExactIsTreeWrong : ChangeSpec := { name := "fnExactIsTree", fn := fun _ => fun
  | [d1, d2] => { results := [.lit (.bool false)], args := [d1, d2] }
  | _ => none }
def FnExactIsTreeWrongFalsely : Prop := fnExactIsTreeRow.holds Try.pinned (OpenSpec.ofChange fnExactIsTreeWrong)

/-- 'laws.FnExactCutOf': WHATEVER THE INPUT: true; the input reads as it did. -/
def fnExactCutOfSpec : ChangeSpec := { name := "fnExactCutOf", fn := fun _ => fun
  | [d1, d2, d3] => { results := [.lit (.bool true)], args := [d1, d2, d3] }
  | _ => none }
def fnExactCutOfRow : OpenClaim := { program := "ytcgeedklfejhbab", sum := "5b9969c7a4d8fd2083573820f62f38374d670f9680c158b2f1367d1570d78f95", func := "loop.example/g01128/laws.FnExactCutOf", spec := "fnExactCutOf", unfollowed := true, recurses := true, apart := false }
def FnExactCutOfSaid : Prop := fnExactCutOfRow.holds Try.pinned (OpenSpec.ofChange fnExactCutOfSpec)

/-- ITS FALSE NEIGHBOUR: 'it returns false'. Refute it at one input. -/
def fnExactCutOfWrong : ChangeSpec := { name := "fnExactCutOf", fn := fun _ => fun
  | [d1, d2, d3] => { results := [.lit (.bool false)], args := [d1, d2, d3] }
  | _ => none }
def FnExactCutOfWrongFalsely : Prop := fnExactCutOfRow.holds Try.pinned (OpenSpec.ofChange fnExactCutOfWrong)

/-- 'laws.FnExactCircleOf': WHATEVER THE INPUT: true; the input reads as it did. -/
def fnExactCircleOfSpec : ChangeSpec := { name := "fnExactCircleOf", fn := fun _ => fun
  | [d1, d2, d3] => { results := [.lit (.bool true)], args := [d1, d2, d3] }
  | _ => none }
def fnExactCircleOfRow : OpenClaim := { program := "ytcgeedklfejhbab", sum := "5b9969c7a4d8fd2083573820f62f38374d670f9680c158b2f1367d1570d78f95", func := "loop.example/g01128/laws.FnExactCircleOf", spec := "fnExactCircleOf", unfollowed := true, recurses := true, apart := false }
def FnExactCircleOfSaid : Prop := fnExactCircleOfRow.holds Try.pinned (OpenSpec.ofChange fnExactCircleOfSpec)

/-- ITS FALSE NEIGHBOUR: 'it returns false'. Refute it at one input. -/
def fnExactCircleOfWrong : ChangeSpec := { name := "fnExactCircleOf", fn := fun _ => fun
  | [d1, d2, d3] => { results := [.lit (.bool false)], args := [d1, d2, d3] }
  | _ => none }
def FnExactCircleOfWrongFalsely : Prop := fnExactCircleOfRow.holds Try.pinned (OpenSpec.ofChange fnExactCircleOfWrong)

/-- 'laws.FnExactLightTree': WHATEVER THE INPUT: true; the input reads as it did. -/
def fnExactLightTreeSpec : ChangeSpec := { name := "fnExactLightTree", fn := fun _ => fun
  | [d1, d2] => { results := [.lit (.bool true)], args := [d1, d2] }
  | _ => none }
def fnExactLightTreeRow : OpenClaim := { program := "ytcgeedklfejhbab", sum := "5b9969c7a4d8fd2083573820f62f38374d670f9680c158b2f1367d1570d78f95", func := "loop.example/g01128/laws.FnExactLightTree", spec := "fnExactLightTree", unfollowed := true, recurses := true, apart := false }
def FnExactLightTreeSaid : Prop := fnExactLightTreeRow.holds Try.pinned (OpenSpec.ofChange fnExactLightTreeSpec)

/-- ITS FALSE NEIGHBOUR: 'it returns false'. Refute it at one input. -/
def fnExactLightTreeWrong : ChangeSpec := { name := "fnExactLightTree", fn := fun _ => fun
  | [d1, d2] => { results := [.lit (.bool false)], args := [d1, d2] }
  | _ => none }
def FnExactLightTreeWrongFalsely : Prop := fnExactLightTreeRow.holds Try.pinned (OpenSpec.ofChange fnExactLightTreeWrong)

/-- 'laws.FnExactTreeWalk': WHATEVER THE INPUT: true; the input reads as it did. -/
def fnExactTreeWalkSpec : ChangeSpec := { name := "fnExactTreeWalk", fn := fun _ => fun
  | [d1, d2, d3] => { results := [.lit (.bool true)], args := [d1, d2, d3] }
  | _ => none }
def fnExactTreeWalkRow : OpenClaim := { program := "ytcgeedklfejhbab", sum := "5b9969c7a4d8fd2083573820f62f38374d670f9680c158b2f1367d1570d78f95", func := "loop.example/g01128/laws.FnExactTreeWalk", spec := "fnExactTreeWalk", unfollowed := true, recurses := true, apart := false }
def FnExactTreeWalkSaid : Prop := fnExactTreeWalkRow.holds Try.pinned (OpenSpec.ofChange fnExactTreeWalkSpec)

/-- ITS FALSE NEIGHBOUR: 'it returns false'. Refute it at one input. -/
def fnExactTreeWalkWrong : ChangeSpec := { name := "fnExactTreeWalk", fn := fun _ => fun
  | [d1, d2, d3] => { results := [.lit (.bool false)], args := [d1, d2, d3] }
  | _ => none }
def FnExactTreeWalkWrongFalsely : Prop := fnExactTreeWalkRow.holds Try.pinned (OpenSpec.ofChange fnExactTreeWalkWrong)

/-- 'laws.FnExactCountTrees': WHATEVER THE INPUT: true; the input reads as it did. -/
def fnExactCountTreesSpec : ChangeSpec := { name := "fnExactCountTrees", fn := fun _ => fun
  | [d] => { results := [.lit (.bool true)], args := [d] }
  | _ => none }
def fnExactCountTreesRow : OpenClaim := { program := "ytcgeedklfejhbab", sum := "5b9969c7a4d8fd2083573820f62f38374d670f9680c158b2f1367d1570d78f95", func := "loop.example/g01128/laws.FnExactCountTrees", spec := "fnExactCountTrees", apart := false }
def FnExactCountTreesSaid : Prop := fnExactCountTreesRow.holds Try.pinned (OpenSpec.ofChange fnExactCountTreesSpec)

/-- ITS FALSE NEIGHBOUR: 'it returns false'. Refute it at one input. -/
def fnExactCountTreesWrong : ChangeSpec := { name := "fnExactCountTrees", fn := fun _ => fun
  | [d] => { results := [.lit (.bool false)], args := [d] }
  | _ => none }
def FnExactCountTreesWrongFalsely : Prop := fnExactCountTreesRow.holds Try.pinned (OpenSpec.ofChange fnExactCountTreesWrong)

/-- 'laws.FnExactChainOf': WHATEVER THE INPUT: true; the input reads as it did. -/
def fnExactChainOfSpec : ChangeSpec := { name := "fnExactChainOf", fn := fun _ => fun
  | [d1, d2, d3, d4, d5] => { results := [.lit (.bool true)], args := [d1, d2, d3, d4, d5] }
  | _ => none }
def fnExactChainOfRow : OpenClaim := { program := "ytcgeedklfejhbab", sum := "5b9969c7a4d8fd2083573820f62f38374d670f9680c158b2f1367d1570d78f95", func := "loop.example/g01128/laws.FnExactChainOf", spec := "fnExactChainOf", unfollowed := true, recurses := true, apart := false }
def FnExactChainOfSaid : Prop := fnExactChainOfRow.holds Try.pinned (OpenSpec.ofChange fnExactChainOfSpec)

/-- ITS FALSE NEIGHBOUR: 'it returns false'. Refute it at one input. -/
def fnExactChainOfWrong : ChangeSpec := { name := "fnExactChainOf", fn := fun _ => fun
  | [d1, d2, d3, d4, d5] => { results := [.lit (.bool false)], args := [d1, d2, d3, d4, d5] }
  | _ => none }
def FnExactChainOfWrongFalsely : Prop := fnExactChainOfRow.holds Try.pinned (OpenSpec.ofChange fnExactChainOfWrong)

/-- 'laws.FnExactKempeChange': WHATEVER THE INPUT: true; the input reads as it did. -/
def fnExactKempeChangeSpec : ChangeSpec := { name := "fnExactKempeChange", fn := fun _ => fun
  | [d1, d2, d3, d4, d5] => { results := [.lit (.bool true)], args := [d1, d2, d3, d4, d5] }
  | _ => none }
def fnExactKempeChangeRow : OpenClaim := { program := "ytcgeedklfejhbab", sum := "5b9969c7a4d8fd2083573820f62f38374d670f9680c158b2f1367d1570d78f95", func := "loop.example/g01128/laws.FnExactKempeChange", spec := "fnExactKempeChange", unfollowed := true, recurses := true, apart := false }
def FnExactKempeChangeSaid : Prop := fnExactKempeChangeRow.holds Try.pinned (OpenSpec.ofChange fnExactKempeChangeSpec)

/-- ITS FALSE NEIGHBOUR: 'it returns false'. Refute it at one input. -/
def fnExactKempeChangeWrong : ChangeSpec := { name := "fnExactKempeChange", fn := fun _ => fun
  | [d1, d2, d3, d4, d5] => { results := [.lit (.bool false)], args := [d1, d2, d3, d4, d5] }
  | _ => none }
def FnExactKempeChangeWrongFalsely : Prop := fnExactKempeChangeRow.holds Try.pinned (OpenSpec.ofChange fnExactKempeChangeWrong)

/-- 'laws.FnExactCutPlaces': WHATEVER THE INPUT: true; the input reads as it did. -/
def fnExactCutPlacesSpec : ChangeSpec := { name := "fnExactCutPlaces", fn := fun _ => fun
  | [d] => { results := [.lit (.bool true)], args := [d] }
  | _ => none }
def fnExactCutPlacesRow : OpenClaim := { program := "ytcgeedklfejhbab", sum := "5b9969c7a4d8fd2083573820f62f38374d670f9680c158b2f1367d1570d78f95", func := "loop.example/g01128/laws.FnExactCutPlaces", spec := "fnExactCutPlaces", unfollowed := true, recurses := true, apart := false }
def FnExactCutPlacesSaid : Prop := fnExactCutPlacesRow.holds Try.pinned (OpenSpec.ofChange fnExactCutPlacesSpec)

/-- ITS FALSE NEIGHBOUR: 'it returns false'. Refute it at one input. -/
def fnExactCutPlacesWrong : ChangeSpec := { name := "fnExactCutPlaces", fn := fun _ => fun
  | [d] => { results := [.lit (.bool false)], args := [d] }
  | _ => none }
def FnExactCutPlacesWrongFalsely : Prop := fnExactCutPlacesRow.holds Try.pinned (OpenSpec.ofChange fnExactCutPlacesWrong)

/- THE SECOND FORM. 'bulk': how many values and letters a reading holds, each counted each time it is reached (what is shared counts as often as it is met; a slice's spare places count too). A statement '..UptoSaid' is the law's where the arguments, and the package variables that the reading takes, are together of bulk at most 1048576: NARROWER than '..Said'. Prove '..Said' where nothing that the law and all that it calls make is longer than what came in: it says more and counts as full. Else prove '..UptoSaid'. A law counts once. -/
mutual
def uptoBulk {H : Type} : DataW H → Nat
  | .lit (.string bytes) => bytes.length + 1
  | .lit _ => 1
  | .nil => 1
  | .ptr d => uptoBulk d + 1
  | .slice elems spare => uptoBulkAll elems + uptoBulkAll spare + 1
  | .agg parts => uptoBulkAll parts + 1
  | .iface _ d => uptoBulk d + 1
  | .map entries => uptoBulkEntries entries + 1
  | .held _ => 1
def uptoBulkAll {H : Type} : List (DataW H) → Nat
  | [] => 0
  | d :: r => uptoBulk d + uptoBulkAll r
def uptoBulkEntries {H : Type} : List (Lit × DataW H) → Nat
  | [] => 0
  | x :: r => uptoBulkEntry x + uptoBulkEntries r
def uptoBulkEntry {H : Type} : Lit × DataW H → Nat
  | (.string bytes, d) => bytes.length + uptoBulk d + 1
  | (_, d) => uptoBulk d + 1
 end
def uptoSmall : (H : Type) → List (DataW H) → Bool := fun _ ds => decide (uptoBulkAll ds ≤ 1048576)
def OpenSpec.upto (s : _root_.Go.ChangeSpec) : _root_.Go.OpenSpec := { _root_.Go.OpenSpec.ofChange s with cond := some uptoSmall }

/-- 'laws.FnExactIsTree', WHERE WHAT IT READS IS OF BULK AT MOST 1048576: true; the input reads as it did. -/
def fnExactIsTreeUptoRow : OpenClaim := { program := "ytcgeedklfejhbab", sum := "5b9969c7a4d8fd2083573820f62f38374d670f9680c158b2f1367d1570d78f95", func := "loop.example/g01128/laws.FnExactIsTree", spec := "fnExactIsTree", unfollowed := true, recurses := true, apart := false, narrowed := true }
def FnExactIsTreeUptoSaid : Prop := fnExactIsTreeUptoRow.holds Try.pinned (OpenSpec.upto fnExactIsTreeSpec)

/-- 'laws.FnExactCutOf', WHERE WHAT IT READS IS OF BULK AT MOST 1048576: true; the input reads as it did. -/
def fnExactCutOfUptoRow : OpenClaim := { program := "ytcgeedklfejhbab", sum := "5b9969c7a4d8fd2083573820f62f38374d670f9680c158b2f1367d1570d78f95", func := "loop.example/g01128/laws.FnExactCutOf", spec := "fnExactCutOf", unfollowed := true, recurses := true, apart := false, narrowed := true }
def FnExactCutOfUptoSaid : Prop := fnExactCutOfUptoRow.holds Try.pinned (OpenSpec.upto fnExactCutOfSpec)

/-- 'laws.FnExactCircleOf', WHERE WHAT IT READS IS OF BULK AT MOST 1048576: true; the input reads as it did. -/
def fnExactCircleOfUptoRow : OpenClaim := { program := "ytcgeedklfejhbab", sum := "5b9969c7a4d8fd2083573820f62f38374d670f9680c158b2f1367d1570d78f95", func := "loop.example/g01128/laws.FnExactCircleOf", spec := "fnExactCircleOf", unfollowed := true, recurses := true, apart := false, narrowed := true }
def FnExactCircleOfUptoSaid : Prop := fnExactCircleOfUptoRow.holds Try.pinned (OpenSpec.upto fnExactCircleOfSpec)

/-- 'laws.FnExactLightTree', WHERE WHAT IT READS IS OF BULK AT MOST 1048576: true; the input reads as it did. -/
def fnExactLightTreeUptoRow : OpenClaim := { program := "ytcgeedklfejhbab", sum := "5b9969c7a4d8fd2083573820f62f38374d670f9680c158b2f1367d1570d78f95", func := "loop.example/g01128/laws.FnExactLightTree", spec := "fnExactLightTree", unfollowed := true, recurses := true, apart := false, narrowed := true }
def FnExactLightTreeUptoSaid : Prop := fnExactLightTreeUptoRow.holds Try.pinned (OpenSpec.upto fnExactLightTreeSpec)

/-- 'laws.FnExactTreeWalk', WHERE WHAT IT READS IS OF BULK AT MOST 1048576: true; the input reads as it did. -/
def fnExactTreeWalkUptoRow : OpenClaim := { program := "ytcgeedklfejhbab", sum := "5b9969c7a4d8fd2083573820f62f38374d670f9680c158b2f1367d1570d78f95", func := "loop.example/g01128/laws.FnExactTreeWalk", spec := "fnExactTreeWalk", unfollowed := true, recurses := true, apart := false, narrowed := true }
def FnExactTreeWalkUptoSaid : Prop := fnExactTreeWalkUptoRow.holds Try.pinned (OpenSpec.upto fnExactTreeWalkSpec)

/-- 'laws.FnExactCountTrees', WHERE WHAT IT READS IS OF BULK AT MOST 1048576: true; the input reads as it did. -/
def fnExactCountTreesUptoRow : OpenClaim := { program := "ytcgeedklfejhbab", sum := "5b9969c7a4d8fd2083573820f62f38374d670f9680c158b2f1367d1570d78f95", func := "loop.example/g01128/laws.FnExactCountTrees", spec := "fnExactCountTrees", apart := false, narrowed := true }
def FnExactCountTreesUptoSaid : Prop := fnExactCountTreesUptoRow.holds Try.pinned (OpenSpec.upto fnExactCountTreesSpec)

/-- 'laws.FnExactChainOf', WHERE WHAT IT READS IS OF BULK AT MOST 1048576: true; the input reads as it did. -/
def fnExactChainOfUptoRow : OpenClaim := { program := "ytcgeedklfejhbab", sum := "5b9969c7a4d8fd2083573820f62f38374d670f9680c158b2f1367d1570d78f95", func := "loop.example/g01128/laws.FnExactChainOf", spec := "fnExactChainOf", unfollowed := true, recurses := true, apart := false, narrowed := true }
def FnExactChainOfUptoSaid : Prop := fnExactChainOfUptoRow.holds Try.pinned (OpenSpec.upto fnExactChainOfSpec)

/-- 'laws.FnExactKempeChange', WHERE WHAT IT READS IS OF BULK AT MOST 1048576: true; the input reads as it did. -/
def fnExactKempeChangeUptoRow : OpenClaim := { program := "ytcgeedklfejhbab", sum := "5b9969c7a4d8fd2083573820f62f38374d670f9680c158b2f1367d1570d78f95", func := "loop.example/g01128/laws.FnExactKempeChange", spec := "fnExactKempeChange", unfollowed := true, recurses := true, apart := false, narrowed := true }
def FnExactKempeChangeUptoSaid : Prop := fnExactKempeChangeUptoRow.holds Try.pinned (OpenSpec.upto fnExactKempeChangeSpec)

/-- 'laws.FnExactCutPlaces', WHERE WHAT IT READS IS OF BULK AT MOST 1048576: true; the input reads as it did. -/
def fnExactCutPlacesUptoRow : OpenClaim := { program := "ytcgeedklfejhbab", sum := "5b9969c7a4d8fd2083573820f62f38374d670f9680c158b2f1367d1570d78f95", func := "loop.example/g01128/laws.FnExactCutPlaces", spec := "fnExactCutPlaces", unfollowed := true, recurses := true, apart := false, narrowed := true }
def FnExactCutPlacesUptoSaid : Prop := fnExactCutPlacesUptoRow.holds Try.pinned (OpenSpec.upto fnExactCutPlacesSpec)

end Rows
end Go.Proofs.Ytcgeedklfejhbab

/-
  No cell of these rows narrows 'for every input' (looked for: loops, veiled, ifaces, maps, wideKeys, modest, calm, conditions, laid).
  DERIVED. THE GIVEN ROWS OF THIS SEAT. 12 by the template 'for every input the law returns true; each argument reads behind the call as it read before'; 0 by the template 'total and deterministic' (their statements: YtibiacfhlbglnaaTotals.lean).
  GIVEN WITH THE SEED: the statements are not yours to turn. If you find one false, say at which input.
  Laid BY PROGRAM, IN A SANDBOX (cutbox-rows.mjs): the forced cells as the released guide's own fill.sh prints them over the translation 98b643631e79391c… (all of the seat's roots in one cut). By AI agents, Wed Nov 11 2026. No macro, syntax, notation, axiom, sorry.
-/
import Derived.Test.YtibiacfhlbglnaaChecked
import GoSem.Claim
import GoSem.ClaimJoined
import GoSem.ClaimMapViews
import Derived.JoinedTies
import Derived.KernelRfl
namespace Go.Proofs.Ytibiacfhlbglnaa
/- THE CELL 'sum', in the pinned program and in every row, IS THE sha256 OF THE DUMP (.gsa) THAT YtibiacfhlbglnaaProg.lean LOADS. Nothing in Lean hashes anything: it is a label: what it is worth is what the hold of that sum in a sandbox is worth. -/
noncomputable def Try.pinned : Pinned := { name := "ytibiacfhlbglnaa", sum := "98b643631e79391cd48bc8702fc96d7939497f524351c4a09e25545c4751a556", checked := Try.checked }
namespace Rows
def none {H : Type} : Left H := { results := [], args := [] }

/-- 'laws.FnExactFirstWay': WHATEVER THE INPUT: true; the input reads as it did. -/
def fnExactFirstWaySpec : ChangeSpec := { name := "fnExactFirstWay", fn := fun _ => fun
  | [d1, d2, d3] => { results := [.lit (.bool true)], args := [d1, d2, d3] }
  | _ => none }
def fnExactFirstWayRow : OpenClaim := { program := "ytibiacfhlbglnaa", sum := "98b643631e79391cd48bc8702fc96d7939497f524351c4a09e25545c4751a556", func := "loop.example/g01128/laws.FnExactFirstWay", spec := "fnExactFirstWay", unfollowed := true, recurses := true, plainKeys := false, apart := false }
def FnExactFirstWaySaid : Prop := fnExactFirstWayRow.holds Try.pinned (OpenSpec.ofChange fnExactFirstWaySpec)

/-- ITS FALSE NEIGHBOUR: 'it returns false'. Refute it at one input. -/
def fnExactFirstWayWrong : ChangeSpec := { name := "fnExactFirstWay", fn := fun _ => fun
  | [d1, d2, d3] => { results := [.lit (.bool false)], args := [d1, d2, d3] }
  | _ => none }
def FnExactFirstWayWrongFalsely : Prop := fnExactFirstWayRow.holds Try.pinned (OpenSpec.ofChange fnExactFirstWayWrong)

/-- 'laws.FnExactPartLabels': WHATEVER THE INPUT: true; the input reads as it did. -/
def fnExactPartLabelsSpec : ChangeSpec := { name := "fnExactPartLabels", fn := fun _ => fun
  | [d] => { results := [.lit (.bool true)], args := [d] }
  | _ => none }
def fnExactPartLabelsRow : OpenClaim := { program := "ytibiacfhlbglnaa", sum := "98b643631e79391cd48bc8702fc96d7939497f524351c4a09e25545c4751a556", func := "loop.example/g01128/laws.FnExactPartLabels", spec := "fnExactPartLabels", unfollowed := true, recurses := true, plainKeys := false, apart := false }
def FnExactPartLabelsSaid : Prop := fnExactPartLabelsRow.holds Try.pinned (OpenSpec.ofChange fnExactPartLabelsSpec)

/-- ITS FALSE NEIGHBOUR: 'it returns false'. Refute it at one input. -/
def fnExactPartLabelsWrong : ChangeSpec := { name := "fnExactPartLabels", fn := fun _ => fun
  | [d] => { results := [.lit (.bool false)], args := [d] }
  | _ => none }
def FnExactPartLabelsWrongFalsely : Prop := fnExactPartLabelsRow.holds Try.pinned (OpenSpec.ofChange fnExactPartLabelsWrong)

/-- 'laws.FnExactParityOf': WHATEVER THE INPUT: true; the input reads as it did. -/
def fnExactParityOfSpec : ChangeSpec := { name := "fnExactParityOf", fn := fun _ => fun
  | [d] => { results := [.lit (.bool true)], args := [d] }
  | _ => none }
def fnExactParityOfRow : OpenClaim := { program := "ytibiacfhlbglnaa", sum := "98b643631e79391cd48bc8702fc96d7939497f524351c4a09e25545c4751a556", func := "loop.example/g01128/laws.FnExactParityOf", spec := "fnExactParityOf", unfollowed := true, recurses := true, plainKeys := false, apart := false }
def FnExactParityOfSaid : Prop := fnExactParityOfRow.holds Try.pinned (OpenSpec.ofChange fnExactParityOfSpec)

/-- ITS FALSE NEIGHBOUR: 'it returns false'. Refute it at one input. -/
def fnExactParityOfWrong : ChangeSpec := { name := "fnExactParityOf", fn := fun _ => fun
  | [d] => { results := [.lit (.bool false)], args := [d] }
  | _ => none }
def FnExactParityOfWrongFalsely : Prop := fnExactParityOfRow.holds Try.pinned (OpenSpec.ofChange fnExactParityOfWrong)

/-- 'laws.FnExactCutPlaces': WHATEVER THE INPUT: true; the input reads as it did. -/
def fnExactCutPlacesSpec : ChangeSpec := { name := "fnExactCutPlaces", fn := fun _ => fun
  | [d] => { results := [.lit (.bool true)], args := [d] }
  | _ => none }
def fnExactCutPlacesRow : OpenClaim := { program := "ytibiacfhlbglnaa", sum := "98b643631e79391cd48bc8702fc96d7939497f524351c4a09e25545c4751a556", func := "loop.example/g01128/laws.FnExactCutPlaces", spec := "fnExactCutPlaces", unfollowed := true, recurses := true, plainKeys := false, apart := false }
def FnExactCutPlacesSaid : Prop := fnExactCutPlacesRow.holds Try.pinned (OpenSpec.ofChange fnExactCutPlacesSpec)

/-- ITS FALSE NEIGHBOUR: 'it returns false'. Refute it at one input. -/
def fnExactCutPlacesWrong : ChangeSpec := { name := "fnExactCutPlaces", fn := fun _ => fun
  | [d] => { results := [.lit (.bool false)], args := [d] }
  | _ => none }
def FnExactCutPlacesWrongFalsely : Prop := fnExactCutPlacesRow.holds Try.pinned (OpenSpec.ofChange fnExactCutPlacesWrong)

/-- 'laws.FnExactPartsOf': WHATEVER THE INPUT: true; the input reads as it did. -/
def fnExactPartsOfSpec : ChangeSpec := { name := "fnExactPartsOf", fn := fun _ => fun
  | [d] => { results := [.lit (.bool true)], args := [d] }
  | _ => none }
def fnExactPartsOfRow : OpenClaim := { program := "ytibiacfhlbglnaa", sum := "98b643631e79391cd48bc8702fc96d7939497f524351c4a09e25545c4751a556", func := "loop.example/g01128/laws.FnExactPartsOf", spec := "fnExactPartsOf", unfollowed := true, recurses := true, plainKeys := false, apart := false }
def FnExactPartsOfSaid : Prop := fnExactPartsOfRow.holds Try.pinned (OpenSpec.ofChange fnExactPartsOfSpec)

/-- ITS FALSE NEIGHBOUR: 'it returns false'. Refute it at one input. -/
def fnExactPartsOfWrong : ChangeSpec := { name := "fnExactPartsOf", fn := fun _ => fun
  | [d] => { results := [.lit (.bool false)], args := [d] }
  | _ => none }
def FnExactPartsOfWrongFalsely : Prop := fnExactPartsOfRow.holds Try.pinned (OpenSpec.ofChange fnExactPartsOfWrong)

/-- 'laws.FnExactCountShortest': WHATEVER THE INPUT: true; the input reads as it did. -/
def fnExactCountShortestSpec : ChangeSpec := { name := "fnExactCountShortest", fn := fun _ => fun
  | [d1, d2, d3] => { results := [.lit (.bool true)], args := [d1, d2, d3] }
  | _ => none }
def fnExactCountShortestRow : OpenClaim := { program := "ytibiacfhlbglnaa", sum := "98b643631e79391cd48bc8702fc96d7939497f524351c4a09e25545c4751a556", func := "loop.example/g01128/laws.FnExactCountShortest", spec := "fnExactCountShortest", unfollowed := true, recurses := true, plainKeys := false, apart := false }
def FnExactCountShortestSaid : Prop := fnExactCountShortestRow.holds Try.pinned (OpenSpec.ofChange fnExactCountShortestSpec)

/-- ITS FALSE NEIGHBOUR: 'it returns false'. Refute it at one input. -/
def fnExactCountShortestWrong : ChangeSpec := { name := "fnExactCountShortest", fn := fun _ => fun
  | [d1, d2, d3] => { results := [.lit (.bool false)], args := [d1, d2, d3] }
  | _ => none }
def FnExactCountShortestWrongFalsely : Prop := fnExactCountShortestRow.holds Try.pinned (OpenSpec.ofChange fnExactCountShortestWrong)

/-- 'laws.FnExactPeelingOf': WHATEVER THE INPUT: true; the input reads as it did. -/
def fnExactPeelingOfSpec : ChangeSpec := { name := "fnExactPeelingOf", fn := fun _ => fun
  | [d] => { results := [.lit (.bool true)], args := [d] }
  | _ => none }
def fnExactPeelingOfRow : OpenClaim := { program := "ytibiacfhlbglnaa", sum := "98b643631e79391cd48bc8702fc96d7939497f524351c4a09e25545c4751a556", func := "loop.example/g01128/laws.FnExactPeelingOf", spec := "fnExactPeelingOf", plainKeys := false, apart := false }
def FnExactPeelingOfSaid : Prop := fnExactPeelingOfRow.holds Try.pinned (OpenSpec.ofChange fnExactPeelingOfSpec)

/-- ITS FALSE NEIGHBOUR: 'it returns false'. Refute it at one input. -/
def fnExactPeelingOfWrong : ChangeSpec := { name := "fnExactPeelingOf", fn := fun _ => fun
  | [d] => { results := [.lit (.bool false)], args := [d] }
  | _ => none }
def FnExactPeelingOfWrongFalsely : Prop := fnExactPeelingOfRow.holds Try.pinned (OpenSpec.ofChange fnExactPeelingOfWrong)

/-- 'laws.FnExactCliqueGraph': WHATEVER THE INPUT: true; the input reads as it did. -/
def fnExactCliqueGraphSpec : ChangeSpec := { name := "fnExactCliqueGraph", fn := fun _ => fun
  | [d] => { results := [.lit (.bool true)], args := [d] }
  | _ => none }
def fnExactCliqueGraphRow : OpenClaim := { program := "ytibiacfhlbglnaa", sum := "98b643631e79391cd48bc8702fc96d7939497f524351c4a09e25545c4751a556", func := "loop.example/g01128/laws.FnExactCliqueGraph", spec := "fnExactCliqueGraph", plainKeys := false, apart := false }
def FnExactCliqueGraphSaid : Prop := fnExactCliqueGraphRow.holds Try.pinned (OpenSpec.ofChange fnExactCliqueGraphSpec)

/-- ITS FALSE NEIGHBOUR: 'it returns false'. Refute it at one input. -/
def fnExactCliqueGraphWrong : ChangeSpec := { name := "fnExactCliqueGraph", fn := fun _ => fun
  | [d] => { results := [.lit (.bool false)], args := [d] }
  | _ => none }
def FnExactCliqueGraphWrongFalsely : Prop := fnExactCliqueGraphRow.holds Try.pinned (OpenSpec.ofChange fnExactCliqueGraphWrong)

/-- 'laws.FnExactIsWay': WHATEVER THE INPUT: true; the input reads as it did. -/
def fnExactIsWaySpec : ChangeSpec := { name := "fnExactIsWay", fn := fun _ => fun
  | [d1, d2] => { results := [.lit (.bool true)], args := [d1, d2] }
  | _ => none }
def fnExactIsWayRow : OpenClaim := { program := "ytibiacfhlbglnaa", sum := "98b643631e79391cd48bc8702fc96d7939497f524351c4a09e25545c4751a556", func := "loop.example/g01128/laws.FnExactIsWay", spec := "fnExactIsWay", unfollowed := true, recurses := true, plainKeys := false, apart := false }
def FnExactIsWaySaid : Prop := fnExactIsWayRow.holds Try.pinned (OpenSpec.ofChange fnExactIsWaySpec)

/-- ITS FALSE NEIGHBOUR: 'it returns false'. Refute it at one input. -/
def fnExactIsWayWrong : ChangeSpec := { name := "fnExactIsWay", fn := fun _ => fun
  | [d1, d2] => { results := [.lit (.bool false)], args := [d1, d2] }
  | _ => none }
def FnExactIsWayWrongFalsely : Prop := fnExactIsWayRow.holds Try.pinned (OpenSpec.ofChange fnExactIsWayWrong)

/-- 'laws.FnExactGreedyColours': WHATEVER THE INPUT: true; the input reads as it did. -/
def fnExactGreedyColoursSpec : ChangeSpec := { name := "fnExactGreedyColours", fn := fun _ => fun
  | [d1, d2] => { results := [.lit (.bool true)], args := [d1, d2] }
  | _ => none }
def fnExactGreedyColoursRow : OpenClaim := { program := "ytibiacfhlbglnaa", sum := "98b643631e79391cd48bc8702fc96d7939497f524351c4a09e25545c4751a556", func := "loop.example/g01128/laws.FnExactGreedyColours", spec := "fnExactGreedyColours", unfollowed := true, recurses := true, plainKeys := false, apart := false }
def FnExactGreedyColoursSaid : Prop := fnExactGreedyColoursRow.holds Try.pinned (OpenSpec.ofChange fnExactGreedyColoursSpec)

/-- ITS FALSE NEIGHBOUR: 'it returns false'. Refute it at one input. -/
def fnExactGreedyColoursWrong : ChangeSpec := { name := "fnExactGreedyColours", fn := fun _ => fun
  | [d1, d2] => { results := [.lit (.bool false)], args := [d1, d2] }
  | _ => none }
def FnExactGreedyColoursWrongFalsely : Prop := fnExactGreedyColoursRow.holds Try.pinned (OpenSpec.ofChange fnExactGreedyColoursWrong)

/-- 'laws.FnExactIsColouring': WHATEVER THE INPUT: true; the input reads as it did. -/
def fnExactIsColouringSpec : ChangeSpec := { name := "fnExactIsColouring", fn := fun _ => fun
  | [d1, d2, d3] => { results := [.lit (.bool true)], args := [d1, d2, d3] }
  | _ => none }
def fnExactIsColouringRow : OpenClaim := { program := "ytibiacfhlbglnaa", sum := "98b643631e79391cd48bc8702fc96d7939497f524351c4a09e25545c4751a556", func := "loop.example/g01128/laws.FnExactIsColouring", spec := "fnExactIsColouring", unfollowed := true, recurses := true, plainKeys := false, apart := false }
def FnExactIsColouringSaid : Prop := fnExactIsColouringRow.holds Try.pinned (OpenSpec.ofChange fnExactIsColouringSpec)

/-- ITS FALSE NEIGHBOUR: 'it returns false'. Refute it at one input. -/
def fnExactIsColouringWrong : ChangeSpec := { name := "fnExactIsColouring", fn := fun _ => fun
  | [d1, d2, d3] => { results := [.lit (.bool false)], args := [d1, d2, d3] }
  | _ => none }
def FnExactIsColouringWrongFalsely : Prop := fnExactIsColouringRow.holds Try.pinned (OpenSpec.ofChange fnExactIsColouringWrong)

/-- 'laws.FnExactRenameColours': WHATEVER THE INPUT: true; the input reads as it did. -/
def fnExactRenameColoursSpec : ChangeSpec := { name := "fnExactRenameColours", fn := fun _ => fun
  | [d1, d2, d3, d4] => { results := [.lit (.bool true)], args := [d1, d2, d3, d4] }
  | _ => none }
def fnExactRenameColoursRow : OpenClaim := { program := "ytibiacfhlbglnaa", sum := "98b643631e79391cd48bc8702fc96d7939497f524351c4a09e25545c4751a556", func := "loop.example/g01128/laws.FnExactRenameColours", spec := "fnExactRenameColours", unfollowed := true, recurses := true, plainKeys := false, apart := false }
def FnExactRenameColoursSaid : Prop := fnExactRenameColoursRow.holds Try.pinned (OpenSpec.ofChange fnExactRenameColoursSpec)

/-- ITS FALSE NEIGHBOUR: 'it returns false'. Refute it at one input. -/
def fnExactRenameColoursWrong : ChangeSpec := { name := "fnExactRenameColours", fn := fun _ => fun
  | [d1, d2, d3, d4] => { results := [.lit (.bool false)], args := [d1, d2, d3, d4] }
  | _ => none }
def FnExactRenameColoursWrongFalsely : Prop := fnExactRenameColoursRow.holds Try.pinned (OpenSpec.ofChange fnExactRenameColoursWrong)

/- THE SECOND FORM. 'bulk': how many values and letters a reading holds, each counted each time it is reached (what is shared counts as often as it is met; a slice's spare places count too). A statement '..UptoSaid' is the law's where the arguments, and the package variables that the reading takes, are together of bulk at most 1048576: NARROWER than '..Said'. Prove '..Said' where nothing that the law and all that it calls make is longer than what came in: it says more and counts as full. Else prove '..UptoSaid'. A law counts once. -/
mutual
def uptoBulk {H : Type} : DataW H → Nat
  | .lit (.string bytes) => bytes.length + 1
  | .lit _ => 1
  | .nil => 1
  | .ptr d => uptoBulk d + 1
  | .slice elems spare => uptoBulkAll elems + uptoBulkAll spare + 1
  | .agg parts => uptoBulkAll parts + 1
  | .iface _ d => uptoBulk d + 1
  | .map entries => uptoBulkEntries entries + 1
  | .held _ => 1
def uptoBulkAll {H : Type} : List (DataW H) → Nat
  | [] => 0
  | d :: r => uptoBulk d + uptoBulkAll r
def uptoBulkEntries {H : Type} : List (Lit × DataW H) → Nat
  | [] => 0
  | x :: r => uptoBulkEntry x + uptoBulkEntries r
def uptoBulkEntry {H : Type} : Lit × DataW H → Nat
  | (.string bytes, d) => bytes.length + uptoBulk d + 1
  | (_, d) => uptoBulk d + 1
 end
def uptoSmall : (H : Type) → List (DataW H) → Bool := fun _ ds => decide (uptoBulkAll ds ≤ 1048576)
def OpenSpec.upto (s : _root_.Go.ChangeSpec) : _root_.Go.OpenSpec := { _root_.Go.OpenSpec.ofChange s with cond := some uptoSmall }

/-- 'laws.FnExactFirstWay', WHERE WHAT IT READS IS OF BULK AT MOST 1048576: true; the input reads as it did. -/
def fnExactFirstWayUptoRow : OpenClaim := { program := "ytibiacfhlbglnaa", sum := "98b643631e79391cd48bc8702fc96d7939497f524351c4a09e25545c4751a556", func := "loop.example/g01128/laws.FnExactFirstWay", spec := "fnExactFirstWay", unfollowed := true, recurses := true, plainKeys := false, apart := false, narrowed := true }
def FnExactFirstWayUptoSaid : Prop := fnExactFirstWayUptoRow.holds Try.pinned (OpenSpec.upto fnExactFirstWaySpec)

/-- 'laws.FnExactPartLabels', WHERE WHAT IT READS IS OF BULK AT MOST 1048576: true; the input reads as it did. -/
def fnExactPartLabelsUptoRow : OpenClaim := { program := "ytibiacfhlbglnaa", sum := "98b643631e79391cd48bc8702fc96d7939497f524351c4a09e25545c4751a556", func := "loop.example/g01128/laws.FnExactPartLabels", spec := "fnExactPartLabels", unfollowed := true, recurses := true, plainKeys := false, apart := false, narrowed := true }
def FnExactPartLabelsUptoSaid : Prop := fnExactPartLabelsUptoRow.holds Try.pinned (OpenSpec.upto fnExactPartLabelsSpec)

/-- 'laws.FnExactParityOf', WHERE WHAT IT READS IS OF BULK AT MOST 1048576: true; the input reads as it did. -/
def fnExactParityOfUptoRow : OpenClaim := { program := "ytibiacfhlbglnaa", sum := "98b643631e79391cd48bc8702fc96d7939497f524351c4a09e25545c4751a556", func := "loop.example/g01128/laws.FnExactParityOf", spec := "fnExactParityOf", unfollowed := true, recurses := true, plainKeys := false, apart := false, narrowed := true }
def FnExactParityOfUptoSaid : Prop := fnExactParityOfUptoRow.holds Try.pinned (OpenSpec.upto fnExactParityOfSpec)

/-- 'laws.FnExactCutPlaces', WHERE WHAT IT READS IS OF BULK AT MOST 1048576: true; the input reads as it did. -/
def fnExactCutPlacesUptoRow : OpenClaim := { program := "ytibiacfhlbglnaa", sum := "98b643631e79391cd48bc8702fc96d7939497f524351c4a09e25545c4751a556", func := "loop.example/g01128/laws.FnExactCutPlaces", spec := "fnExactCutPlaces", unfollowed := true, recurses := true, plainKeys := false, apart := false, narrowed := true }
def FnExactCutPlacesUptoSaid : Prop := fnExactCutPlacesUptoRow.holds Try.pinned (OpenSpec.upto fnExactCutPlacesSpec)

/-- 'laws.FnExactPartsOf', WHERE WHAT IT READS IS OF BULK AT MOST 1048576: true; the input reads as it did. -/
def fnExactPartsOfUptoRow : OpenClaim := { program := "ytibiacfhlbglnaa", sum := "98b643631e79391cd48bc8702fc96d7939497f524351c4a09e25545c4751a556", func := "loop.example/g01128/laws.FnExactPartsOf", spec := "fnExactPartsOf", unfollowed := true, recurses := true, plainKeys := false, apart := false, narrowed := true }
def FnExactPartsOfUptoSaid : Prop := fnExactPartsOfUptoRow.holds Try.pinned (OpenSpec.upto fnExactPartsOfSpec)

/-- 'laws.FnExactCountShortest', WHERE WHAT IT READS IS OF BULK AT MOST 1048576: true; the input reads as it did. -/
def fnExactCountShortestUptoRow : OpenClaim := { program := "ytibiacfhlbglnaa", sum := "98b643631e79391cd48bc8702fc96d7939497f524351c4a09e25545c4751a556", func := "loop.example/g01128/laws.FnExactCountShortest", spec := "fnExactCountShortest", unfollowed := true, recurses := true, plainKeys := false, apart := false, narrowed := true }
def FnExactCountShortestUptoSaid : Prop := fnExactCountShortestUptoRow.holds Try.pinned (OpenSpec.upto fnExactCountShortestSpec)

/-- 'laws.FnExactPeelingOf', WHERE WHAT IT READS IS OF BULK AT MOST 1048576: true; the input reads as it did. -/
def fnExactPeelingOfUptoRow : OpenClaim := { program := "ytibiacfhlbglnaa", sum := "98b643631e79391cd48bc8702fc96d7939497f524351c4a09e25545c4751a556", func := "loop.example/g01128/laws.FnExactPeelingOf", spec := "fnExactPeelingOf", plainKeys := false, apart := false, narrowed := true }
def FnExactPeelingOfUptoSaid : Prop := fnExactPeelingOfUptoRow.holds Try.pinned (OpenSpec.upto fnExactPeelingOfSpec)

/-- 'laws.FnExactCliqueGraph', WHERE WHAT IT READS IS OF BULK AT MOST 1048576: true; the input reads as it did. -/
def fnExactCliqueGraphUptoRow : OpenClaim := { program := "ytibiacfhlbglnaa", sum := "98b643631e79391cd48bc8702fc96d7939497f524351c4a09e25545c4751a556", func := "loop.example/g01128/laws.FnExactCliqueGraph", spec := "fnExactCliqueGraph", plainKeys := false, apart := false, narrowed := true }
def FnExactCliqueGraphUptoSaid : Prop := fnExactCliqueGraphUptoRow.holds Try.pinned (OpenSpec.upto fnExactCliqueGraphSpec)

/-- 'laws.FnExactIsWay', WHERE WHAT IT READS IS OF BULK AT MOST 1048576: true; the input reads as it did. -/
def fnExactIsWayUptoRow : OpenClaim := { program := "ytibiacfhlbglnaa", sum := "98b643631e79391cd48bc8702fc96d7939497f524351c4a09e25545c4751a556", func := "loop.example/g01128/laws.FnExactIsWay", spec := "fnExactIsWay", unfollowed := true, recurses := true, plainKeys := false, apart := false, narrowed := true }
def FnExactIsWayUptoSaid : Prop := fnExactIsWayUptoRow.holds Try.pinned (OpenSpec.upto fnExactIsWaySpec)

/-- 'laws.FnExactGreedyColours', WHERE WHAT IT READS IS OF BULK AT MOST 1048576: true; the input reads as it did. -/
def fnExactGreedyColoursUptoRow : OpenClaim := { program := "ytibiacfhlbglnaa", sum := "98b643631e79391cd48bc8702fc96d7939497f524351c4a09e25545c4751a556", func := "loop.example/g01128/laws.FnExactGreedyColours", spec := "fnExactGreedyColours", unfollowed := true, recurses := true, plainKeys := false, apart := false, narrowed := true }
def FnExactGreedyColoursUptoSaid : Prop := fnExactGreedyColoursUptoRow.holds Try.pinned (OpenSpec.upto fnExactGreedyColoursSpec)

/-- 'laws.FnExactIsColouring', WHERE WHAT IT READS IS OF BULK AT MOST 1048576: true; the input reads as it did. -/
def fnExactIsColouringUptoRow : OpenClaim := { program := "ytibiacfhlbglnaa", sum := "98b643631e79391cd48bc8702fc96d7939497f524351c4a09e25545c4751a556", func := "loop.example/g01128/laws.FnExactIsColouring", spec := "fnExactIsColouring", unfollowed := true, recurses := true, plainKeys := false, apart := false, narrowed := true }
def FnExactIsColouringUptoSaid : Prop := fnExactIsColouringUptoRow.holds Try.pinned (OpenSpec.upto fnExactIsColouringSpec)

/-- 'laws.FnExactRenameColours', WHERE WHAT IT READS IS OF BULK AT MOST 1048576: true; the input reads as it did. -/
def fnExactRenameColoursUptoRow : OpenClaim := { program := "ytibiacfhlbglnaa", sum := "98b643631e79391cd48bc8702fc96d7939497f524351c4a09e25545c4751a556", func := "loop.example/g01128/laws.FnExactRenameColours", spec := "fnExactRenameColours", unfollowed := true, recurses := true, plainKeys := false, apart := false, narrowed := true }
def FnExactRenameColoursUptoSaid : Prop := fnExactRenameColoursUptoRow.holds Try.pinned (OpenSpec.upto fnExactRenameColoursSpec)

end Rows
end Go.Proofs.Ytibiacfhlbglnaa

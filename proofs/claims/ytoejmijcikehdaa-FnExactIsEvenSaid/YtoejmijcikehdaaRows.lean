/-
  No cell of these rows narrows 'for every input' (looked for: loops, veiled, ifaces, maps, wideKeys, modest, calm, conditions, laid).
  DERIVED. THE GIVEN ROWS OF THIS SEAT. 10 by the template 'for every input the law returns true; each argument reads behind the call as it read before'; 0 by the template 'total and deterministic' (their statements: YtoejmijcikehdaaTotals.lean).
  GIVEN WITH THE SEED: the statements are not yours to turn. If you find one false, say at which input.
  Laid BY PROGRAM, IN A SANDBOX (cutbox-rows.mjs): the forced cells as the released guide's own fill.sh prints them over the translation 7d836a56e2dec68e… (all of the seat's roots in one cut). By AI agents, Wed Nov 11 2026. No macro, syntax, notation, axiom, sorry.
-/
import Derived.Test.YtoejmijcikehdaaChecked
import GoSem.Claim
import GoSem.ClaimJoined
import GoSem.ClaimMapViews
import Derived.JoinedTies
import Derived.KernelRfl
namespace Go.Proofs.Ytoejmijcikehdaa
/- THE CELL 'sum', in the pinned program and in every row, IS THE sha256 OF THE DUMP (.gsa) THAT YtoejmijcikehdaaProg.lean LOADS. Nothing in Lean hashes anything: it is a label: what it is worth is what the hold of that sum in a sandbox is worth. -/
noncomputable def Try.pinned : Pinned := { name := "ytoejmijcikehdaa", sum := "7d836a56e2dec68ea17cc7d73d519b3f732b668a64b572c26c7dc07a249d478a", checked := Try.checked }
namespace Rows
def none {H : Type} : Left H := { results := [], args := [] }

/-- 'laws.FnExactIsPermutation': WHATEVER THE INPUT: true; the input reads as it did. -/
def fnExactIsPermutationSpec : ChangeSpec := { name := "fnExactIsPermutation", fn := fun _ => fun
  | [d] => { results := [.lit (.bool true)], args := [d] }
  | _ => none }
def fnExactIsPermutationRow : OpenClaim := { program := "ytoejmijcikehdaa", sum := "7d836a56e2dec68ea17cc7d73d519b3f732b668a64b572c26c7dc07a249d478a", func := "loop.example/g01128/laws.FnExactIsPermutation", spec := "fnExactIsPermutation", apart := false }
def FnExactIsPermutationSaid : Prop := fnExactIsPermutationRow.holds Try.pinned (OpenSpec.ofChange fnExactIsPermutationSpec)

/-- ITS FALSE NEIGHBOUR: 'it returns false'. Refute it at one input. -/
def fnExactIsPermutationWrong : ChangeSpec := { name := "fnExactIsPermutation", fn := fun _ => fun
  | [d] => { results := [.lit (.bool false)], args := [d] }
  | _ => none }
def FnExactIsPermutationWrongFalsely : Prop := fnExactIsPermutationRow.holds Try.pinned (OpenSpec.ofChange fnExactIsPermutationWrong)

/-- 'laws.FnExactInversionCount': WHATEVER THE INPUT: true; the input reads as it did. -/
def fnExactInversionCountSpec : ChangeSpec := { name := "fnExactInversionCount", fn := fun _ => fun
  | [d] => { results := [.lit (.bool true)], args := [d] }
  | _ => none }
def fnExactInversionCountRow : OpenClaim := { program := "ytoejmijcikehdaa", sum := "7d836a56e2dec68ea17cc7d73d519b3f732b668a64b572c26c7dc07a249d478a", func := "loop.example/g01128/laws.FnExactInversionCount", spec := "fnExactInversionCount", apart := false }
def FnExactInversionCountSaid : Prop := fnExactInversionCountRow.holds Try.pinned (OpenSpec.ofChange fnExactInversionCountSpec)

/-- ITS FALSE NEIGHBOUR: 'it returns false'. Refute it at one input. -/
def fnExactInversionCountWrong : ChangeSpec := { name := "fnExactInversionCount", fn := fun _ => fun
  | [d] => { results := [.lit (.bool false)], args := [d] }
  | _ => none }
def FnExactInversionCountWrongFalsely : Prop := fnExactInversionCountRow.holds Try.pinned (OpenSpec.ofChange fnExactInversionCountWrong)

/-- 'laws.FnExactSwapCount': WHATEVER THE INPUT: true; the input reads as it did. -/
def fnExactSwapCountSpec : ChangeSpec := { name := "fnExactSwapCount", fn := fun _ => fun
  | [d] => { results := [.lit (.bool true)], args := [d] }
  | _ => none }
def fnExactSwapCountRow : OpenClaim := { program := "ytoejmijcikehdaa", sum := "7d836a56e2dec68ea17cc7d73d519b3f732b668a64b572c26c7dc07a249d478a", func := "loop.example/g01128/laws.FnExactSwapCount", spec := "fnExactSwapCount", apart := false }
def FnExactSwapCountSaid : Prop := fnExactSwapCountRow.holds Try.pinned (OpenSpec.ofChange fnExactSwapCountSpec)

/-- ITS FALSE NEIGHBOUR: 'it returns false'. Refute it at one input. -/
def fnExactSwapCountWrong : ChangeSpec := { name := "fnExactSwapCount", fn := fun _ => fun
  | [d] => { results := [.lit (.bool false)], args := [d] }
  | _ => none }
def FnExactSwapCountWrongFalsely : Prop := fnExactSwapCountRow.holds Try.pinned (OpenSpec.ofChange fnExactSwapCountWrong)

/-- 'laws.FnExactCyclesOf': WHATEVER THE INPUT: true; the input reads as it did. -/
def fnExactCyclesOfSpec : ChangeSpec := { name := "fnExactCyclesOf", fn := fun _ => fun
  | [d] => { results := [.lit (.bool true)], args := [d] }
  | _ => none }
def fnExactCyclesOfRow : OpenClaim := { program := "ytoejmijcikehdaa", sum := "7d836a56e2dec68ea17cc7d73d519b3f732b668a64b572c26c7dc07a249d478a", func := "loop.example/g01128/laws.FnExactCyclesOf", spec := "fnExactCyclesOf", apart := false }
def FnExactCyclesOfSaid : Prop := fnExactCyclesOfRow.holds Try.pinned (OpenSpec.ofChange fnExactCyclesOfSpec)

/-- ITS FALSE NEIGHBOUR: 'it returns false'. Refute it at one input. -/
def fnExactCyclesOfWrong : ChangeSpec := { name := "fnExactCyclesOf", fn := fun _ => fun
  | [d] => { results := [.lit (.bool false)], args := [d] }
  | _ => none }
def FnExactCyclesOfWrongFalsely : Prop := fnExactCyclesOfRow.holds Try.pinned (OpenSpec.ofChange fnExactCyclesOfWrong)

/-- 'laws.FnExactSortSwaps': WHATEVER THE INPUT: true; the input reads as it did. -/
def fnExactSortSwapsSpec : ChangeSpec := { name := "fnExactSortSwaps", fn := fun _ => fun
  | [d] => { results := [.lit (.bool true)], args := [d] }
  | _ => none }
def fnExactSortSwapsRow : OpenClaim := { program := "ytoejmijcikehdaa", sum := "7d836a56e2dec68ea17cc7d73d519b3f732b668a64b572c26c7dc07a249d478a", func := "loop.example/g01128/laws.FnExactSortSwaps", spec := "fnExactSortSwaps", apart := false }
def FnExactSortSwapsSaid : Prop := fnExactSortSwapsRow.holds Try.pinned (OpenSpec.ofChange fnExactSortSwapsSpec)

/-- ITS FALSE NEIGHBOUR: 'it returns false'. Refute it at one input. -/
def fnExactSortSwapsWrong : ChangeSpec := { name := "fnExactSortSwaps", fn := fun _ => fun
  | [d] => { results := [.lit (.bool false)], args := [d] }
  | _ => none }
def FnExactSortSwapsWrongFalsely : Prop := fnExactSortSwapsRow.holds Try.pinned (OpenSpec.ofChange fnExactSortSwapsWrong)

/-- 'laws.FnExactSwapPlaces': WHATEVER THE INPUT: true; the input reads as it did. -/
def fnExactSwapPlacesSpec : ChangeSpec := { name := "fnExactSwapPlaces", fn := fun _ => fun
  | [d1, d2] => { results := [.lit (.bool true)], args := [d1, d2] }
  | _ => none }
def fnExactSwapPlacesRow : OpenClaim := { program := "ytoejmijcikehdaa", sum := "7d836a56e2dec68ea17cc7d73d519b3f732b668a64b572c26c7dc07a249d478a", func := "loop.example/g01128/laws.FnExactSwapPlaces", spec := "fnExactSwapPlaces", apart := false }
def FnExactSwapPlacesSaid : Prop := fnExactSwapPlacesRow.holds Try.pinned (OpenSpec.ofChange fnExactSwapPlacesSpec)

/-- ITS FALSE NEIGHBOUR: 'it returns false'. Refute it at one input. -/
def fnExactSwapPlacesWrong : ChangeSpec := { name := "fnExactSwapPlaces", fn := fun _ => fun
  | [d1, d2] => { results := [.lit (.bool false)], args := [d1, d2] }
  | _ => none }
def FnExactSwapPlacesWrongFalsely : Prop := fnExactSwapPlacesRow.holds Try.pinned (OpenSpec.ofChange fnExactSwapPlacesWrong)

/-- 'laws.FnExactTokenHalf': WHATEVER THE INPUT: true; the input reads as it did. -/
def fnExactTokenHalfSpec : ChangeSpec := { name := "fnExactTokenHalf", fn := fun _ => fun
  | [d1, d2] => { results := [.lit (.bool true)], args := [d1, d2] }
  | _ => none }
def fnExactTokenHalfRow : OpenClaim := { program := "ytoejmijcikehdaa", sum := "7d836a56e2dec68ea17cc7d73d519b3f732b668a64b572c26c7dc07a249d478a", func := "loop.example/g01128/laws.FnExactTokenHalf", spec := "fnExactTokenHalf", unfollowed := true, recurses := true, apart := false }
def FnExactTokenHalfSaid : Prop := fnExactTokenHalfRow.holds Try.pinned (OpenSpec.ofChange fnExactTokenHalfSpec)

/-- ITS FALSE NEIGHBOUR: 'it returns false'. Refute it at one input. -/
def fnExactTokenHalfWrong : ChangeSpec := { name := "fnExactTokenHalf", fn := fun _ => fun
  | [d1, d2] => { results := [.lit (.bool false)], args := [d1, d2] }
  | _ => none }
def FnExactTokenHalfWrongFalsely : Prop := fnExactTokenHalfRow.holds Try.pinned (OpenSpec.ofChange fnExactTokenHalfWrong)

/-- 'laws.FnExactSlideTokens': WHATEVER THE INPUT: true; the input reads as it did. -/
def fnExactSlideTokensSpec : ChangeSpec := { name := "fnExactSlideTokens", fn := fun _ => fun
  | [d1, d2, d3] => { results := [.lit (.bool true)], args := [d1, d2, d3] }
  | _ => none }
def fnExactSlideTokensRow : OpenClaim := { program := "ytoejmijcikehdaa", sum := "7d836a56e2dec68ea17cc7d73d519b3f732b668a64b572c26c7dc07a249d478a", func := "loop.example/g01128/laws.FnExactSlideTokens", spec := "fnExactSlideTokens", apart := false }
def FnExactSlideTokensSaid : Prop := fnExactSlideTokensRow.holds Try.pinned (OpenSpec.ofChange fnExactSlideTokensSpec)

/-- ITS FALSE NEIGHBOUR: 'it returns false'. Refute it at one input. -/
def fnExactSlideTokensWrong : ChangeSpec := { name := "fnExactSlideTokens", fn := fun _ => fun
  | [d1, d2, d3] => { results := [.lit (.bool false)], args := [d1, d2, d3] }
  | _ => none }
def FnExactSlideTokensWrongFalsely : Prop := fnExactSlideTokensRow.holds Try.pinned (OpenSpec.ofChange fnExactSlideTokensWrong)

/-- 'laws.FnExactIsEven': WHATEVER THE INPUT: true; the input reads as it did. -/
def fnExactIsEvenSpec : ChangeSpec := { name := "fnExactIsEven", fn := fun _ => fun
  | [d] => { results := [.lit (.bool true)], args := [d] }
  | _ => none }
def fnExactIsEvenRow : OpenClaim := { program := "ytoejmijcikehdaa", sum := "7d836a56e2dec68ea17cc7d73d519b3f732b668a64b572c26c7dc07a249d478a", func := "loop.example/g01128/laws.FnExactIsEven", spec := "fnExactIsEven", unfollowed := true, recurses := true, apart := false }
def FnExactIsEvenSaid : Prop := fnExactIsEvenRow.holds Try.pinned (OpenSpec.ofChange fnExactIsEvenSpec)

/-- ITS FALSE NEIGHBOUR: 'it returns false'. Refute it at one input. -/
def fnExactIsEvenWrong : ChangeSpec := { name := "fnExactIsEven", fn := fun _ => fun
  | [d] => { results := [.lit (.bool false)], args := [d] }
  | _ => none }
def FnExactIsEvenWrongFalsely : Prop := fnExactIsEvenRow.holds Try.pinned (OpenSpec.ofChange fnExactIsEvenWrong)

/-- 'laws.FnExactTokenSpace': WHATEVER THE INPUT: true; the input reads as it did. -/
def fnExactTokenSpaceSpec : ChangeSpec := { name := "fnExactTokenSpace", fn := fun _ => fun
  | [d] => { results := [.lit (.bool true)], args := [d] }
  | _ => none }
def fnExactTokenSpaceRow : OpenClaim := { program := "ytoejmijcikehdaa", sum := "7d836a56e2dec68ea17cc7d73d519b3f732b668a64b572c26c7dc07a249d478a", func := "loop.example/g01128/laws.FnExactTokenSpace", spec := "fnExactTokenSpace", unfollowed := true, recurses := true, apart := false }
def FnExactTokenSpaceSaid : Prop := fnExactTokenSpaceRow.holds Try.pinned (OpenSpec.ofChange fnExactTokenSpaceSpec)

/-- ITS FALSE NEIGHBOUR: 'it returns false'. Refute it at one input. -/
def fnExactTokenSpaceWrong : ChangeSpec := { name := "fnExactTokenSpace", fn := fun _ => fun
  | [d] => { results := [.lit (.bool false)], args := [d] }
  | _ => none }
def FnExactTokenSpaceWrongFalsely : Prop := fnExactTokenSpaceRow.holds Try.pinned (OpenSpec.ofChange fnExactTokenSpaceWrong)

/- THE SECOND FORM. 'bulk': how many values and letters a reading holds, each counted each time it is reached (what is shared counts as often as it is met; a slice's spare places count too). A statement '..UptoSaid' is the law's where the arguments, and the package variables that the reading takes, are together of bulk at most 1048576: NARROWER than '..Said'. Prove '..Said' where nothing that the law and all that it calls make is longer than what came in: it says more and counts as full. Else prove '..UptoSaid'. A law counts once. -/
mutual
def uptoBulk {H : Type} : DataW H → Nat
  | .lit (.string bytes) => bytes.length + 1
  | .lit _ => 1
  | .nil => 1
  | .ptr d => uptoBulk d + 1
  | .slice elems spare => uptoBulkAll elems + uptoBulkAll spare + 1
  | .agg parts => uptoBulkAll parts + 1
  | .iface _ d => uptoBulk d + 1
  | .map entries => uptoBulkEntries entries + 1
  | .held _ => 1
def uptoBulkAll {H : Type} : List (DataW H) → Nat
  | [] => 0
  | d :: r => uptoBulk d + uptoBulkAll r
def uptoBulkEntries {H : Type} : List (Lit × DataW H) → Nat
  | [] => 0
  | x :: r => uptoBulkEntry x + uptoBulkEntries r
def uptoBulkEntry {H : Type} : Lit × DataW H → Nat
  | (.string bytes, d) => bytes.length + uptoBulk d + 1
  | (_, d) => uptoBulk d + 1
 end
def uptoSmall : (H : Type) → List (DataW H) → Bool := fun _ ds => decide (uptoBulkAll ds ≤ 1048576)
def OpenSpec.upto (s : _root_.Go.ChangeSpec) : _root_.Go.OpenSpec := { _root_.Go.OpenSpec.ofChange s with cond := some uptoSmall }

/-- 'laws.FnExactIsPermutation', WHERE WHAT IT READS IS OF BULK AT MOST 1048576: true; the input reads as it did. -/
def fnExactIsPermutationUptoRow : OpenClaim := { program := "ytoejmijcikehdaa", sum := "7d836a56e2dec68ea17cc7d73d519b3f732b668a64b572c26c7dc07a249d478a", func := "loop.example/g01128/laws.FnExactIsPermutation", spec := "fnExactIsPermutation", apart := false, narrowed := true }
def FnExactIsPermutationUptoSaid : Prop := fnExactIsPermutationUptoRow.holds Try.pinned (OpenSpec.upto fnExactIsPermutationSpec)

/-- 'laws.FnExactInversionCount', WHERE WHAT IT READS IS OF BULK AT MOST 1048576: true; the input reads as it did. -/
def fnExactInversionCountUptoRow : OpenClaim := { program := "ytoejmijcikehdaa", sum := "7d836a56e2dec68ea17cc7d73d519b3f732b668a64b572c26c7dc07a249d478a", func := "loop.example/g01128/laws.FnExactInversionCount", spec := "fnExactInversionCount", apart := false, narrowed := true }
def FnExactInversionCountUptoSaid : Prop := fnExactInversionCountUptoRow.holds Try.pinned (OpenSpec.upto fnExactInversionCountSpec)

/-- 'laws.FnExactSwapCount', WHERE WHAT IT READS IS OF BULK AT MOST 1048576: true; the input reads as it did. -/
def fnExactSwapCountUptoRow : OpenClaim := { program := "ytoejmijcikehdaa", sum := "7d836a56e2dec68ea17cc7d73d519b3f732b668a64b572c26c7dc07a249d478a", func := "loop.example/g01128/laws.FnExactSwapCount", spec := "fnExactSwapCount", apart := false, narrowed := true }
def FnExactSwapCountUptoSaid : Prop := fnExactSwapCountUptoRow.holds Try.pinned (OpenSpec.upto fnExactSwapCountSpec)

/-- 'laws.FnExactCyclesOf', WHERE WHAT IT READS IS OF BULK AT MOST 1048576: true; the input reads as it did. -/
def fnExactCyclesOfUptoRow : OpenClaim := { program := "ytoejmijcikehdaa", sum := "7d836a56e2dec68ea17cc7d73d519b3f732b668a64b572c26c7dc07a249d478a", func := "loop.example/g01128/laws.FnExactCyclesOf", spec := "fnExactCyclesOf", apart := false, narrowed := true }
def FnExactCyclesOfUptoSaid : Prop := fnExactCyclesOfUptoRow.holds Try.pinned (OpenSpec.upto fnExactCyclesOfSpec)

/-- 'laws.FnExactSortSwaps', WHERE WHAT IT READS IS OF BULK AT MOST 1048576: true; the input reads as it did. -/
def fnExactSortSwapsUptoRow : OpenClaim := { program := "ytoejmijcikehdaa", sum := "7d836a56e2dec68ea17cc7d73d519b3f732b668a64b572c26c7dc07a249d478a", func := "loop.example/g01128/laws.FnExactSortSwaps", spec := "fnExactSortSwaps", apart := false, narrowed := true }
def FnExactSortSwapsUptoSaid : Prop := fnExactSortSwapsUptoRow.holds Try.pinned (OpenSpec.upto fnExactSortSwapsSpec)

/-- 'laws.FnExactSwapPlaces', WHERE WHAT IT READS IS OF BULK AT MOST 1048576: true; the input reads as it did. -/
def fnExactSwapPlacesUptoRow : OpenClaim := { program := "ytoejmijcikehdaa", sum := "7d836a56e2dec68ea17cc7d73d519b3f732b668a64b572c26c7dc07a249d478a", func := "loop.example/g01128/laws.FnExactSwapPlaces", spec := "fnExactSwapPlaces", apart := false, narrowed := true }
def FnExactSwapPlacesUptoSaid : Prop := fnExactSwapPlacesUptoRow.holds Try.pinned (OpenSpec.upto fnExactSwapPlacesSpec)

/-- 'laws.FnExactTokenHalf', WHERE WHAT IT READS IS OF BULK AT MOST 1048576: true; the input reads as it did. -/
def fnExactTokenHalfUptoRow : OpenClaim := { program := "ytoejmijcikehdaa", sum := "7d836a56e2dec68ea17cc7d73d519b3f732b668a64b572c26c7dc07a249d478a", func := "loop.example/g01128/laws.FnExactTokenHalf", spec := "fnExactTokenHalf", unfollowed := true, recurses := true, apart := false, narrowed := true }
def FnExactTokenHalfUptoSaid : Prop := fnExactTokenHalfUptoRow.holds Try.pinned (OpenSpec.upto fnExactTokenHalfSpec)

/-- 'laws.FnExactSlideTokens', WHERE WHAT IT READS IS OF BULK AT MOST 1048576: true; the input reads as it did. -/
def fnExactSlideTokensUptoRow : OpenClaim := { program := "ytoejmijcikehdaa", sum := "7d836a56e2dec68ea17cc7d73d519b3f732b668a64b572c26c7dc07a249d478a", func := "loop.example/g01128/laws.FnExactSlideTokens", spec := "fnExactSlideTokens", apart := false, narrowed := true }
def FnExactSlideTokensUptoSaid : Prop := fnExactSlideTokensUptoRow.holds Try.pinned (OpenSpec.upto fnExactSlideTokensSpec)

/-- 'laws.FnExactIsEven', WHERE WHAT IT READS IS OF BULK AT MOST 1048576: true; the input reads as it did. -/
def fnExactIsEvenUptoRow : OpenClaim := { program := "ytoejmijcikehdaa", sum := "7d836a56e2dec68ea17cc7d73d519b3f732b668a64b572c26c7dc07a249d478a", func := "loop.example/g01128/laws.FnExactIsEven", spec := "fnExactIsEven", unfollowed := true, recurses := true, apart := false, narrowed := true }
def FnExactIsEvenUptoSaid : Prop := fnExactIsEvenUptoRow.holds Try.pinned (OpenSpec.upto fnExactIsEvenSpec)

/-- 'laws.FnExactTokenSpace', WHERE WHAT IT READS IS OF BULK AT MOST 1048576: true; the input reads as it did. -/
def fnExactTokenSpaceUptoRow : OpenClaim := { program := "ytoejmijcikehdaa", sum := "7d836a56e2dec68ea17cc7d73d519b3f732b668a64b572c26c7dc07a249d478a", func := "loop.example/g01128/laws.FnExactTokenSpace", spec := "fnExactTokenSpace", unfollowed := true, recurses := true, apart := false, narrowed := true }
def FnExactTokenSpaceUptoSaid : Prop := fnExactTokenSpaceUptoRow.holds Try.pinned (OpenSpec.upto fnExactTokenSpaceSpec)

end Rows
end Go.Proofs.Ytoejmijcikehdaa

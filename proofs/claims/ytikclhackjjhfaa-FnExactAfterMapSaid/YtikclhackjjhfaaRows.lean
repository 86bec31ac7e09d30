/-
  No cell of these rows narrows 'for every input' (looked for: loops, veiled, ifaces, maps, wideKeys, modest, calm, conditions, laid).
  DERIVED. THE GIVEN ROWS OF THIS SEAT. 11 by the template 'for every input the law returns true; each argument reads behind the call as it read before'; 0 by the template 'total and deterministic' (their statements: YtikclhackjjhfaaTotals.lean).
  GIVEN WITH THE SEED: the statements are not yours to turn. If you find one false, say at which input.
  Laid BY PROGRAM, IN A SANDBOX (cutbox-rows.mjs): the forced cells as the released guide's own fill.sh prints them over the translation 31d421c5e99c01ba… (all of the seat's roots in one cut). By AI agents, Wed Nov 11 2026. No macro, syntax, notation, axiom, sorry.
-/
import Derived.Test.YtikclhackjjhfaaChecked
import GoSem.Claim
import GoSem.ClaimJoined
import GoSem.ClaimMapViews
import Derived.JoinedTies
import Derived.KernelRfl
namespace Go.Proofs.Ytikclhackjjhfaa
/- THE CELL 'sum', in the pinned program and in every row, IS THE sha256 OF THE DUMP (.gsa) THAT YtikclhackjjhfaaProg.lean LOADS. Nothing in Lean hashes anything: it is a label: what it is worth is what the hold of that sum in a sandbox is worth. -/
noncomputable def Try.pinned : Pinned := { name := "ytikclhackjjhfaa", sum := "31d421c5e99c01ba5bd22a83239a17e1f84ebf1a1937c47f0b5c0293065227cb", checked := Try.checked }
namespace Rows
def none {H : Type} : Left H := { results := [], args := [] }

/-- 'laws.FnExactFoldOrder': WHATEVER THE INPUT: true; the input reads as it did. -/
def fnExactFoldOrderSpec : ChangeSpec := { name := "fnExactFoldOrder", fn := fun _ => fun
  | [d] => { results := [.lit (.bool true)], args := [d] }
  | _ => none }
def fnExactFoldOrderRow : OpenClaim := { program := "ytikclhackjjhfaa", sum := "31d421c5e99c01ba5bd22a83239a17e1f84ebf1a1937c47f0b5c0293065227cb", func := "loop.example/g01128/laws.FnExactFoldOrder", spec := "fnExactFoldOrder", unfollowed := true, recurses := true, apart := false }
def FnExactFoldOrderSaid : Prop := fnExactFoldOrderRow.holds Try.pinned (OpenSpec.ofChange fnExactFoldOrderSpec)

/-- ITS FALSE NEIGHBOUR: 'it returns false'. Refute it at one input. -/
def fnExactFoldOrderWrong : ChangeSpec := { name := "fnExactFoldOrder", fn := fun _ => fun
  | [d] => { results := [.lit (.bool false)], args := [d] }
  | _ => none }
def FnExactFoldOrderWrongFalsely : Prop := fnExactFoldOrderRow.holds Try.pinned (OpenSpec.ofChange fnExactFoldOrderWrong)

/-- 'laws.FnExactCanFold': WHATEVER THE INPUT: true; the input reads as it did. -/
def fnExactCanFoldSpec : ChangeSpec := { name := "fnExactCanFold", fn := fun _ => fun
  | [d] => { results := [.lit (.bool true)], args := [d] }
  | _ => none }
def fnExactCanFoldRow : OpenClaim := { program := "ytikclhackjjhfaa", sum := "31d421c5e99c01ba5bd22a83239a17e1f84ebf1a1937c47f0b5c0293065227cb", func := "loop.example/g01128/laws.FnExactCanFold", spec := "fnExactCanFold", unfollowed := true, recurses := true, apart := false }
def FnExactCanFoldSaid : Prop := fnExactCanFoldRow.holds Try.pinned (OpenSpec.ofChange fnExactCanFoldSpec)

/-- ITS FALSE NEIGHBOUR: 'it returns false'. Refute it at one input. -/
def fnExactCanFoldWrong : ChangeSpec := { name := "fnExactCanFold", fn := fun _ => fun
  | [d] => { results := [.lit (.bool false)], args := [d] }
  | _ => none }
def FnExactCanFoldWrongFalsely : Prop := fnExactCanFoldRow.holds Try.pinned (OpenSpec.ofChange fnExactCanFoldWrong)

/-- 'laws.FnExactIsMap': WHATEVER THE INPUT: true; the input reads as it did. -/
def fnExactIsMapSpec : ChangeSpec := { name := "fnExactIsMap", fn := fun _ => fun
  | [d1, d2, d3, d4] => { results := [.lit (.bool true)], args := [d1, d2, d3, d4] }
  | _ => none }
def fnExactIsMapRow : OpenClaim := { program := "ytikclhackjjhfaa", sum := "31d421c5e99c01ba5bd22a83239a17e1f84ebf1a1937c47f0b5c0293065227cb", func := "loop.example/g01128/laws.FnExactIsMap", spec := "fnExactIsMap", unfollowed := true, recurses := true, apart := false }
def FnExactIsMapSaid : Prop := fnExactIsMapRow.holds Try.pinned (OpenSpec.ofChange fnExactIsMapSpec)

/-- ITS FALSE NEIGHBOUR: 'it returns false'. Refute it at one input. -/
def fnExactIsMapWrong : ChangeSpec := { name := "fnExactIsMap", fn := fun _ => fun
  | [d1, d2, d3, d4] => { results := [.lit (.bool false)], args := [d1, d2, d3, d4] }
  | _ => none }
def FnExactIsMapWrongFalsely : Prop := fnExactIsMapRow.holds Try.pinned (OpenSpec.ofChange fnExactIsMapWrong)

/-- 'laws.FnExactAfterMap': WHATEVER THE INPUT: true; the input reads as it did. -/
def fnExactAfterMapSpec : ChangeSpec := { name := "fnExactAfterMap", fn := fun _ => fun
  | [d1, d2, d3, d4, d5, d6] => { results := [.lit (.bool true)], args := [d1, d2, d3, d4, d5, d6] }
  | _ => none }
def fnExactAfterMapRow : OpenClaim := { program := "ytikclhackjjhfaa", sum := "31d421c5e99c01ba5bd22a83239a17e1f84ebf1a1937c47f0b5c0293065227cb", func := "loop.example/g01128/laws.FnExactAfterMap", spec := "fnExactAfterMap", unfollowed := true, recurses := true, apart := false }
def FnExactAfterMapSaid : Prop := fnExactAfterMapRow.holds Try.pinned (OpenSpec.ofChange fnExactAfterMapSpec)

/-- ITS FALSE NEIGHBOUR: 'it returns false'. Refute it at one input. -/
def fnExactAfterMapWrong : ChangeSpec := { name := "fnExactAfterMap", fn := fun _ => fun
  | [d1, d2, d3, d4, d5, d6] => { results := [.lit (.bool false)], args := [d1, d2, d3, d4, d5, d6] }
  | _ => none }
def FnExactAfterMapWrongFalsely : Prop := fnExactAfterMapRow.holds Try.pinned (OpenSpec.ofChange fnExactAfterMapWrong)

/-- 'laws.FnExactIsTwofold': WHATEVER THE INPUT: true; the input reads as it did. -/
def fnExactIsTwofoldSpec : ChangeSpec := { name := "fnExactIsTwofold", fn := fun _ => fun
  | [d] => { results := [.lit (.bool true)], args := [d] }
  | _ => none }
def fnExactIsTwofoldRow : OpenClaim := { program := "ytikclhackjjhfaa", sum := "31d421c5e99c01ba5bd22a83239a17e1f84ebf1a1937c47f0b5c0293065227cb", func := "loop.example/g01128/laws.FnExactIsTwofold", spec := "fnExactIsTwofold", unfollowed := true, recurses := true, apart := false }
def FnExactIsTwofoldSaid : Prop := fnExactIsTwofoldRow.holds Try.pinned (OpenSpec.ofChange fnExactIsTwofoldSpec)

/-- ITS FALSE NEIGHBOUR: 'it returns false'. Refute it at one input. -/
def fnExactIsTwofoldWrong : ChangeSpec := { name := "fnExactIsTwofold", fn := fun _ => fun
  | [d] => { results := [.lit (.bool false)], args := [d] }
  | _ => none }
def FnExactIsTwofoldWrongFalsely : Prop := fnExactIsTwofoldRow.holds Try.pinned (OpenSpec.ofChange fnExactIsTwofoldWrong)

/-- 'laws.FnExactTightSets': WHATEVER THE INPUT: true; the input reads as it did. -/
def fnExactTightSetsSpec : ChangeSpec := { name := "fnExactTightSets", fn := fun _ => fun
  | [d1, d2] => { results := [.lit (.bool true)], args := [d1, d2] }
  | _ => none }
def fnExactTightSetsRow : OpenClaim := { program := "ytikclhackjjhfaa", sum := "31d421c5e99c01ba5bd22a83239a17e1f84ebf1a1937c47f0b5c0293065227cb", func := "loop.example/g01128/laws.FnExactTightSets", spec := "fnExactTightSets", unfollowed := true, recurses := true, apart := false }
def FnExactTightSetsSaid : Prop := fnExactTightSetsRow.holds Try.pinned (OpenSpec.ofChange fnExactTightSetsSpec)

/-- ITS FALSE NEIGHBOUR: 'it returns false'. Refute it at one input. -/
def fnExactTightSetsWrong : ChangeSpec := { name := "fnExactTightSets", fn := fun _ => fun
  | [d1, d2] => { results := [.lit (.bool false)], args := [d1, d2] }
  | _ => none }
def FnExactTightSetsWrongFalsely : Prop := fnExactTightSetsRow.holds Try.pinned (OpenSpec.ofChange fnExactTightSetsWrong)

/-- 'laws.FnExactBestOfKind': WHATEVER THE INPUT: true; the input reads as it did. -/
def fnExactBestOfKindSpec : ChangeSpec := { name := "fnExactBestOfKind", fn := fun _ => fun
  | [d1, d2] => { results := [.lit (.bool true)], args := [d1, d2] }
  | _ => none }
def fnExactBestOfKindRow : OpenClaim := { program := "ytikclhackjjhfaa", sum := "31d421c5e99c01ba5bd22a83239a17e1f84ebf1a1937c47f0b5c0293065227cb", func := "loop.example/g01128/laws.FnExactBestOfKind", spec := "fnExactBestOfKind", unfollowed := true, recurses := true, apart := false }
def FnExactBestOfKindSaid : Prop := fnExactBestOfKindRow.holds Try.pinned (OpenSpec.ofChange fnExactBestOfKindSpec)

/-- ITS FALSE NEIGHBOUR: 'it returns false'. Refute it at one input. -/
def fnExactBestOfKindWrong : ChangeSpec := { name := "fnExactBestOfKind", fn := fun _ => fun
  | [d1, d2] => { results := [.lit (.bool false)], args := [d1, d2] }
  | _ => none }
def FnExactBestOfKindWrongFalsely : Prop := fnExactBestOfKindRow.holds Try.pinned (OpenSpec.ofChange fnExactBestOfKindWrong)

/-- 'laws.FnExactThresholdSpace': WHATEVER THE INPUT: true; the input reads as it did. -/
def fnExactThresholdSpaceSpec : ChangeSpec := { name := "fnExactThresholdSpace", fn := fun _ => fun
  | [d1, d2, d3] => { results := [.lit (.bool true)], args := [d1, d2, d3] }
  | _ => none }
def fnExactThresholdSpaceRow : OpenClaim := { program := "ytikclhackjjhfaa", sum := "31d421c5e99c01ba5bd22a83239a17e1f84ebf1a1937c47f0b5c0293065227cb", func := "loop.example/g01128/laws.FnExactThresholdSpace", spec := "fnExactThresholdSpace", unfollowed := true, recurses := true, apart := false }
def FnExactThresholdSpaceSaid : Prop := fnExactThresholdSpaceRow.holds Try.pinned (OpenSpec.ofChange fnExactThresholdSpaceSpec)

/-- ITS FALSE NEIGHBOUR: 'it returns false'. Refute it at one input. -/
def fnExactThresholdSpaceWrong : ChangeSpec := { name := "fnExactThresholdSpace", fn := fun _ => fun
  | [d1, d2, d3] => { results := [.lit (.bool false)], args := [d1, d2, d3] }
  | _ => none }
def FnExactThresholdSpaceWrongFalsely : Prop := fnExactThresholdSpaceRow.holds Try.pinned (OpenSpec.ofChange fnExactThresholdSpaceWrong)

/-- 'laws.FnExactExchangeSpace': WHATEVER THE INPUT: true; the input reads as it did. -/
def fnExactExchangeSpaceSpec : ChangeSpec := { name := "fnExactExchangeSpace", fn := fun _ => fun
  | [d1, d2, d3] => { results := [.lit (.bool true)], args := [d1, d2, d3] }
  | _ => none }
def fnExactExchangeSpaceRow : OpenClaim := { program := "ytikclhackjjhfaa", sum := "31d421c5e99c01ba5bd22a83239a17e1f84ebf1a1937c47f0b5c0293065227cb", func := "loop.example/g01128/laws.FnExactExchangeSpace", spec := "fnExactExchangeSpace", unfollowed := true, recurses := true, apart := false }
def FnExactExchangeSpaceSaid : Prop := fnExactExchangeSpaceRow.holds Try.pinned (OpenSpec.ofChange fnExactExchangeSpaceSpec)

/-- ITS FALSE NEIGHBOUR: 'it returns false'. Refute it at one input. -/
def fnExactExchangeSpaceWrong : ChangeSpec := { name := "fnExactExchangeSpace", fn := fun _ => fun
  | [d1, d2, d3] => { results := [.lit (.bool false)], args := [d1, d2, d3] }
  | _ => none }
def FnExactExchangeSpaceWrongFalsely : Prop := fnExactExchangeSpaceRow.holds Try.pinned (OpenSpec.ofChange fnExactExchangeSpaceWrong)

/-- 'laws.FnExactKindSlides': WHATEVER THE INPUT: true; the input reads as it did. -/
def fnExactKindSlidesSpec : ChangeSpec := { name := "fnExactKindSlides", fn := fun _ => fun
  | [d1, d2, d3] => { results := [.lit (.bool true)], args := [d1, d2, d3] }
  | _ => none }
def fnExactKindSlidesRow : OpenClaim := { program := "ytikclhackjjhfaa", sum := "31d421c5e99c01ba5bd22a83239a17e1f84ebf1a1937c47f0b5c0293065227cb", func := "loop.example/g01128/laws.FnExactKindSlides", spec := "fnExactKindSlides", unfollowed := true, recurses := true, apart := false }
def FnExactKindSlidesSaid : Prop := fnExactKindSlidesRow.holds Try.pinned (OpenSpec.ofChange fnExactKindSlidesSpec)

/-- ITS FALSE NEIGHBOUR: 'it returns false'. Refute it at one input. -/
def fnExactKindSlidesWrong : ChangeSpec := { name := "fnExactKindSlides", fn := fun _ => fun
  | [d1, d2, d3] => { results := [.lit (.bool false)], args := [d1, d2, d3] }
  | _ => none }
def FnExactKindSlidesWrongFalsely : Prop := fnExactKindSlidesRow.holds Try.pinned (OpenSpec.ofChange fnExactKindSlidesWrong)

/-- 'laws.FnExactWideNumber': WHATEVER THE INPUT: true; the input reads as it did. -/
def fnExactWideNumberSpec : ChangeSpec := { name := "fnExactWideNumber", fn := fun _ => fun
  | [d1, d2] => { results := [.lit (.bool true)], args := [d1, d2] }
  | _ => none }
def fnExactWideNumberRow : OpenClaim := { program := "ytikclhackjjhfaa", sum := "31d421c5e99c01ba5bd22a83239a17e1f84ebf1a1937c47f0b5c0293065227cb", func := "loop.example/g01128/laws.FnExactWideNumber", spec := "fnExactWideNumber", unfollowed := true, recurses := true, apart := false }
def FnExactWideNumberSaid : Prop := fnExactWideNumberRow.holds Try.pinned (OpenSpec.ofChange fnExactWideNumberSpec)

/-- ITS FALSE NEIGHBOUR: 'it returns false'. Refute it at one input. -/
def fnExactWideNumberWrong : ChangeSpec := { name := "fnExactWideNumber", fn := fun _ => fun
  | [d1, d2] => { results := [.lit (.bool false)], args := [d1, d2] }
  | _ => none }
def FnExactWideNumberWrongFalsely : Prop := fnExactWideNumberRow.holds Try.pinned (OpenSpec.ofChange fnExactWideNumberWrong)

/- THE SECOND FORM. 'bulk': how many values and letters a reading holds, each counted each time it is reached (what is shared counts as often as it is met; a slice's spare places count too). A statement '..UptoSaid' is the law's where the arguments, and the package variables that the reading takes, are together of bulk at most 1048576: NARROWER than '..Said'. Prove '..Said' where nothing that the law and all that it calls make is longer than what came in: it says more and counts as full. Else prove '..UptoSaid'. A law counts once. -/
mutual
def uptoBulk {H : Type} : DataW H → Nat
  | .lit (.string bytes) => bytes.length + 1
  | .lit _ => 1
  | .nil => 1
  | .ptr d => uptoBulk d + 1
  | .slice elems spare => uptoBulkAll elems + uptoBulkAll spare + 1
  | .agg parts => uptoBulkAll parts + 1
  | .iface _ d => uptoBulk d + 1
  | .map entries => uptoBulkEntries entries + 1
  | .held _ => 1
def uptoBulkAll {H : Type} : List (DataW H) → Nat
  | [] => 0
  | d :: r => uptoBulk d + uptoBulkAll r
def uptoBulkEntries {H : Type} : List (Lit × DataW H) → Nat
  | [] => 0
  | x :: r => uptoBulkEntry x + uptoBulkEntries r
def uptoBulkEntry {H : Type} : Lit × DataW H → Nat
  | (.string bytes, d) => bytes.length + uptoBulk d + 1
  | (_, d) => uptoBulk d + 1
 end
def uptoSmall : (H : Type) → List (DataW H) → Bool := fun _ ds => decide (uptoBulkAll ds ≤ 1048576)
def OpenSpec.upto (s : _root_.Go.ChangeSpec) : _root_.Go.OpenSpec := { _root_.Go.OpenSpec.ofChange s with cond := some uptoSmall }

/-- 'laws.FnExactFoldOrder', WHERE WHAT IT READS IS OF BULK AT MOST 1048576: true; the input reads as it did. -/
def fnExactFoldOrderUptoRow : OpenClaim := { program := "ytikclhackjjhfaa", sum := "31d421c5e99c01ba5bd22a83239a17e1f84ebf1a1937c47f0b5c0293065227cb", func := "loop.example/g01128/laws.FnExactFoldOrder", spec := "fnExactFoldOrder", unfollowed := true, recurses := true, apart := false, narrowed := true }
def FnExactFoldOrderUptoSaid : Prop := fnExactFoldOrderUptoRow.holds Try.pinned (OpenSpec.upto fnExactFoldOrderSpec)

/-- 'laws.FnExactCanFold', WHERE WHAT IT READS IS OF BULK AT MOST 1048576: true; the input reads as it did. -/
def fnExactCanFoldUptoRow : OpenClaim := { program := "ytikclhackjjhfaa", sum := "31d421c5e99c01ba5bd22a83239a17e1f84ebf1a1937c47f0b5c0293065227cb", func := "loop.example/g01128/laws.FnExactCanFold", spec := "fnExactCanFold", unfollowed := true, recurses := true, apart := false, narrowed := true }
def FnExactCanFoldUptoSaid : Prop := fnExactCanFoldUptoRow.holds Try.pinned (OpenSpec.upto fnExactCanFoldSpec)

/-- 'laws.FnExactIsMap', WHERE WHAT IT READS IS OF BULK AT MOST 1048576: true; the input reads as it did. -/
def fnExactIsMapUptoRow : OpenClaim := { program := "ytikclhackjjhfaa", sum := "31d421c5e99c01ba5bd22a83239a17e1f84ebf1a1937c47f0b5c0293065227cb", func := "loop.example/g01128/laws.FnExactIsMap", spec := "fnExactIsMap", unfollowed := true, recurses := true, apart := false, narrowed := true }
def FnExactIsMapUptoSaid : Prop := fnExactIsMapUptoRow.holds Try.pinned (OpenSpec.upto fnExactIsMapSpec)

/-- 'laws.FnExactAfterMap', WHERE WHAT IT READS IS OF BULK AT MOST 1048576: true; the input reads as it did. -/
def fnExactAfterMapUptoRow : OpenClaim := { program := "ytikclhackjjhfaa", sum := "31d421c5e99c01ba5bd22a83239a17e1f84ebf1a1937c47f0b5c0293065227cb", func := "loop.example/g01128/laws.FnExactAfterMap", spec := "fnExactAfterMap", unfollowed := true, recurses := true, apart := false, narrowed := true }
def FnExactAfterMapUptoSaid : Prop := fnExactAfterMapUptoRow.holds Try.pinned (OpenSpec.upto fnExactAfterMapSpec)

/-- 'laws.FnExactIsTwofold', WHERE WHAT IT READS IS OF BULK AT MOST 1048576: true; the input reads as it did. -/
def fnExactIsTwofoldUptoRow : OpenClaim := { program := "ytikclhackjjhfaa", sum := "31d421c5e99c01ba5bd22a83239a17e1f84ebf1a1937c47f0b5c0293065227cb", func := "loop.example/g01128/laws.FnExactIsTwofold", spec := "fnExactIsTwofold", unfollowed := true, recurses := true, apart := false, narrowed := true }
def FnExactIsTwofoldUptoSaid : Prop := fnExactIsTwofoldUptoRow.holds Try.pinned (OpenSpec.upto fnExactIsTwofoldSpec)

/-- 'laws.FnExactTightSets', WHERE WHAT IT READS IS OF BULK AT MOST 1048576: true; the input reads as it did. -/
def fnExactTightSetsUptoRow : OpenClaim := { program := "ytikclhackjjhfaa", sum := "31d421c5e99c01ba5bd22a83239a17e1f84ebf1a1937c47f0b5c0293065227cb", func := "loop.example/g01128/laws.FnExactTightSets", spec := "fnExactTightSets", unfollowed := true, recurses := true, apart := false, narrowed := true }
def FnExactTightSetsUptoSaid : Prop := fnExactTightSetsUptoRow.holds Try.pinned (OpenSpec.upto fnExactTightSetsSpec)

/-- 'laws.FnExactBestOfKind', WHERE WHAT IT READS IS OF BULK AT MOST 1048576: true; the input reads as it did. -/
def fnExactBestOfKindUptoRow : OpenClaim := { program := "ytikclhackjjhfaa", sum := "31d421c5e99c01ba5bd22a83239a17e1f84ebf1a1937c47f0b5c0293065227cb", func := "loop.example/g01128/laws.FnExactBestOfKind", spec := "fnExactBestOfKind", unfollowed := true, recurses := true, apart := false, narrowed := true }
def FnExactBestOfKindUptoSaid : Prop := fnExactBestOfKindUptoRow.holds Try.pinned (OpenSpec.upto fnExactBestOfKindSpec)

/-- 'laws.FnExactThresholdSpace', WHERE WHAT IT READS IS OF BULK AT MOST 1048576: true; the input reads as it did. -/
def fnExactThresholdSpaceUptoRow : OpenClaim := { program := "ytikclhackjjhfaa", sum := "31d421c5e99c01ba5bd22a83239a17e1f84ebf1a1937c47f0b5c0293065227cb", func := "loop.example/g01128/laws.FnExactThresholdSpace", spec := "fnExactThresholdSpace", unfollowed := true, recurses := true, apart := false, narrowed := true }
def FnExactThresholdSpaceUptoSaid : Prop := fnExactThresholdSpaceUptoRow.holds Try.pinned (OpenSpec.upto fnExactThresholdSpaceSpec)

/-- 'laws.FnExactExchangeSpace', WHERE WHAT IT READS IS OF BULK AT MOST 1048576: true; the input reads as it did. -/
def fnExactExchangeSpaceUptoRow : OpenClaim := { program := "ytikclhackjjhfaa", sum := "31d421c5e99c01ba5bd22a83239a17e1f84ebf1a1937c47f0b5c0293065227cb", func := "loop.example/g01128/laws.FnExactExchangeSpace", spec := "fnExactExchangeSpace", unfollowed := true, recurses := true, apart := false, narrowed := true }
def FnExactExchangeSpaceUptoSaid : Prop := fnExactExchangeSpaceUptoRow.holds Try.pinned (OpenSpec.upto fnExactExchangeSpaceSpec)

/-- 'laws.FnExactKindSlides', WHERE WHAT IT READS IS OF BULK AT MOST 1048576: true; the input reads as it did. -/
def fnExactKindSlidesUptoRow : OpenClaim := { program := "ytikclhackjjhfaa", sum := "31d421c5e99c01ba5bd22a83239a17e1f84ebf1a1937c47f0b5c0293065227cb", func := "loop.example/g01128/laws.FnExactKindSlides", spec := "fnExactKindSlides", unfollowed := true, recurses := true, apart := false, narrowed := true }
def FnExactKindSlidesUptoSaid : Prop := fnExactKindSlidesUptoRow.holds Try.pinned (OpenSpec.upto fnExactKindSlidesSpec)

/-- 'laws.FnExactWideNumber', WHERE WHAT IT READS IS OF BULK AT MOST 1048576: true; the input reads as it did. -/
def fnExactWideNumberUptoRow : OpenClaim := { program := "ytikclhackjjhfaa", sum := "31d421c5e99c01ba5bd22a83239a17e1f84ebf1a1937c47f0b5c0293065227cb", func := "loop.example/g01128/laws.FnExactWideNumber", spec := "fnExactWideNumber", unfollowed := true, recurses := true, apart := false, narrowed := true }
def FnExactWideNumberUptoSaid : Prop := fnExactWideNumberUptoRow.holds Try.pinned (OpenSpec.upto fnExactWideNumberSpec)

end Rows
end Go.Proofs.Ytikclhackjjhfaa

/-
  No cell of these rows narrows 'for every input' (looked for: loops, veiled, ifaces, maps, wideKeys, modest, calm, conditions, laid).
  DERIVED. THE GIVEN ROWS OF THIS SEAT. 8 by the template 'for every input the law returns true; each argument reads behind the call as it read before'; 0 by the template 'total and deterministic' (their statements: YtpkdlgdjpoempaaTotals.lean).
  GIVEN WITH THE SEED: the statements are not yours to turn. If you find one false, say at which input.
  Laid BY PROGRAM, IN A SANDBOX (cutbox-rows.mjs): the forced cells as the released guide's own fill.sh prints them over the translation 22ff8f79d4599f53… (all of the seat's roots in one cut). By AI agents, Wed Nov 11 2026. No macro, syntax, notation, axiom, sorry.
-/
import Derived.Test.YtpkdlgdjpoempaaChecked
import GoSem.Claim
import GoSem.ClaimJoined
import GoSem.ClaimMapViews
import Derived.JoinedTies
import Derived.KernelRfl
namespace Go.Proofs.Ytpkdlgdjpoempaa
/- THE CELL 'sum', in the pinned program and in every row, IS THE sha256 OF THE DUMP (.gsa) THAT YtpkdlgdjpoempaaProg.lean LOADS. Nothing in Lean hashes anything: it is a label: what it is worth is what the hold of that sum in a sandbox is worth. -/
noncomputable def Try.pinned : Pinned := { name := "ytpkdlgdjpoempaa", sum := "22ff8f79d4599f53335514a53d87cc7fa701600ed1dece47f109cc8ca67b3c39", checked := Try.checked }
namespace Rows
def none {H : Type} : Left H := { results := [], args := [] }

/-- 'laws.FnExactIsSpace': WHATEVER THE INPUT: true; the input reads as it did. -/
def fnExactIsSpaceSpec : ChangeSpec := { name := "fnExactIsSpace", fn := fun _ => fun
  | [d] => { results := [.lit (.bool true)], args := [d] }
  | _ => none }
def fnExactIsSpaceRow : OpenClaim := { program := "ytpkdlgdjpoempaa", sum := "22ff8f79d4599f53335514a53d87cc7fa701600ed1dece47f109cc8ca67b3c39", func := "loop.example/g01128/laws.FnExactIsSpace", spec := "fnExactIsSpace", unfollowed := true, recurses := true, plainKeys := false, apart := false }
def FnExactIsSpaceSaid : Prop := fnExactIsSpaceRow.holds Try.pinned (OpenSpec.ofChange fnExactIsSpaceSpec)

/-- ITS FALSE NEIGHBOUR: 'it returns false'. Refute it at one input. -/
def fnExactIsSpaceWrong : ChangeSpec := { name := "fnExactIsSpace", fn := fun _ => fun
  | [d] => { results := [.lit (.bool false)], args := [d] }
  | _ => none }
def FnExactIsSpaceWrongFalsely : Prop := fnExactIsSpaceRow.holds Try.pinned (OpenSpec.ofChange fnExactIsSpaceWrong)

/-- 'laws.FnExactPlaceOf': WHATEVER THE INPUT: true; the input reads as it did. -/
def fnExactPlaceOfSpec : ChangeSpec := { name := "fnExactPlaceOf", fn := fun _ => fun
  | [d1, d2] => { results := [.lit (.bool true)], args := [d1, d2] }
  | _ => none }
def fnExactPlaceOfRow : OpenClaim := { program := "ytpkdlgdjpoempaa", sum := "22ff8f79d4599f53335514a53d87cc7fa701600ed1dece47f109cc8ca67b3c39", func := "loop.example/g01128/laws.FnExactPlaceOf", spec := "fnExactPlaceOf", unfollowed := true, recurses := true, plainKeys := false, apart := false }
def FnExactPlaceOfSaid : Prop := fnExactPlaceOfRow.holds Try.pinned (OpenSpec.ofChange fnExactPlaceOfSpec)

/-- ITS FALSE NEIGHBOUR: 'it returns false'. Refute it at one input. -/
def fnExactPlaceOfWrong : ChangeSpec := { name := "fnExactPlaceOf", fn := fun _ => fun
  | [d1, d2] => { results := [.lit (.bool false)], args := [d1, d2] }
  | _ => none }
def FnExactPlaceOfWrongFalsely : Prop := fnExactPlaceOfRow.holds Try.pinned (OpenSpec.ofChange fnExactPlaceOfWrong)

/-- 'laws.FnExactAreKept': WHATEVER THE INPUT: true; the input reads as it did. -/
def fnExactAreKeptSpec : ChangeSpec := { name := "fnExactAreKept", fn := fun _ => fun
  | [d1, d2] => { results := [.lit (.bool true)], args := [d1, d2] }
  | _ => none }
def fnExactAreKeptRow : OpenClaim := { program := "ytpkdlgdjpoempaa", sum := "22ff8f79d4599f53335514a53d87cc7fa701600ed1dece47f109cc8ca67b3c39", func := "loop.example/g01128/laws.FnExactAreKept", spec := "fnExactAreKept", unfollowed := true, recurses := true, plainKeys := false, apart := false }
def FnExactAreKeptSaid : Prop := fnExactAreKeptRow.holds Try.pinned (OpenSpec.ofChange fnExactAreKeptSpec)

/-- ITS FALSE NEIGHBOUR: 'it returns false'. Refute it at one input. -/
def fnExactAreKeptWrong : ChangeSpec := { name := "fnExactAreKept", fn := fun _ => fun
  | [d1, d2] => { results := [.lit (.bool false)], args := [d1, d2] }
  | _ => none }
def FnExactAreKeptWrongFalsely : Prop := fnExactAreKeptRow.holds Try.pinned (OpenSpec.ofChange fnExactAreKeptWrong)

/-- 'laws.FnExactIsPotential': WHATEVER THE INPUT: true; the input reads as it did. -/
def fnExactIsPotentialSpec : ChangeSpec := { name := "fnExactIsPotential", fn := fun _ => fun
  | [d1, d2] => { results := [.lit (.bool true)], args := [d1, d2] }
  | _ => none }
def fnExactIsPotentialRow : OpenClaim := { program := "ytpkdlgdjpoempaa", sum := "22ff8f79d4599f53335514a53d87cc7fa701600ed1dece47f109cc8ca67b3c39", func := "loop.example/g01128/laws.FnExactIsPotential", spec := "fnExactIsPotential", unfollowed := true, recurses := true, plainKeys := false, apart := false }
def FnExactIsPotentialSaid : Prop := fnExactIsPotentialRow.holds Try.pinned (OpenSpec.ofChange fnExactIsPotentialSpec)

/-- ITS FALSE NEIGHBOUR: 'it returns false'. Refute it at one input. -/
def fnExactIsPotentialWrong : ChangeSpec := { name := "fnExactIsPotential", fn := fun _ => fun
  | [d1, d2] => { results := [.lit (.bool false)], args := [d1, d2] }
  | _ => none }
def FnExactIsPotentialWrongFalsely : Prop := fnExactIsPotentialRow.holds Try.pinned (OpenSpec.ofChange fnExactIsPotentialWrong)

/-- 'laws.FnExactPotentialBound': WHATEVER THE INPUT: true; the input reads as it did. -/
def fnExactPotentialBoundSpec : ChangeSpec := { name := "fnExactPotentialBound", fn := fun _ => fun
  | [d1, d2, d3, d4] => { results := [.lit (.bool true)], args := [d1, d2, d3, d4] }
  | _ => none }
def fnExactPotentialBoundRow : OpenClaim := { program := "ytpkdlgdjpoempaa", sum := "22ff8f79d4599f53335514a53d87cc7fa701600ed1dece47f109cc8ca67b3c39", func := "loop.example/g01128/laws.FnExactPotentialBound", spec := "fnExactPotentialBound", unfollowed := true, recurses := true, plainKeys := false, apart := false }
def FnExactPotentialBoundSaid : Prop := fnExactPotentialBoundRow.holds Try.pinned (OpenSpec.ofChange fnExactPotentialBoundSpec)

/-- ITS FALSE NEIGHBOUR: 'it returns false'. Refute it at one input. -/
def fnExactPotentialBoundWrong : ChangeSpec := { name := "fnExactPotentialBound", fn := fun _ => fun
  | [d1, d2, d3, d4] => { results := [.lit (.bool false)], args := [d1, d2, d3, d4] }
  | _ => none }
def FnExactPotentialBoundWrongFalsely : Prop := fnExactPotentialBoundRow.holds Try.pinned (OpenSpec.ofChange fnExactPotentialBoundWrong)

/-- 'laws.FnExactIsWay': WHATEVER THE INPUT: true; the input reads as it did. -/
def fnExactIsWaySpec : ChangeSpec := { name := "fnExactIsWay", fn := fun _ => fun
  | [d1, d2] => { results := [.lit (.bool true)], args := [d1, d2] }
  | _ => none }
def fnExactIsWayRow : OpenClaim := { program := "ytpkdlgdjpoempaa", sum := "22ff8f79d4599f53335514a53d87cc7fa701600ed1dece47f109cc8ca67b3c39", func := "loop.example/g01128/laws.FnExactIsWay", spec := "fnExactIsWay", unfollowed := true, recurses := true, plainKeys := false, apart := false }
def FnExactIsWaySaid : Prop := fnExactIsWayRow.holds Try.pinned (OpenSpec.ofChange fnExactIsWaySpec)

/-- ITS FALSE NEIGHBOUR: 'it returns false'. Refute it at one input. -/
def fnExactIsWayWrong : ChangeSpec := { name := "fnExactIsWay", fn := fun _ => fun
  | [d1, d2] => { results := [.lit (.bool false)], args := [d1, d2] }
  | _ => none }
def FnExactIsWayWrongFalsely : Prop := fnExactIsWayRow.holds Try.pinned (OpenSpec.ofChange fnExactIsWayWrong)

/-- 'laws.FnExactStepsFrom': WHATEVER THE INPUT: true; the input reads as it did. -/
def fnExactStepsFromSpec : ChangeSpec := { name := "fnExactStepsFrom", fn := fun _ => fun
  | [d1, d2] => { results := [.lit (.bool true)], args := [d1, d2] }
  | _ => none }
def fnExactStepsFromRow : OpenClaim := { program := "ytpkdlgdjpoempaa", sum := "22ff8f79d4599f53335514a53d87cc7fa701600ed1dece47f109cc8ca67b3c39", func := "loop.example/g01128/laws.FnExactStepsFrom", spec := "fnExactStepsFrom", unfollowed := true, recurses := true, plainKeys := false, apart := false }
def FnExactStepsFromSaid : Prop := fnExactStepsFromRow.holds Try.pinned (OpenSpec.ofChange fnExactStepsFromSpec)

/-- ITS FALSE NEIGHBOUR: 'it returns false'. Refute it at one input. -/
def fnExactStepsFromWrong : ChangeSpec := { name := "fnExactStepsFrom", fn := fun _ => fun
  | [d1, d2] => { results := [.lit (.bool false)], args := [d1, d2] }
  | _ => none }
def FnExactStepsFromWrongFalsely : Prop := fnExactStepsFromRow.holds Try.pinned (OpenSpec.ofChange fnExactStepsFromWrong)

/-- 'laws.FnExactFrozenPlaces': WHATEVER THE INPUT: true; the input reads as it did. -/
def fnExactFrozenPlacesSpec : ChangeSpec := { name := "fnExactFrozenPlaces", fn := fun _ => fun
  | [d] => { results := [.lit (.bool true)], args := [d] }
  | _ => none }
def fnExactFrozenPlacesRow : OpenClaim := { program := "ytpkdlgdjpoempaa", sum := "22ff8f79d4599f53335514a53d87cc7fa701600ed1dece47f109cc8ca67b3c39", func := "loop.example/g01128/laws.FnExactFrozenPlaces", spec := "fnExactFrozenPlaces", unfollowed := true, recurses := true, plainKeys := false, apart := false }
def FnExactFrozenPlacesSaid : Prop := fnExactFrozenPlacesRow.holds Try.pinned (OpenSpec.ofChange fnExactFrozenPlacesSpec)

/-- ITS FALSE NEIGHBOUR: 'it returns false'. Refute it at one input. -/
def fnExactFrozenPlacesWrong : ChangeSpec := { name := "fnExactFrozenPlaces", fn := fun _ => fun
  | [d] => { results := [.lit (.bool false)], args := [d] }
  | _ => none }
def FnExactFrozenPlacesWrongFalsely : Prop := fnExactFrozenPlacesRow.holds Try.pinned (OpenSpec.ofChange fnExactFrozenPlacesWrong)

/- THE SECOND FORM. 'bulk': how many values and letters a reading holds, each counted each time it is reached (what is shared counts as often as it is met; a slice's spare places count too). A statement '..UptoSaid' is the law's where the arguments, and the package variables that the reading takes, are together of bulk at most 1048576: NARROWER than '..Said'. Prove '..Said' where nothing that the law and all that it calls make is longer than what came in: it says more and counts as full. Else prove '..UptoSaid'. A law counts once. -/
mutual
def uptoBulk {H : Type} : DataW H → Nat
  | .lit (.string bytes) => bytes.length + 1
  | .lit _ => 1
  | .nil => 1
  | .ptr d => uptoBulk d + 1
  | .slice elems spare => uptoBulkAll elems + uptoBulkAll spare + 1
  | .agg parts => uptoBulkAll parts + 1
  | .iface _ d => uptoBulk d + 1
  | .map entries => uptoBulkEntries entries + 1
  | .held _ => 1
def uptoBulkAll {H : Type} : List (DataW H) → Nat
  | [] => 0
  | d :: r => uptoBulk d + uptoBulkAll r
def uptoBulkEntries {H : Type} : List (Lit × DataW H) → Nat
  | [] => 0
  | x :: r => uptoBulkEntry x + uptoBulkEntries r
def uptoBulkEntry {H : Type} : Lit × DataW H → Nat
  | (.string bytes, d) => bytes.length + uptoBulk d + 1
  | (_, d) => uptoBulk d + 1
 end
def uptoSmall : (H : Type) → List (DataW H) → Bool := fun _ ds => decide (uptoBulkAll ds ≤ 1048576)
def OpenSpec.upto (s : _root_.Go.ChangeSpec) : _root_.Go.OpenSpec := { _root_.Go.OpenSpec.ofChange s with cond := some uptoSmall }

/-- 'laws.FnExactIsSpace', WHERE WHAT IT READS IS OF BULK AT MOST 1048576: true; the input reads as it did. -/
def fnExactIsSpaceUptoRow : OpenClaim := { program := "ytpkdlgdjpoempaa", sum := "22ff8f79d4599f53335514a53d87cc7fa701600ed1dece47f109cc8ca67b3c39", func := "loop.example/g01128/laws.FnExactIsSpace", spec := "fnExactIsSpace", unfollowed := true, recurses := true, plainKeys := false, apart := false, narrowed := true }
def FnExactIsSpaceUptoSaid : Prop := fnExactIsSpaceUptoRow.holds Try.pinned (OpenSpec.upto fnExactIsSpaceSpec)

/-- 'laws.FnExactPlaceOf', WHERE WHAT IT READS IS OF BULK AT MOST 1048576: true; the input reads as it did. -/
def fnExactPlaceOfUptoRow : OpenClaim := { program := "ytpkdlgdjpoempaa", sum := "22ff8f79d4599f53335514a53d87cc7fa701600ed1dece47f109cc8ca67b3c39", func := "loop.example/g01128/laws.FnExactPlaceOf", spec := "fnExactPlaceOf", unfollowed := true, recurses := true, plainKeys := false, apart := false, narrowed := true }
def FnExactPlaceOfUptoSaid : Prop := fnExactPlaceOfUptoRow.holds Try.pinned (OpenSpec.upto fnExactPlaceOfSpec)

/-- 'laws.FnExactAreKept', WHERE WHAT IT READS IS OF BULK AT MOST 1048576: true; the input reads as it did. -/
def fnExactAreKeptUptoRow : OpenClaim := { program := "ytpkdlgdjpoempaa", sum := "22ff8f79d4599f53335514a53d87cc7fa701600ed1dece47f109cc8ca67b3c39", func := "loop.example/g01128/laws.FnExactAreKept", spec := "fnExactAreKept", unfollowed := true, recurses := true, plainKeys := false, apart := false, narrowed := true }
def FnExactAreKeptUptoSaid : Prop := fnExactAreKeptUptoRow.holds Try.pinned (OpenSpec.upto fnExactAreKeptSpec)

/-- 'laws.FnExactIsPotential', WHERE WHAT IT READS IS OF BULK AT MOST 1048576: true; the input reads as it did. -/
def fnExactIsPotentialUptoRow : OpenClaim := { program := "ytpkdlgdjpoempaa", sum := "22ff8f79d4599f53335514a53d87cc7fa701600ed1dece47f109cc8ca67b3c39", func := "loop.example/g01128/laws.FnExactIsPotential", spec := "fnExactIsPotential", unfollowed := true, recurses := true, plainKeys := false, apart := false, narrowed := true }
def FnExactIsPotentialUptoSaid : Prop := fnExactIsPotentialUptoRow.holds Try.pinned (OpenSpec.upto fnExactIsPotentialSpec)

/-- 'laws.FnExactPotentialBound', WHERE WHAT IT READS IS OF BULK AT MOST 1048576: true; the input reads as it did. -/
def fnExactPotentialBoundUptoRow : OpenClaim := { program := "ytpkdlgdjpoempaa", sum := "22ff8f79d4599f53335514a53d87cc7fa701600ed1dece47f109cc8ca67b3c39", func := "loop.example/g01128/laws.FnExactPotentialBound", spec := "fnExactPotentialBound", unfollowed := true, recurses := true, plainKeys := false, apart := false, narrowed := true }
def FnExactPotentialBoundUptoSaid : Prop := fnExactPotentialBoundUptoRow.holds Try.pinned (OpenSpec.upto fnExactPotentialBoundSpec)

/-- 'laws.FnExactIsWay', WHERE WHAT IT READS IS OF BULK AT MOST 1048576: true; the input reads as it did. -/
def fnExactIsWayUptoRow : OpenClaim := { program := "ytpkdlgdjpoempaa", sum := "22ff8f79d4599f53335514a53d87cc7fa701600ed1dece47f109cc8ca67b3c39", func := "loop.example/g01128/laws.FnExactIsWay", spec := "fnExactIsWay", unfollowed := true, recurses := true, plainKeys := false, apart := false, narrowed := true }
def FnExactIsWayUptoSaid : Prop := fnExactIsWayUptoRow.holds Try.pinned (OpenSpec.upto fnExactIsWaySpec)

/-- 'laws.FnExactStepsFrom', WHERE WHAT IT READS IS OF BULK AT MOST 1048576: true; the input reads as it did. -/
def fnExactStepsFromUptoRow : OpenClaim := { program := "ytpkdlgdjpoempaa", sum := "22ff8f79d4599f53335514a53d87cc7fa701600ed1dece47f109cc8ca67b3c39", func := "loop.example/g01128/laws.FnExactStepsFrom", spec := "fnExactStepsFrom", unfollowed := true, recurses := true, plainKeys := false, apart := false, narrowed := true }
def FnExactStepsFromUptoSaid : Prop := fnExactStepsFromUptoRow.holds Try.pinned (OpenSpec.upto fnExactStepsFromSpec)

/-- 'laws.FnExactFrozenPlaces', WHERE WHAT IT READS IS OF BULK AT MOST 1048576: true; the input reads as it did. -/
def fnExactFrozenPlacesUptoRow : OpenClaim := { program := "ytpkdlgdjpoempaa", sum := "22ff8f79d4599f53335514a53d87cc7fa701600ed1dece47f109cc8ca67b3c39", func := "loop.example/g01128/laws.FnExactFrozenPlaces", spec := "fnExactFrozenPlaces", unfollowed := true, recurses := true, plainKeys := false, apart := false, narrowed := true }
def FnExactFrozenPlacesUptoSaid : Prop := fnExactFrozenPlacesUptoRow.holds Try.pinned (OpenSpec.upto fnExactFrozenPlacesSpec)

end Rows
end Go.Proofs.Ytpkdlgdjpoempaa

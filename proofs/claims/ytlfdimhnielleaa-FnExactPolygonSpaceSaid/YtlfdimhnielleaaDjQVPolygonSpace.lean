/- CrossingsOf, CommonDiagonals, FanOf: both sides. -/
import Derived.Test.YtlfdimhnielleaaDiQVPolygonSpace
import Derived.Test.YtlfdimhnielleaaDnQVPolygonSpace
import Derived.Test.YtlfdimhnielleaaQgVPolygonSpace
namespace Go.Proofs.Ytlfdimhnielleaa.M
open Go.RowKit Abs
set_option linter.unusedSimpArgs false
set_option linter.unusedVariables false
set_option maxRecDepth 100000
set_option maxHeartbeats 4000000
def cntB (l : List Int) (p : Int → Bool) (k : Nat) : Int := ((l.take k).filter p).length
theorem cntB_next {l : List Int} {p : Int → Bool} {k : Int} (h0 : 0 ≤ k) (h1 : k < (l.length : Int)) : cntB l p (k + 1).toNat = cntB l p k.toNat + if p (gi l k) = true then 1 else 0 := by
  unfold cntB
  rw [take_gi h0 h1, List.filter_append, List.length_append]
  by_cases h : p (gi l k) = true
  · rw [if_pos h, List.filter_cons, if_pos h]; simp
  · rw [if_neg h, List.filter_cons, if_neg h]; simp
theorem cntB_in (l : List Int) (p : Int → Bool) (k : Nat) : 0 ≤ cntB l p k ∧ cntB l p k ≤ l.length := by
  unfold cntB
  have := List.length_filter_le p (l.take k)
  rw [List.length_take] at this
  omega
def crossTo (a b : List Int) : Nat → Int
  | 0 => 0
  | i + 1 => crossTo a b i + cntB b (crossB (gi a i)) b.length
def crossR (n : Int) (a b : List Int) : Int := if vv n a b = true then crossTo a b a.length else 0
end Go.Proofs.Ytlfdimhnielleaa.M

/- The Graph of the pairs that are no neighbours: one contract for each side. -/
import Derived.Test.YthogfineaeklpaaCuQ
import Derived.Test.YthogfineaeklpaaCrQ
namespace Go.Proofs.Ythogfineaeklpaa.M
open Go.RowKit Abs
set_option linter.unusedSimpArgs false
set_option linter.unusedVariables false
set_option maxRecDepth 100000
set_option maxHeartbeats 4000000
theorem sp_clique (n : Int) (l : List (Int × Int)) (hl : l.length ≤ 1048576) : Spec2 Try.prog 31 [.agg (.pr .int (.sl (.pr .int .int))) fun _ => (n, l)] [] [.cells [.int fun _ => cqN n l, .ref 0], .bool fun _ => graphOk n l] [some (.row 70 (.pr .int .int) fun _ => cqF n l)] := by
  unfold cqN cqF
  cases h : graphOk n l with
  | false =>
    simp only [Bool.false_eq_true, if_false]
    exact sp_clique_bad n l hl h
  | true =>
    simp only [if_true]
    exact sp_clique_ok n l hl h
theorem im_clique (n : Int) (l : List (Int × Int)) (hl : l.length ≤ 1048576) : Spec2 Try.prog 32 [.agg (.pr .int (.sl (.pr .int .int))) fun _ => (n, l)] [] [.cells [.int fun _ => cqN n l, .ref 0], .bool fun _ => graphOk n l] [some (.row 70 (.pr .int .int) fun _ => cqF n l)] := by
  unfold cqN cqF
  cases h : graphOk n l with
  | false =>
    simp only [Bool.false_eq_true, if_false]
    exact im_clique_bad n l hl h
  | true =>
    simp only [if_true]
    exact im_clique_ok n l hl h
theorem cq_bound (n : Int) (l : List (Int × Int)) : (cqF n l).length ≤ 1048576 := by
  unfold cqF
  split
  · rename_i h
    obtain ⟨⟨g0, g1⟩, _⟩ := graph_edges h
    have := cqTo_len (l := l) g0 n.toNat
    have h4 : ((n.toNat : Nat) : Int) * n ≤ 8 * 8 := Int.mul_le_mul (by omega) g1 g0 (by omega)
    omega
  · simp
end Go.Proofs.Ythogfineaeklpaa.M

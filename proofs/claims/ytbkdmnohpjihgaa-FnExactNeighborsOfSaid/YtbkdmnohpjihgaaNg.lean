/- What the program answers: Graphs. -/
import Derived.Test.YtbkdmnohpjihgaaNl
import Derived.Test.YtbkdmnohpjihgaaCmp
namespace Go.Proofs.Ytbkdmnohpjihgaa.M
open Go.RowKit Abs
set_option linter.unusedSimpArgs false
set_option linter.unusedVariables false
set_option maxRecDepth 100000
theorem im_cmp (p q : Int × Int) : Spec2 Try.prog 109 [.agg (.pr .int .int) fun _ => p, .agg (.pr .int .int) fun _ => q] [] [.int fun _ => cmpL [p.1, p.2] [q.1, q.2]] [] :=
  toSpec2 (Abs.impl_cmpPairs p q) rfl fun ok w val v h => iInt ok w val v h
theorem cmp_edge (p q : Int × Int) : (0 ≤ cmpL [p.1, p.2] [q.1, q.2]) ↔ edgeLt p q = false := by
  simp only [cmpL, cmpI, edgeLt]
  grind
theorem im_arePairs (l : List (Int × Int)) (n : Int) (hl : l.length ≤ 1048576) : Spec2 Try.prog 96 [.sl (.pr .int .int) fun _ => l, .int fun _ => n] [] [.bool fun _ => pairsOk l n] [] := by
  refine fnS [] [4] Try.func96 rfl (by decide) rfl (by decide) (by kernel_rfl) rfl (by simp [Try.ntmps96]) ?_
  cbv
  refine loopK (by kernel_rfl) (fun k : Int => 0 ≤ k ∧ k ≤ l.length ∧ ∀ j : Int, 0 ≤ j → j < k → goodI l n j = true) (fun k => ⟨mkT 43 [(0, .sl (.pr .int .int) fun _ => l), (1, .int fun _ => n), (7, .sl (.pr .int .int) fun _ => l), (8, .int fun _ => (l.length : Int)), (9, .int fun _ => k)], [], 0⟩) (fun k => (l.length - k).toNat) (· + 1) 0 (by grind) ?_ ?_
  · cbv
    try simp only [IfP_iff, EqU_iff, Obl_iff, and_true, true_and, inI_iff, decide_eq_true_eq, decide_eq_false_iff_not]
  · intro k hk
    have h2 := pairs_bad (l := l) (n := n) (k := k)
    have h3 := pairs_good (l := l) (n := n)
    have h4 : goodI l n k = true → ∀ j : Int, 0 ≤ j → j < k + 1 → goodI l n j = true := fun h j h1 h2 => by
      by_cases hj : j = k
      · rw [hj]; exact h
      · exact hk.2.2 j h1 (by omega)
    have h5 : goodI l n k = _ := rfl
    conv at h5 => rhs; unfold goodI
    have h6 := cmp_edge (getI (.pr .int .int) l (k - 1)) (getI (.pr .int .int) l k)
    cbv
    ((try simp only [IfP_iff, and_true, true_and, decide_eq_true_eq, decide_eq_false_iff_not]); (repeat' (first | apply And.intro | intro _)))
    repeat' (((first | refine call_q (im_cmp _ _) (by cbv) ?_ | refine call_pure (im_cmp _ _) (by cbv) ?_); cbv; ((try simp only [IfP_iff, and_true, true_and, decide_eq_true_eq, decide_eq_false_iff_not]); (repeat' (first | apply And.intro | intro _)))))
    all_goals (try simp only [IfP_iff, EqU_iff, Obl_iff, and_true, true_and, inI_iff, decide_eq_true_eq, decide_eq_false_iff_not])
    all_goals ((repeat' (first | apply And.intro | intro _)) <;> first | omega | grind)
theorem im_graph (n : Int) (l : List (Int × Int)) (hl : l.length ≤ 1048576) : Spec2 Try.prog 59 [.agg (.pr .int (.sl (.pr .int .int))) fun _ => (n, l)] [] [.bool fun _ => graphOk n l] [] := by
  refine fnS [] [2] Try.func59 rfl (by decide) rfl (by decide) (by kernel_rfl) rfl (by simp [Try.ntmps59]) ?_
  have h1 : graphOk n l = (decide (0 ≤ n) && decide (n ≤ 8) && pairsOk l n) := rfl
  cbv
  ((try simp only [IfP_iff, and_true, true_and, decide_eq_true_eq, decide_eq_false_iff_not]); (repeat' (first | apply And.intro | intro _)))
  repeat' (((first | refine call_q (im_arePairs _ _ hl) (by cbv) ?_ | refine call_pure (im_arePairs _ _ hl) (by cbv) ?_); cbv; ((try simp only [IfP_iff, and_true, true_and, decide_eq_true_eq, decide_eq_false_iff_not]); (repeat' (first | apply And.intro | intro _)))))
  all_goals (try simp only [IfP_iff, EqU_iff, Obl_iff, and_true, true_and, inI_iff, decide_eq_true_eq, decide_eq_false_iff_not])
  all_goals ((repeat' (first | apply And.intro | intro _)) <;> first | omega | grind)
end Go.Proofs.Ytbkdmnohpjihgaa.M

/- The law FnExactFoldOrder. -/
import Derived.Test.YtikclhackjjhfaaQz
import Derived.Test.YtikclhackjjhfaaQe
import Derived.Test.YtikclhackjjhfaaLyQ
namespace Go.Proofs.Ytikclhackjjhfaa.M
open Go.RowKit Abs
set_option linter.unusedSimpArgs false
set_option linter.unusedVariables false
set_option maxRecDepth 100000
set_option maxHeartbeats 4000000
set_option maxHeartbeats 8000000
theorem law2_FoldOrder (n0 : Int) (l0 : List (Int × Int)) (hl0 : l0.length ≤ 1048576) : Spec2 Try.prog 3 [.agg (.pr .int (.sl (.pr .int .int))) fun _ => (n0, l0)] [] [.bool fun _ => true] [] := by
  obtain ⟨R0, b1, s1, s2, hR0⟩ : ∃ (R0 : List (Int × Int)) (b1 : Bool), Spec2 Try.prog 15 [.agg (.pr .int (.sl (.pr .int .int))) fun _ => (n0, l0)] [] [.ref 0, .bool fun _ => b1] [some (.row 68 (.pr .int .int) fun _ => R0)] ∧ Spec2 Try.prog 17 [.agg (.pr .int (.sl (.pr .int .int))) fun _ => (n0, l0)] [] [.ref 0, .bool fun _ => b1] [some (.row 68 (.pr .int .int) fun _ => R0)] ∧ R0.length ≤ 1048576 := ⟨_, _, sp_foldOrder n0 l0 hl0, im_foldOrder n0 l0 hl0, fldR_len n0 l0⟩
  have p1 : (0 : Int) ≤ (1 : Int) + (l0.length : Int) * 2 := by omega
  have p2 : (0 : Int) ≤ 1 + (R0.length : Int) * 2 := by omega
  refine fnS [] [2] Try.func3 rfl (by decide) rfl (by decide) (by kernel_rfl) rfl (by simp [Try.ntmps3]) ?_
  cbv
  ((try simp only [IfP_iff, and_true, true_and, decide_eq_true_eq, decide_eq_false_iff_not]); (try simp only [natc, at2_0, at2_1]); (try dsimp only [Ty.den]); (try simp only [natc] at *); (repeat' (first | apply And.intro | intro _)))
  all_goals (repeat' (first | ((first | refine call_q (la_szGraph n0 l0 1048576 (by omega) (by omega)) (by cbv) ?_ | refine call_pure (la_szGraph n0 l0 1048576 (by omega) (by omega)) (by cbv) ?_); cbv; ((try simp only [IfP_iff, and_true, true_and, decide_eq_true_eq, decide_eq_false_iff_not]); (try simp only [natc, at2_0, at2_1]); (try dsimp only [Ty.den]); (try simp only [natc] at *); (repeat' (first | apply And.intro | intro _)))) | ((first | refine call_q (la_toGraph n0 l0 hl0) (by cbv) ?_ | refine call_pure (la_toGraph n0 l0 hl0) (by cbv) ?_); cbv; ((try simp only [IfP_iff, and_true, true_and, decide_eq_true_eq, decide_eq_false_iff_not]); (try simp only [natc, at2_0, at2_1]); (try dsimp only [Ty.den]); (try simp only [natc] at *); (repeat' (first | apply And.intro | intro _)))) | ((first | refine call_q (la_eqGraph _ _) (by cbv) ?_ | refine call_pure (la_eqGraph _ _) (by cbv) ?_); cbv; ((try simp only [IfP_iff, and_true, true_and, decide_eq_true_eq, decide_eq_false_iff_not]); (try simp only [natc, at2_0, at2_1]); (try dsimp only [Ty.den]); (try simp only [natc] at *); (repeat' (first | apply And.intro | intro _)))) | ((first | refine call_q s1 (by cbv) ?_ | refine call_pure s1 (by cbv) ?_); cbv; ((try simp only [IfP_iff, and_true, true_and, decide_eq_true_eq, decide_eq_false_iff_not]); (try simp only [natc, at2_0, at2_1]); (try dsimp only [Ty.den]); (try simp only [natc] at *); (repeat' (first | apply And.intro | intro _)))) | ((first | refine call_q s2 (by cbv) ?_ | refine call_pure s2 (by cbv) ?_); cbv; ((try simp only [IfP_iff, and_true, true_and, decide_eq_true_eq, decide_eq_false_iff_not]); (try simp only [natc, at2_0, at2_1]); (try dsimp only [Ty.den]); (try simp only [natc] at *); (repeat' (first | apply And.intro | intro _)))) | (refine call_own 3 (la_markGraph n0 l0 (1) (by omega) (by omega) hl0) (by cbv) (by cbv; simp only [or_true, true_or, and_true]) ?_; cbv; ((try simp only [IfP_iff, and_true, true_and, decide_eq_true_eq, decide_eq_false_iff_not]); (try simp only [natc, at2_0, at2_1]); (try dsimp only [Ty.den]); (try simp only [natc] at *); (repeat' (first | apply And.intro | intro _)))) | ((first | refine call_q (la_samePairs R0 hR0) (by cbv) ?_ | refine call_pure (la_samePairs R0 hR0) (by cbv) ?_); cbv; ((try simp only [IfP_iff, and_true, true_and, decide_eq_true_eq, decide_eq_false_iff_not]); (try simp only [natc, at2_0, at2_1]); (try dsimp only [Ty.den]); (try simp only [natc] at *); (repeat' (first | apply And.intro | intro _)))) | (refine call_own 5 (la_markPairs R0 1 (by omega) (by omega) hR0) (by cbv) (by cbv; simp only [or_true, true_or, and_true]) ?_; cbv; ((try simp only [IfP_iff, and_true, true_and, decide_eq_true_eq, decide_eq_false_iff_not]); (try simp only [natc, at2_0, at2_1]); (try dsimp only [Ty.den]); (try simp only [natc] at *); (repeat' (first | apply And.intro | intro _)))) | ((first | refine call_q (la_heldPairs _ R0.length 1 rfl (by omega) (by omega) hR0) (by cbv) ?_ | refine call_pure (la_heldPairs _ R0.length 1 rfl (by omega) (by omega) hR0) (by cbv) ?_); cbv; ((try simp only [IfP_iff, and_true, true_and, decide_eq_true_eq, decide_eq_false_iff_not]); (try simp only [natc, at2_0, at2_1]); (try dsimp only [Ty.den]); (try simp only [natc] at *); (repeat' (first | apply And.intro | intro _))))))
  all_goals (try (simp only [IfP_iff, EqU_iff, Obl_iff, and_true, true_and, inI_iff, decide_eq_true_eq, decide_eq_false_iff_not]; (try simp only [natc, at2_0, at2_1]); (try dsimp only [Ty.den]); try simp only [natc] at *))
  all_goals ((repeat' (first | apply And.intro | intro _)) <;> first | omega | (simp only [List.length_append, List.length_cons, List.length_nil]; omega) | grind | exact absurd (by assumption) (Int.not_lt.2 p1) | exact absurd (by assumption) (Int.not_lt.2 p2) | (simp at *; done))
theorem law2_FoldOrder_bign0 (n0 : Int) (l0 : List (Int × Int)) (hb : ¬ l0.length ≤ 1048576) : Spec2 Try.prog 3 [.agg (.pr .int (.sl (.pr .int .int))) fun _ => (n0, l0)] [] [.bool fun _ => true] [] := by
  refine fnS [] [2] Try.func3 rfl (by decide) rfl (by decide) (by kernel_rfl) rfl (by simp [Try.ntmps3]) ?_
  cbv
  ((try simp only [IfP_iff, and_true, true_and, decide_eq_true_eq, decide_eq_false_iff_not]); (try simp only [natc, at2_0, at2_1]); (try dsimp only [Ty.den]); (try simp only [natc] at *); (repeat' (first | apply And.intro | intro _)))
  all_goals (repeat' (first | ((first | refine call_q (la_szGraph n0 l0 1048576 (by omega) (by omega)) (by cbv) ?_ | refine call_pure (la_szGraph n0 l0 1048576 (by omega) (by omega)) (by cbv) ?_); cbv; ((try simp only [IfP_iff, and_true, true_and, decide_eq_true_eq, decide_eq_false_iff_not]); (try simp only [natc, at2_0, at2_1]); (try dsimp only [Ty.den]); (try simp only [natc] at *); (repeat' (first | apply And.intro | intro _))))))
  all_goals (try (simp only [IfP_iff, EqU_iff, Obl_iff, and_true, true_and, inI_iff, decide_eq_true_eq, decide_eq_false_iff_not]; (try simp only [natc, at2_0, at2_1]); (try dsimp only [Ty.den]); try simp only [natc] at *))
  all_goals ((repeat' (first | apply And.intro | intro _)) <;> first | omega | (simp only [List.length_append, List.length_cons, List.length_nil]; omega) | grind)
end Go.Proofs.Ytikclhackjjhfaa.M
namespace Go.Proofs.Ytikclhackjjhfaa.Abs
theorem law_FnExactFoldOrder (g0 : Int × List (Int × Int)) : Spec Try.prog 3 [.agg (.pr .int (.sl (.pr .int .int))) g0] [.im .bool true] := by
  obtain ⟨n0, l0⟩ := g0
  by_cases qn0 : l0.length ≤ 1048576
  case neg => exact M.toSpec (M.law2_FoldOrder_bign0 n0 l0 qn0) M.rBool
  exact M.toSpec (M.law2_FoldOrder n0 l0 qn0) M.rBool
end Go.Proofs.Ytikclhackjjhfaa.Abs
namespace Go.Proofs.Ytikclhackjjhfaa.M
end Go.Proofs.Ytikclhackjjhfaa.M

/- The law FnExactSortSwaps. -/
import Derived.Test.YtoejmijcikehdaaVkQ
import Derived.Test.YtoejmijcikehdaaQe
import Derived.Test.YtoejmijcikehdaaLvQ
import Derived.Test.YtoejmijcikehdaaLyQ
namespace Go.Proofs.Ytoejmijcikehdaa.M
open Go.RowKit Abs
set_option linter.unusedSimpArgs false
set_option linter.unusedVariables false
set_option maxRecDepth 100000
set_option maxHeartbeats 4000000
set_option maxHeartbeats 8000000
theorem law2_SortSwaps (u0 : List Int) (hu0 : u0.length ≤ 1048576) : Spec2 Try.prog 7 [.sl .int fun _ => u0] [] [.bool fun _ => true] [] := by
  obtain ⟨R0, b1, s1, s2, hR0⟩ : ∃ (R0 : List (Int × Int)) (b1 : Bool), Spec2 Try.prog 27 [.sl .int fun _ => u0] [] [.ref 0, .bool fun _ => b1] [some (.row 66 (.pr .int .int) fun _ => R0)] ∧ Spec2 Try.prog 28 [.sl .int fun _ => u0] [] [.ref 0, .bool fun _ => b1] [some (.row 66 (.pr .int .int) fun _ => R0)] ∧ R0.length ≤ 1048576 := ⟨_, _, sp_sortSwaps u0 hu0, im_sortSwaps u0 hu0, (sortR_len u0 hu0)⟩
  have p1 : (0 : Int) ≤ (1 : Int) + (u0.length : Int) := by omega
  have p2 : (0 : Int) ≤ 1 + (R0.length : Int) * 2 := by omega
  refine fnS [] [2] Try.func7 rfl (by decide) rfl (by decide) (by kernel_rfl) rfl (by simp [Try.ntmps7]) ?_
  cbv
  ((try simp only [IfP_iff, and_true, true_and, decide_eq_true_eq, decide_eq_false_iff_not]); (try simp only [natc, at2_0, at2_1]); (try dsimp only [Ty.den]); (try simp only [natc] at *); (repeat' (first | apply And.intro | intro _)))
  all_goals (repeat' (first | ((first | refine call_q (la_toInts u0 hu0) (by cbv) ?_ | refine call_pure (la_toInts u0 hu0) (by cbv) ?_); cbv; ((try simp only [IfP_iff, and_true, true_and, decide_eq_true_eq, decide_eq_false_iff_not]); (try simp only [natc, at2_0, at2_1]); (try dsimp only [Ty.den]); (try simp only [natc] at *); (repeat' (first | apply And.intro | intro _)))) | ((first | refine call_q (la_same u0 hu0) (by cbv) ?_ | refine call_pure (la_same u0 hu0) (by cbv) ?_); cbv; ((try simp only [IfP_iff, and_true, true_and, decide_eq_true_eq, decide_eq_false_iff_not]); (try simp only [natc, at2_0, at2_1]); (try dsimp only [Ty.den]); (try simp only [natc] at *); (repeat' (first | apply And.intro | intro _)))) | ((first | refine call_q s1 (by cbv) ?_ | refine call_pure s1 (by cbv) ?_); cbv; ((try simp only [IfP_iff, and_true, true_and, decide_eq_true_eq, decide_eq_false_iff_not]); (try simp only [natc, at2_0, at2_1]); (try dsimp only [Ty.den]); (try simp only [natc] at *); (repeat' (first | apply And.intro | intro _)))) | ((first | refine call_q s2 (by cbv) ?_ | refine call_pure s2 (by cbv) ?_); cbv; ((try simp only [IfP_iff, and_true, true_and, decide_eq_true_eq, decide_eq_false_iff_not]); (try simp only [natc, at2_0, at2_1]); (try dsimp only [Ty.den]); (try simp only [natc] at *); (repeat' (first | apply And.intro | intro _)))) | (refine call_own 2 (la_markInts u0 (1) (by omega) (by omega) hu0) (by cbv) (by cbv; simp only [or_true, true_or, and_true]) ?_; cbv; ((try simp only [IfP_iff, and_true, true_and, decide_eq_true_eq, decide_eq_false_iff_not]); (try simp only [natc, at2_0, at2_1]); (try dsimp only [Ty.den]); (try simp only [natc] at *); (repeat' (first | apply And.intro | intro _)))) | ((first | refine call_q (la_samePairs R0 hR0) (by cbv) ?_ | refine call_pure (la_samePairs R0 hR0) (by cbv) ?_); cbv; ((try simp only [IfP_iff, and_true, true_and, decide_eq_true_eq, decide_eq_false_iff_not]); (try simp only [natc, at2_0, at2_1]); (try dsimp only [Ty.den]); (try simp only [natc] at *); (repeat' (first | apply And.intro | intro _)))) | (refine call_own 3 (la_markPairs R0 1 (by omega) (by omega) hR0) (by cbv) (by cbv; simp only [or_true, true_or, and_true]) ?_; cbv; ((try simp only [IfP_iff, and_true, true_and, decide_eq_true_eq, decide_eq_false_iff_not]); (try simp only [natc, at2_0, at2_1]); (try dsimp only [Ty.den]); (try simp only [natc] at *); (repeat' (first | apply And.intro | intro _)))) | ((first | refine call_q (la_heldPairs _ R0.length 1 rfl (by omega) (by omega) hR0) (by cbv) ?_ | refine call_pure (la_heldPairs _ R0.length 1 rfl (by omega) (by omega) hR0) (by cbv) ?_); cbv; ((try simp only [IfP_iff, and_true, true_and, decide_eq_true_eq, decide_eq_false_iff_not]); (try simp only [natc, at2_0, at2_1]); (try dsimp only [Ty.den]); (try simp only [natc] at *); (repeat' (first | apply And.intro | intro _))))))
  all_goals (try (simp only [IfP_iff, EqU_iff, Obl_iff, and_true, true_and, inI_iff, decide_eq_true_eq, decide_eq_false_iff_not]; (try simp only [natc, at2_0, at2_1]); (try dsimp only [Ty.den]); try simp only [natc] at *))
  all_goals ((repeat' (first | apply And.intro | intro _)) <;> first | omega | (simp only [List.length_append, List.length_cons, List.length_nil]; omega) | grind | exact absurd (by assumption) (Int.not_lt.2 p1) | exact absurd (by assumption) (Int.not_lt.2 p2) | (simp at *; done))
theorem law2_SortSwaps_bigu0 (u0 : List Int) (hb : ¬ u0.length ≤ 1048576) : Spec2 Try.prog 7 [.sl .int fun _ => u0] [] [.bool fun _ => true] [] := by
  refine fnS [] [2] Try.func7 rfl (by decide) rfl (by decide) (by kernel_rfl) rfl (by simp [Try.ntmps7]) ?_
  cbv
  ((try simp only [IfP_iff, and_true, true_and, decide_eq_true_eq, decide_eq_false_iff_not]); (try simp only [natc, at2_0, at2_1]); (try dsimp only [Ty.den]); (try simp only [natc] at *); (repeat' (first | apply And.intro | intro _)))
  skip
  all_goals (try (simp only [IfP_iff, EqU_iff, Obl_iff, and_true, true_and, inI_iff, decide_eq_true_eq, decide_eq_false_iff_not]; (try simp only [natc, at2_0, at2_1]); (try dsimp only [Ty.den]); try simp only [natc] at *))
  all_goals ((repeat' (first | apply And.intro | intro _)) <;> first | omega | (simp only [List.length_append, List.length_cons, List.length_nil]; omega) | grind)
end Go.Proofs.Ytoejmijcikehdaa.M
namespace Go.Proofs.Ytoejmijcikehdaa.Abs
theorem law_FnExactSortSwaps (u0 : List Int) : Spec Try.prog 7 [.sl .int u0] [.im .bool true] := by
  by_cases qu0 : u0.length ≤ 1048576
  case neg => exact M.toSpec (M.law2_SortSwaps_bigu0 u0 qu0) M.rBool
  exact M.toSpec (M.law2_SortSwaps u0 qu0) M.rBool
end Go.Proofs.Ytoejmijcikehdaa.Abs
namespace Go.Proofs.Ytoejmijcikehdaa.M
end Go.Proofs.Ytoejmijcikehdaa.M

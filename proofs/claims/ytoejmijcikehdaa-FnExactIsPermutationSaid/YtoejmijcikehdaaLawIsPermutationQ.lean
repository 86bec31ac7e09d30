/- The law FnExactIsPermutation. -/
import Derived.Test.YtoejmijcikehdaaVcQ
import Derived.Test.YtoejmijcikehdaaQe
import Derived.Test.YtoejmijcikehdaaLvQ
namespace Go.Proofs.Ytoejmijcikehdaa.M
open Go.RowKit Abs
set_option linter.unusedSimpArgs false
set_option linter.unusedVariables false
set_option maxRecDepth 100000
set_option maxHeartbeats 4000000
set_option maxHeartbeats 8000000
theorem law2_IsPermutation (u0 : List Int) (hu0 : u0.length ≤ 1048576) : Spec2 Try.prog 3 [.sl .int fun _ => u0] [] [.bool fun _ => true] [] := by
  obtain ⟨b0, s1, s2⟩ : ∃ (b0 : Bool), Spec2 Try.prog 13 [.sl .int fun _ => u0] [] [.bool fun _ => b0] [] ∧ Spec2 Try.prog 15 [.sl .int fun _ => u0] [] [.bool fun _ => b0] [] := ⟨_, im_isPermS u0 hu0, im_perm u0 hu0⟩
  refine fnS [] [2] Try.func3 rfl (by decide) rfl (by decide) (by kernel_rfl) rfl (by simp [Try.ntmps3]) ?_
  cbv
  ((try simp only [IfP_iff, and_true, true_and, decide_eq_true_eq, decide_eq_false_iff_not]); (try simp only [natc, at2_0, at2_1]); (try dsimp only [Ty.den]); (try simp only [natc] at *); (repeat' (first | apply And.intro | intro _)))
  all_goals (repeat' (first | ((first | refine call_q (la_toInts u0 hu0) (by cbv) ?_ | refine call_pure (la_toInts u0 hu0) (by cbv) ?_); cbv; ((try simp only [IfP_iff, and_true, true_and, decide_eq_true_eq, decide_eq_false_iff_not]); (try simp only [natc, at2_0, at2_1]); (try dsimp only [Ty.den]); (try simp only [natc] at *); (repeat' (first | apply And.intro | intro _)))) | ((first | refine call_q (la_same u0 hu0) (by cbv) ?_ | refine call_pure (la_same u0 hu0) (by cbv) ?_); cbv; ((try simp only [IfP_iff, and_true, true_and, decide_eq_true_eq, decide_eq_false_iff_not]); (try simp only [natc, at2_0, at2_1]); (try dsimp only [Ty.den]); (try simp only [natc] at *); (repeat' (first | apply And.intro | intro _)))) | ((first | refine call_q s1 (by cbv) ?_ | refine call_pure s1 (by cbv) ?_); cbv; ((try simp only [IfP_iff, and_true, true_and, decide_eq_true_eq, decide_eq_false_iff_not]); (try simp only [natc, at2_0, at2_1]); (try dsimp only [Ty.den]); (try simp only [natc] at *); (repeat' (first | apply And.intro | intro _)))) | ((first | refine call_q s2 (by cbv) ?_ | refine call_pure s2 (by cbv) ?_); cbv; ((try simp only [IfP_iff, and_true, true_and, decide_eq_true_eq, decide_eq_false_iff_not]); (try simp only [natc, at2_0, at2_1]); (try dsimp only [Ty.den]); (try simp only [natc] at *); (repeat' (first | apply And.intro | intro _))))))
  all_goals (try (simp only [IfP_iff, EqU_iff, Obl_iff, and_true, true_and, inI_iff, decide_eq_true_eq, decide_eq_false_iff_not]; (try simp only [natc, at2_0, at2_1]); (try dsimp only [Ty.den]); try simp only [natc] at *))
  all_goals ((repeat' (first | apply And.intro | intro _)) <;> first | omega | (simp only [List.length_append, List.length_cons, List.length_nil]; omega) | grind | (simp at *; done))
theorem law2_IsPermutation_bigu0 (u0 : List Int) (hb : ¬ u0.length ≤ 1048576) : Spec2 Try.prog 3 [.sl .int fun _ => u0] [] [.bool fun _ => true] [] := by
  refine fnS [] [2] Try.func3 rfl (by decide) rfl (by decide) (by kernel_rfl) rfl (by simp [Try.ntmps3]) ?_
  cbv
  ((try simp only [IfP_iff, and_true, true_and, decide_eq_true_eq, decide_eq_false_iff_not]); (try simp only [natc, at2_0, at2_1]); (try dsimp only [Ty.den]); (try simp only [natc] at *); (repeat' (first | apply And.intro | intro _)))
  skip
  all_goals (try (simp only [IfP_iff, EqU_iff, Obl_iff, and_true, true_and, inI_iff, decide_eq_true_eq, decide_eq_false_iff_not]; (try simp only [natc, at2_0, at2_1]); (try dsimp only [Ty.den]); try simp only [natc] at *))
  all_goals ((repeat' (first | apply And.intro | intro _)) <;> first | omega | (simp only [List.length_append, List.length_cons, List.length_nil]; omega) | grind)
end Go.Proofs.Ytoejmijcikehdaa.M
namespace Go.Proofs.Ytoejmijcikehdaa.Abs
theorem law_FnExactIsPermutation (u0 : List Int) : Spec Try.prog 3 [.sl .int u0] [.im .bool true] := by
  by_cases qu0 : u0.length ≤ 1048576
  case neg => exact M.toSpec (M.law2_IsPermutation_bigu0 u0 qu0) M.rBool
  exact M.toSpec (M.law2_IsPermutation u0 qu0) M.rBool
end Go.Proofs.Ytoejmijcikehdaa.Abs
namespace Go.Proofs.Ytoejmijcikehdaa.M
end Go.Proofs.Ytoejmijcikehdaa.M

/- The law FnExactSameClass. -/
import Derived.Test.YtnofnnhclogcmaaQw
import Derived.Test.YtnofnnhclogcmaaQe
import Derived.Test.YtnofnnhclogcmaaLvQ
namespace Go.Proofs.Ytnofnnhclogcmaa.M
open Go.RowKit Abs
set_option linter.unusedSimpArgs false
set_option linter.unusedVariables false
set_option maxRecDepth 100000
set_option maxHeartbeats 4000000
set_option maxHeartbeats 8000000
theorem law2_SameClass (v0 : Int) (u1 : List Int) (u2 : List Int) (hu1 : u1.length ≤ 1048576) (hu2 : u2.length ≤ 1048576) : Spec2 Try.prog 9 [.int fun _ => v0, .sl .int fun _ => u1, .sl .int fun _ => u2] [] [.bool fun _ => true] [] := by
  obtain ⟨b0, b1, s1, s2⟩ : ∃ (b0 : Bool) (b1 : Bool), Spec2 Try.prog 28 [.int fun _ => v0, .sl .int fun _ => u1, .sl .int fun _ => u2] [] [.bool fun _ => b0, .bool fun _ => b1] [] ∧ Spec2 Try.prog 29 [.int fun _ => v0, .sl .int fun _ => u1, .sl .int fun _ => u2] [] [.bool fun _ => b0, .bool fun _ => b1] [] := ⟨_, _, sp_sameClass v0 u1 u2 hu1 hu2, im_sameClass v0 u1 u2 hu1 hu2⟩
  refine fnS [] [6] Try.func9 rfl (by decide) rfl (by decide) (by kernel_rfl) rfl (by simp [Try.ntmps9]) ?_
  cbv
  ((try simp only [IfP_iff, and_true, true_and, decide_eq_true_eq, decide_eq_false_iff_not]); (try simp only [natc, at2_0, at2_1]); (try dsimp only [Ty.den]); (try simp only [natc] at *); (repeat' (first | apply And.intro | intro _)))
  all_goals (repeat' (first | ((first | refine call_q (la_toInts u1 hu1) (by cbv) ?_ | refine call_pure (la_toInts u1 hu1) (by cbv) ?_); cbv; ((try simp only [IfP_iff, and_true, true_and, decide_eq_true_eq, decide_eq_false_iff_not]); (try simp only [natc, at2_0, at2_1]); (try dsimp only [Ty.den]); (try simp only [natc] at *); (repeat' (first | apply And.intro | intro _)))) | ((first | refine call_q (la_same u1 hu1) (by cbv) ?_ | refine call_pure (la_same u1 hu1) (by cbv) ?_); cbv; ((try simp only [IfP_iff, and_true, true_and, decide_eq_true_eq, decide_eq_false_iff_not]); (try simp only [natc, at2_0, at2_1]); (try dsimp only [Ty.den]); (try simp only [natc] at *); (repeat' (first | apply And.intro | intro _)))) | ((first | refine call_q (la_toInts u2 hu2) (by cbv) ?_ | refine call_pure (la_toInts u2 hu2) (by cbv) ?_); cbv; ((try simp only [IfP_iff, and_true, true_and, decide_eq_true_eq, decide_eq_false_iff_not]); (try simp only [natc, at2_0, at2_1]); (try dsimp only [Ty.den]); (try simp only [natc] at *); (repeat' (first | apply And.intro | intro _)))) | ((first | refine call_q (la_same u2 hu2) (by cbv) ?_ | refine call_pure (la_same u2 hu2) (by cbv) ?_); cbv; ((try simp only [IfP_iff, and_true, true_and, decide_eq_true_eq, decide_eq_false_iff_not]); (try simp only [natc, at2_0, at2_1]); (try dsimp only [Ty.den]); (try simp only [natc] at *); (repeat' (first | apply And.intro | intro _)))) | ((first | refine call_q s1 (by cbv) ?_ | refine call_pure s1 (by cbv) ?_); cbv; ((try simp only [IfP_iff, and_true, true_and, decide_eq_true_eq, decide_eq_false_iff_not]); (try simp only [natc, at2_0, at2_1]); (try dsimp only [Ty.den]); (try simp only [natc] at *); (repeat' (first | apply And.intro | intro _)))) | ((first | refine call_q s2 (by cbv) ?_ | refine call_pure s2 (by cbv) ?_); cbv; ((try simp only [IfP_iff, and_true, true_and, decide_eq_true_eq, decide_eq_false_iff_not]); (try simp only [natc, at2_0, at2_1]); (try dsimp only [Ty.den]); (try simp only [natc] at *); (repeat' (first | apply And.intro | intro _))))))
  all_goals (try (simp only [IfP_iff, EqU_iff, Obl_iff, and_true, true_and, inI_iff, decide_eq_true_eq, decide_eq_false_iff_not]; (try simp only [natc, at2_0, at2_1]); (try dsimp only [Ty.den]); try simp only [natc] at *))
  all_goals ((repeat' (first | apply And.intro | intro _)) <;> first | omega | (simp only [List.length_append, List.length_cons, List.length_nil]; omega) | grind | (simp at *; done))
theorem law2_SameClass_bigu1 (v0 : Int) (u1 : List Int) (u2 : List Int) (hb : ¬ u1.length ≤ 1048576) : Spec2 Try.prog 9 [.int fun _ => v0, .sl .int fun _ => u1, .sl .int fun _ => u2] [] [.bool fun _ => true] [] := by
  refine fnS [] [6] Try.func9 rfl (by decide) rfl (by decide) (by kernel_rfl) rfl (by simp [Try.ntmps9]) ?_
  cbv
  ((try simp only [IfP_iff, and_true, true_and, decide_eq_true_eq, decide_eq_false_iff_not]); (try simp only [natc, at2_0, at2_1]); (try dsimp only [Ty.den]); (try simp only [natc] at *); (repeat' (first | apply And.intro | intro _)))
  skip
  all_goals (try (simp only [IfP_iff, EqU_iff, Obl_iff, and_true, true_and, inI_iff, decide_eq_true_eq, decide_eq_false_iff_not]; (try simp only [natc, at2_0, at2_1]); (try dsimp only [Ty.den]); try simp only [natc] at *))
  all_goals ((repeat' (first | apply And.intro | intro _)) <;> first | omega | (simp only [List.length_append, List.length_cons, List.length_nil]; omega) | grind)
theorem law2_SameClass_bigu2 (v0 : Int) (u1 : List Int) (u2 : List Int) (hb : ¬ u2.length ≤ 1048576) : Spec2 Try.prog 9 [.int fun _ => v0, .sl .int fun _ => u1, .sl .int fun _ => u2] [] [.bool fun _ => true] [] := by
  refine fnS [] [6] Try.func9 rfl (by decide) rfl (by decide) (by kernel_rfl) rfl (by simp [Try.ntmps9]) ?_
  cbv
  ((try simp only [IfP_iff, and_true, true_and, decide_eq_true_eq, decide_eq_false_iff_not]); (try simp only [natc, at2_0, at2_1]); (try dsimp only [Ty.den]); (try simp only [natc] at *); (repeat' (first | apply And.intro | intro _)))
  skip
  all_goals (try (simp only [IfP_iff, EqU_iff, Obl_iff, and_true, true_and, inI_iff, decide_eq_true_eq, decide_eq_false_iff_not]; (try simp only [natc, at2_0, at2_1]); (try dsimp only [Ty.den]); try simp only [natc] at *))
  all_goals ((repeat' (first | apply And.intro | intro _)) <;> first | omega | (simp only [List.length_append, List.length_cons, List.length_nil]; omega) | grind)
end Go.Proofs.Ytnofnnhclogcmaa.M
namespace Go.Proofs.Ytnofnnhclogcmaa.Abs
theorem law_FnExactSameClass (v0 : Int) (u1 : List Int) (u2 : List Int) : Spec Try.prog 9 [.int v0, .sl .int u1, .sl .int u2] [.im .bool true] := by
  by_cases qu1 : u1.length ≤ 1048576
  case neg => exact M.toSpec (M.law2_SameClass_bigu1 v0 u1 u2 qu1) M.rBool
  by_cases qu2 : u2.length ≤ 1048576
  case neg => exact M.toSpec (M.law2_SameClass_bigu2 v0 u1 u2 qu2) M.rBool
  exact M.toSpec (M.law2_SameClass v0 u1 u2 qu1 qu2) M.rBool
end Go.Proofs.Ytnofnnhclogcmaa.Abs
namespace Go.Proofs.Ytnofnnhclogcmaa.M
end Go.Proofs.Ytnofnnhclogcmaa.M

/- The law FnExactIsIndependent. -/
import Derived.Test.YthogfineaeklpaaInQ
import Derived.Test.YthogfineaeklpaaQe
import Derived.Test.YthogfineaeklpaaLvQ
namespace Go.Proofs.Ythogfineaeklpaa.M
open Go.RowKit Abs
set_option linter.unusedSimpArgs false
set_option linter.unusedVariables false
set_option maxRecDepth 100000
set_option maxHeartbeats 4000000
set_option maxHeartbeats 8000000
theorem law2_IsIndependent (n0 : Int) (l0 : List (Int × Int)) (u1 : List Int) (hl0 : l0.length ≤ 1048576) (hu1 : u1.length ≤ 1048576) : Spec2 Try.prog 3 [.agg (.pr .int (.sl (.pr .int .int))) fun _ => (n0, l0), .sl .int fun _ => u1] [] [.bool fun _ => true] [] := by
  obtain ⟨b0, b1, s1, s2⟩ : ∃ (b0 : Bool) (b1 : Bool), Spec2 Try.prog 16 [.agg (.pr .int (.sl (.pr .int .int))) fun _ => (n0, l0), .sl .int fun _ => u1] [] [.bool fun _ => b0, .bool fun _ => b1] [] ∧ Spec2 Try.prog 19 [.agg (.pr .int (.sl (.pr .int .int))) fun _ => (n0, l0), .sl .int fun _ => u1] [] [.bool fun _ => b0, .bool fun _ => b1] [] := ⟨_, _, sp_indep n0 l0 u1 hl0 hu1, im_indep' n0 l0 u1 hl0 hu1⟩
  refine fnS [] [4] Try.func3 rfl (by decide) rfl (by decide) (by kernel_rfl) rfl (by simp [Try.ntmps3]) ?_
  cbv
  ((try simp only [IfP_iff, and_true, true_and, decide_eq_true_eq, decide_eq_false_iff_not]); (try simp only [natc, at2_0, at2_1]); (try dsimp only [Ty.den]); (try simp only [natc] at *); (repeat' (first | apply And.intro | intro _)))
  all_goals (repeat' (first | ((first | refine call_q (la_szGraph n0 l0 1048576 (by omega) (by omega)) (by cbv) ?_ | refine call_pure (la_szGraph n0 l0 1048576 (by omega) (by omega)) (by cbv) ?_); cbv; ((try simp only [IfP_iff, and_true, true_and, decide_eq_true_eq, decide_eq_false_iff_not]); (try simp only [natc, at2_0, at2_1]); (try dsimp only [Ty.den]); (try simp only [natc] at *); (repeat' (first | apply And.intro | intro _)))) | ((first | refine call_q (la_toGraph n0 l0 hl0) (by cbv) ?_ | refine call_pure (la_toGraph n0 l0 hl0) (by cbv) ?_); cbv; ((try simp only [IfP_iff, and_true, true_and, decide_eq_true_eq, decide_eq_false_iff_not]); (try simp only [natc, at2_0, at2_1]); (try dsimp only [Ty.den]); (try simp only [natc] at *); (repeat' (first | apply And.intro | intro _)))) | ((first | refine call_q (la_eqGraph _ _) (by cbv) ?_ | refine call_pure (la_eqGraph _ _) (by cbv) ?_); cbv; ((try simp only [IfP_iff, and_true, true_and, decide_eq_true_eq, decide_eq_false_iff_not]); (try simp only [natc, at2_0, at2_1]); (try dsimp only [Ty.den]); (try simp only [natc] at *); (repeat' (first | apply And.intro | intro _)))) | ((first | refine call_q (la_toInts u1 hu1) (by cbv) ?_ | refine call_pure (la_toInts u1 hu1) (by cbv) ?_); cbv; ((try simp only [IfP_iff, and_true, true_and, decide_eq_true_eq, decide_eq_false_iff_not]); (try simp only [natc, at2_0, at2_1]); (try dsimp only [Ty.den]); (try simp only [natc] at *); (repeat' (first | apply And.intro | intro _)))) | ((first | refine call_q (la_same u1 hu1) (by cbv) ?_ | refine call_pure (la_same u1 hu1) (by cbv) ?_); cbv; ((try simp only [IfP_iff, and_true, true_and, decide_eq_true_eq, decide_eq_false_iff_not]); (try simp only [natc, at2_0, at2_1]); (try dsimp only [Ty.den]); (try simp only [natc] at *); (repeat' (first | apply And.intro | intro _)))) | ((first | refine call_q s1 (by cbv) ?_ | refine call_pure s1 (by cbv) ?_); cbv; ((try simp only [IfP_iff, and_true, true_and, decide_eq_true_eq, decide_eq_false_iff_not]); (try simp only [natc, at2_0, at2_1]); (try dsimp only [Ty.den]); (try simp only [natc] at *); (repeat' (first | apply And.intro | intro _)))) | ((first | refine call_q s2 (by cbv) ?_ | refine call_pure s2 (by cbv) ?_); cbv; ((try simp only [IfP_iff, and_true, true_and, decide_eq_true_eq, decide_eq_false_iff_not]); (try simp only [natc, at2_0, at2_1]); (try dsimp only [Ty.den]); (try simp only [natc] at *); (repeat' (first | apply And.intro | intro _))))))
  all_goals (try (simp only [IfP_iff, EqU_iff, Obl_iff, and_true, true_and, inI_iff, decide_eq_true_eq, decide_eq_false_iff_not]; (try simp only [natc, at2_0, at2_1]); (try dsimp only [Ty.den]); try simp only [natc] at *))
  all_goals ((repeat' (first | apply And.intro | intro _)) <;> first | omega | (simp only [List.length_append, List.length_cons, List.length_nil]; omega) | grind | (simp at *; done))
theorem law2_IsIndependent_bign0 (n0 : Int) (l0 : List (Int × Int)) (u1 : List Int) (hb : ¬ l0.length ≤ 1048576) : Spec2 Try.prog 3 [.agg (.pr .int (.sl (.pr .int .int))) fun _ => (n0, l0), .sl .int fun _ => u1] [] [.bool fun _ => true] [] := by
  refine fnS [] [4] Try.func3 rfl (by decide) rfl (by decide) (by kernel_rfl) rfl (by simp [Try.ntmps3]) ?_
  cbv
  ((try simp only [IfP_iff, and_true, true_and, decide_eq_true_eq, decide_eq_false_iff_not]); (try simp only [natc, at2_0, at2_1]); (try dsimp only [Ty.den]); (try simp only [natc] at *); (repeat' (first | apply And.intro | intro _)))
  all_goals (repeat' (first | ((first | refine call_q (la_szGraph n0 l0 1048576 (by omega) (by omega)) (by cbv) ?_ | refine call_pure (la_szGraph n0 l0 1048576 (by omega) (by omega)) (by cbv) ?_); cbv; ((try simp only [IfP_iff, and_true, true_and, decide_eq_true_eq, decide_eq_false_iff_not]); (try simp only [natc, at2_0, at2_1]); (try dsimp only [Ty.den]); (try simp only [natc] at *); (repeat' (first | apply And.intro | intro _))))))
  all_goals (try (simp only [IfP_iff, EqU_iff, Obl_iff, and_true, true_and, inI_iff, decide_eq_true_eq, decide_eq_false_iff_not]; (try simp only [natc, at2_0, at2_1]); (try dsimp only [Ty.den]); try simp only [natc] at *))
  all_goals ((repeat' (first | apply And.intro | intro _)) <;> first | omega | (simp only [List.length_append, List.length_cons, List.length_nil]; omega) | grind)
theorem law2_IsIndependent_bigu1 (n0 : Int) (l0 : List (Int × Int)) (u1 : List Int) (hb : ¬ u1.length ≤ 1048576) : Spec2 Try.prog 3 [.agg (.pr .int (.sl (.pr .int .int))) fun _ => (n0, l0), .sl .int fun _ => u1] [] [.bool fun _ => true] [] := by
  refine fnS [] [4] Try.func3 rfl (by decide) rfl (by decide) (by kernel_rfl) rfl (by simp [Try.ntmps3]) ?_
  cbv
  ((try simp only [IfP_iff, and_true, true_and, decide_eq_true_eq, decide_eq_false_iff_not]); (try simp only [natc, at2_0, at2_1]); (try dsimp only [Ty.den]); (try simp only [natc] at *); (repeat' (first | apply And.intro | intro _)))
  all_goals (repeat' (first | ((first | refine call_q (la_szGraph n0 l0 1048576 (by omega) (by omega)) (by cbv) ?_ | refine call_pure (la_szGraph n0 l0 1048576 (by omega) (by omega)) (by cbv) ?_); cbv; ((try simp only [IfP_iff, and_true, true_and, decide_eq_true_eq, decide_eq_false_iff_not]); (try simp only [natc, at2_0, at2_1]); (try dsimp only [Ty.den]); (try simp only [natc] at *); (repeat' (first | apply And.intro | intro _))))))
  all_goals (try (simp only [IfP_iff, EqU_iff, Obl_iff, and_true, true_and, inI_iff, decide_eq_true_eq, decide_eq_false_iff_not]; (try simp only [natc, at2_0, at2_1]); (try dsimp only [Ty.den]); try simp only [natc] at *))
  all_goals ((repeat' (first | apply And.intro | intro _)) <;> first | omega | (simp only [List.length_append, List.length_cons, List.length_nil]; omega) | grind)
end Go.Proofs.Ythogfineaeklpaa.M
namespace Go.Proofs.Ythogfineaeklpaa.Abs
theorem law_FnExactIsIndependent (g0 : Int × List (Int × Int)) (u1 : List Int) : Spec Try.prog 3 [.agg (.pr .int (.sl (.pr .int .int))) g0, .sl .int u1] [.im .bool true] := by
  obtain ⟨n0, l0⟩ := g0
  by_cases qn0 : l0.length ≤ 1048576
  case neg => exact M.toSpec (M.law2_IsIndependent_bign0 n0 l0 u1 qn0) M.rBool
  by_cases qu1 : u1.length ≤ 1048576
  case neg => exact M.toSpec (M.law2_IsIndependent_bigu1 n0 l0 u1 qu1) M.rBool
  exact M.toSpec (M.law2_IsIndependent n0 l0 u1 qn0 qu1) M.rBool
end Go.Proofs.Ythogfineaeklpaa.Abs
namespace Go.Proofs.Ythogfineaeklpaa.M
end Go.Proofs.Ythogfineaeklpaa.M

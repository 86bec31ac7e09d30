/- The law FnExactIsTightSet. -/
import Derived.Test.YthogfineaeklpaaKvQ
import Derived.Test.YthogfineaeklpaaQe
import Derived.Test.YthogfineaeklpaaLvQ
namespace Go.Proofs.Ythogfineaeklpaa.M
open Go.RowKit Abs
set_option linter.unusedSimpArgs false
set_option linter.unusedVariables false
set_option maxRecDepth 100000
set_option maxHeartbeats 4000000
set_option maxHeartbeats 8000000
theorem law2_IsTightSet (n0 : Int) (l0 : List (Int × Int)) (v1 : Int) (u2 : List Int) (hl0 : l0.length ≤ 1048576) (hu2 : u2.length ≤ 1048576) : Spec2 Try.prog 5 [.agg (.pr .int (.sl (.pr .int .int))) fun _ => (n0, l0), .int fun _ => v1, .sl .int fun _ => u2] [] [.bool fun _ => true] [] := by
  obtain ⟨b0, b1, s1, s2⟩ : ∃ (b0 : Bool) (b1 : Bool), Spec2 Try.prog 24 [.agg (.pr .int (.sl (.pr .int .int))) fun _ => (n0, l0), .int fun _ => v1, .sl .int fun _ => u2] [] [.bool fun _ => b0, .bool fun _ => b1] [] ∧ Spec2 Try.prog 25 [.agg (.pr .int (.sl (.pr .int .int))) fun _ => (n0, l0), .int fun _ => v1, .sl .int fun _ => u2] [] [.bool fun _ => b0, .bool fun _ => b1] [] := ⟨_, _, sp_tightSet n0 l0 v1 u2 hl0 hu2, im_tightSet n0 l0 v1 u2 hl0 hu2⟩
  refine fnS [] [6] Try.func5 rfl (by decide) rfl (by decide) (by kernel_rfl) rfl (by simp [Try.ntmps5]) ?_
  cbv
  ((try simp only [IfP_iff, and_true, true_and, decide_eq_true_eq, decide_eq_false_iff_not]); (try simp only [natc, at2_0, at2_1]); (try dsimp only [Ty.den]); (try simp only [natc] at *); (repeat' (first | apply And.intro | intro _)))
  all_goals (repeat' (first | ((first | refine call_q (la_szGraph n0 l0 1048576 (by omega) (by omega)) (by cbv) ?_ | refine call_pure (la_szGraph n0 l0 1048576 (by omega) (by omega)) (by cbv) ?_); cbv; ((try simp only [IfP_iff, and_true, true_and, decide_eq_true_eq, decide_eq_false_iff_not]); (try simp only [natc, at2_0, at2_1]); (try dsimp only [Ty.den]); (try simp only [natc] at *); (repeat' (first | apply And.intro | intro _)))) | ((first | refine call_q (la_toGraph n0 l0 hl0) (by cbv) ?_ | refine call_pure (la_toGraph n0 l0 hl0) (by cbv) ?_); cbv; ((try simp only [IfP_iff, and_true, true_and, decide_eq_true_eq, decide_eq_false_iff_not]); (try simp only [natc, at2_0, at2_1]); (try dsimp only [Ty.den]); (try simp only [natc] at *); (repeat' (first | apply And.intro | intro _)))) | ((first | refine call_q (la_eqGraph _ _) (by cbv) ?_ | refine call_pure (la_eqGraph _ _) (by cbv) ?_); cbv; ((try simp only [IfP_iff, and_true, true_and, decide_eq_true_eq, decide_eq_false_iff_not]); (try simp only [natc, at2_0, at2_1]); (try dsimp only [Ty.den]); (try simp only [natc] at *); (repeat' (first | apply And.intro | intro _)))) | ((first | refine call_q (la_toInts u2 hu2) (by cbv) ?_ | refine call_pure (la_toInts u2 hu2) (by cbv) ?_); cbv; ((try simp only [IfP_iff, and_true, true_and, decide_eq_true_eq, decide_eq_false_iff_not]); (try simp only [natc, at2_0, at2_1]); (try dsimp only [Ty.den]); (try simp only [natc] at *); (repeat' (first | apply And.intro | intro _)))) | ((first | refine call_q (la_same u2 hu2) (by cbv) ?_ | refine call_pure (la_same u2 hu2) (by cbv) ?_); cbv; ((try simp only [IfP_iff, and_true, true_and, decide_eq_true_eq, decide_eq_false_iff_not]); (try simp only [natc, at2_0, at2_1]); (try dsimp only [Ty.den]); (try simp only [natc] at *); (repeat' (first | apply And.intro | intro _)))) | ((first | refine call_q s1 (by cbv) ?_ | refine call_pure s1 (by cbv) ?_); cbv; ((try simp only [IfP_iff, and_true, true_and, decide_eq_true_eq, decide_eq_false_iff_not]); (try simp only [natc, at2_0, at2_1]); (try dsimp only [Ty.den]); (try simp only [natc] at *); (repeat' (first | apply And.intro | intro _)))) | ((first | refine call_q s2 (by cbv) ?_ | refine call_pure s2 (by cbv) ?_); cbv; ((try simp only [IfP_iff, and_true, true_and, decide_eq_true_eq, decide_eq_false_iff_not]); (try simp only [natc, at2_0, at2_1]); (try dsimp only [Ty.den]); (try simp only [natc] at *); (repeat' (first | apply And.intro | intro _))))))
  all_goals (try (simp only [IfP_iff, EqU_iff, Obl_iff, and_true, true_and, inI_iff, decide_eq_true_eq, decide_eq_false_iff_not]; (try simp only [natc, at2_0, at2_1]); (try dsimp only [Ty.den]); try simp only [natc] at *))
  all_goals ((repeat' (first | apply And.intro | intro _)) <;> first | omega | (simp only [List.length_append, List.length_cons, List.length_nil]; omega) | grind | (simp at *; done))
theorem law2_IsTightSet_bign0 (n0 : Int) (l0 : List (Int × Int)) (v1 : Int) (u2 : List Int) (hb : ¬ l0.length ≤ 1048576) : Spec2 Try.prog 5 [.agg (.pr .int (.sl (.pr .int .int))) fun _ => (n0, l0), .int fun _ => v1, .sl .int fun _ => u2] [] [.bool fun _ => true] [] := by
  refine fnS [] [6] Try.func5 rfl (by decide) rfl (by decide) (by kernel_rfl) rfl (by simp [Try.ntmps5]) ?_
  cbv
  ((try simp only [IfP_iff, and_true, true_and, decide_eq_true_eq, decide_eq_false_iff_not]); (try simp only [natc, at2_0, at2_1]); (try dsimp only [Ty.den]); (try simp only [natc] at *); (repeat' (first | apply And.intro | intro _)))
  all_goals (repeat' (first | ((first | refine call_q (la_szGraph n0 l0 1048576 (by omega) (by omega)) (by cbv) ?_ | refine call_pure (la_szGraph n0 l0 1048576 (by omega) (by omega)) (by cbv) ?_); cbv; ((try simp only [IfP_iff, and_true, true_and, decide_eq_true_eq, decide_eq_false_iff_not]); (try simp only [natc, at2_0, at2_1]); (try dsimp only [Ty.den]); (try simp only [natc] at *); (repeat' (first | apply And.intro | intro _))))))
  all_goals (try (simp only [IfP_iff, EqU_iff, Obl_iff, and_true, true_and, inI_iff, decide_eq_true_eq, decide_eq_false_iff_not]; (try simp only [natc, at2_0, at2_1]); (try dsimp only [Ty.den]); try simp only [natc] at *))
  all_goals ((repeat' (first | apply And.intro | intro _)) <;> first | omega | (simp only [List.length_append, List.length_cons, List.length_nil]; omega) | grind)
theorem law2_IsTightSet_bigu2 (n0 : Int) (l0 : List (Int × Int)) (v1 : Int) (u2 : List Int) (hb : ¬ u2.length ≤ 1048576) : Spec2 Try.prog 5 [.agg (.pr .int (.sl (.pr .int .int))) fun _ => (n0, l0), .int fun _ => v1, .sl .int fun _ => u2] [] [.bool fun _ => true] [] := by
  refine fnS [] [6] Try.func5 rfl (by decide) rfl (by decide) (by kernel_rfl) rfl (by simp [Try.ntmps5]) ?_
  cbv
  ((try simp only [IfP_iff, and_true, true_and, decide_eq_true_eq, decide_eq_false_iff_not]); (try simp only [natc, at2_0, at2_1]); (try dsimp only [Ty.den]); (try simp only [natc] at *); (repeat' (first | apply And.intro | intro _)))
  all_goals (repeat' (first | ((first | refine call_q (la_szGraph n0 l0 1048576 (by omega) (by omega)) (by cbv) ?_ | refine call_pure (la_szGraph n0 l0 1048576 (by omega) (by omega)) (by cbv) ?_); cbv; ((try simp only [IfP_iff, and_true, true_and, decide_eq_true_eq, decide_eq_false_iff_not]); (try simp only [natc, at2_0, at2_1]); (try dsimp only [Ty.den]); (try simp only [natc] at *); (repeat' (first | apply And.intro | intro _))))))
  all_goals (try (simp only [IfP_iff, EqU_iff, Obl_iff, and_true, true_and, inI_iff, decide_eq_true_eq, decide_eq_false_iff_not]; (try simp only [natc, at2_0, at2_1]); (try dsimp only [Ty.den]); try simp only [natc] at *))
  all_goals ((repeat' (first | apply And.intro | intro _)) <;> first | omega | (simp only [List.length_append, List.length_cons, List.length_nil]; omega) | grind)
end Go.Proofs.Ythogfineaeklpaa.M
namespace Go.Proofs.Ythogfineaeklpaa.Abs
theorem law_FnExactIsTightSet (g0 : Int × List (Int × Int)) (v1 : Int) (u2 : List Int) : Spec Try.prog 5 [.agg (.pr .int (.sl (.pr .int .int))) g0, .int v1, .sl .int u2] [.im .bool true] := by
  obtain ⟨n0, l0⟩ := g0
  by_cases qn0 : l0.length ≤ 1048576
  case neg => exact M.toSpec (M.law2_IsTightSet_bign0 n0 l0 v1 u2 qn0) M.rBool
  by_cases qu2 : u2.length ≤ 1048576
  case neg => exact M.toSpec (M.law2_IsTightSet_bigu2 n0 l0 v1 u2 qu2) M.rBool
  exact M.toSpec (M.law2_IsTightSet n0 l0 v1 u2 qn0 qu2) M.rBool
end Go.Proofs.Ythogfineaeklpaa.Abs
namespace Go.Proofs.Ythogfineaeklpaa.M
end Go.Proofs.Ythogfineaeklpaa.M

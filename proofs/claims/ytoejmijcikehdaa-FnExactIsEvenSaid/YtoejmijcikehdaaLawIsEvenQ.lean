/- The law FnExactIsEven: the program's call takes the copy's own edges. -/
import Derived.Test.YtoejmijcikehdaaQv
import Derived.Test.YtoejmijcikehdaaQe
import Derived.Test.YtoejmijcikehdaaLvQ
namespace Go.Proofs.Ytoejmijcikehdaa.M
open Go.RowKit Abs
set_option linter.unusedSimpArgs false
set_option linter.unusedVariables false
set_option maxRecDepth 100000
set_option maxHeartbeats 4000000
set_option maxHeartbeats 8000000
theorem law2_IsEven (n0 : Int) (l0 : List (Int × Int)) (hl0 : l0.length ≤ 1048576) : Spec2 Try.prog 11 [.agg (.pr .int (.sl (.pr .int .int))) fun _ => (n0, l0)] [] [.bool fun _ => true] [] := by
  obtain ⟨b0, b1, s1, s2⟩ : ∃ (b0 : Bool) (b1 : Bool), Spec2 Try.prog 45 [.agg (.pr .int (.sl (.pr .int .int))) fun _ => (n0, l0)] [] [.bool fun _ => b0, .bool fun _ => b1] [] ∧ Spec2 Try.prog 46 [.cells [.int fun _ => n0, .ref 0]] [some (.row 66 (.pr .int .int) fun _ => l0)] [.bool fun _ => b0, .bool fun _ => b1] [some (.row 66 (.pr .int .int) fun _ => l0)] := ⟨_, _, even_eq n0 l0 ▸ sp_isEven n0 l0 hl0, im_isEven n0 l0 hl0⟩
  refine fnS [] [2] Try.func11 rfl (by decide) rfl (by decide) (by kernel_rfl) rfl (by simp [Try.ntmps11]) ?_
  cbv
  ((try simp only [IfP_iff, and_true, true_and, decide_eq_true_eq, decide_eq_false_iff_not]); (try simp only [natc, at2_0, at2_1]); (try dsimp only [Ty.den]); (try simp only [natc] at *); (repeat' (first | apply And.intro | intro _)))
  all_goals (repeat' (first | ((first | refine call_q (la_szGraph n0 l0 1048576 (by omega) (by omega)) (by cbv) ?_ | refine call_pure (la_szGraph n0 l0 1048576 (by omega) (by omega)) (by cbv) ?_); cbv; ((try simp only [IfP_iff, and_true, true_and, decide_eq_true_eq, decide_eq_false_iff_not]); (try simp only [natc, at2_0, at2_1]); (try dsimp only [Ty.den]); (try simp only [natc] at *); (repeat' (first | apply And.intro | intro _)))) | ((first | refine call_q (la_toGraph n0 l0 hl0) (by cbv) ?_ | refine call_pure (la_toGraph n0 l0 hl0) (by cbv) ?_); cbv; ((try simp only [IfP_iff, and_true, true_and, decide_eq_true_eq, decide_eq_false_iff_not]); (try simp only [natc, at2_0, at2_1]); (try dsimp only [Ty.den]); (try simp only [natc] at *); (repeat' (first | apply And.intro | intro _)))) | ((first | refine call_q s1 (by cbv) ?_ | refine call_pure s1 (by cbv) ?_); cbv; ((try simp only [IfP_iff, and_true, true_and, decide_eq_true_eq, decide_eq_false_iff_not]); (try simp only [natc, at2_0, at2_1]); (try dsimp only [Ty.den]); (try simp only [natc] at *); (repeat' (first | apply And.intro | intro _))))))
  all_goals (try ((refine call_own 2 (s2) (by cbv) (by cbv; simp only [or_true, true_or, and_true]) ?_; cbv; ((try simp only [IfP_iff, and_true, true_and, decide_eq_true_eq, decide_eq_false_iff_not]); (try simp only [natc, at2_0, at2_1]); (try dsimp only [Ty.den]); (try simp only [natc] at *); (repeat' (first | apply And.intro | intro _))))))
  all_goals (repeat' (first | ((first | refine call_q (la_toGraph n0 l0 hl0) (by cbv) ?_ | refine call_pure (la_toGraph n0 l0 hl0) (by cbv) ?_); cbv; ((try simp only [IfP_iff, and_true, true_and, decide_eq_true_eq, decide_eq_false_iff_not]); (try simp only [natc, at2_0, at2_1]); (try dsimp only [Ty.den]); (try simp only [natc] at *); (repeat' (first | apply And.intro | intro _)))) | ((first | refine call_q (la_eqGraph _ _) (by cbv) ?_ | refine call_pure (la_eqGraph _ _) (by cbv) ?_); cbv; ((try simp only [IfP_iff, and_true, true_and, decide_eq_true_eq, decide_eq_false_iff_not]); (try simp only [natc, at2_0, at2_1]); (try dsimp only [Ty.den]); (try simp only [natc] at *); (repeat' (first | apply And.intro | intro _))))))
  all_goals (try (simp only [IfP_iff, EqU_iff, Obl_iff, and_true, true_and, inI_iff, decide_eq_true_eq, decide_eq_false_iff_not]; (try simp only [natc, at2_0, at2_1]); (try dsimp only [Ty.den]); try simp only [natc] at *))
  all_goals ((repeat' (first | apply And.intro | intro _)) <;> first | omega | (simp only [List.length_append, List.length_cons, List.length_nil]; omega) | grind | (simp at *; done))
theorem law2_IsEven_bign0 (n0 : Int) (l0 : List (Int × Int)) (hb : ¬ l0.length ≤ 1048576) : Spec2 Try.prog 11 [.agg (.pr .int (.sl (.pr .int .int))) fun _ => (n0, l0)] [] [.bool fun _ => true] [] := by
  refine fnS [] [2] Try.func11 rfl (by decide) rfl (by decide) (by kernel_rfl) rfl (by simp [Try.ntmps11]) ?_
  cbv
  ((try simp only [IfP_iff, and_true, true_and, decide_eq_true_eq, decide_eq_false_iff_not]); (try simp only [natc, at2_0, at2_1]); (try dsimp only [Ty.den]); (try simp only [natc] at *); (repeat' (first | apply And.intro | intro _)))
  all_goals (repeat' (first | ((first | refine call_q (la_szGraph n0 l0 1048576 (by omega) (by omega)) (by cbv) ?_ | refine call_pure (la_szGraph n0 l0 1048576 (by omega) (by omega)) (by cbv) ?_); cbv; ((try simp only [IfP_iff, and_true, true_and, decide_eq_true_eq, decide_eq_false_iff_not]); (try simp only [natc, at2_0, at2_1]); (try dsimp only [Ty.den]); (try simp only [natc] at *); (repeat' (first | apply And.intro | intro _))))))
  all_goals (try (simp only [IfP_iff, EqU_iff, Obl_iff, and_true, true_and, inI_iff, decide_eq_true_eq, decide_eq_false_iff_not]; (try simp only [natc, at2_0, at2_1]); (try dsimp only [Ty.den]); try simp only [natc] at *))
  all_goals ((repeat' (first | apply And.intro | intro _)) <;> first | omega | (simp only [List.length_append, List.length_cons, List.length_nil]; omega) | grind)
end Go.Proofs.Ytoejmijcikehdaa.M
namespace Go.Proofs.Ytoejmijcikehdaa.Abs
theorem law_FnExactIsEven (g0 : Int × List (Int × Int)) : Spec Try.prog 11 [.agg (.pr .int (.sl (.pr .int .int))) g0] [.im .bool true] := by
  obtain ⟨n0, l0⟩ := g0
  by_cases qn0 : l0.length ≤ 1048576
  case neg => exact M.toSpec (M.law2_IsEven_bign0 n0 l0 qn0) M.rBool
  exact M.toSpec (M.law2_IsEven n0 l0 qn0) M.rBool
end Go.Proofs.Ytoejmijcikehdaa.Abs
namespace Go.Proofs.Ytoejmijcikehdaa.M
end Go.Proofs.Ytoejmijcikehdaa.M

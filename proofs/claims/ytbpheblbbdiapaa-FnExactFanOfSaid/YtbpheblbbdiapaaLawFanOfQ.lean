/- The law FnExactFanOf. -/
import Derived.Test.YtbpheblbbdiapaaEbQ
import Derived.Test.YtbpheblbbdiapaaQe
namespace Go.Proofs.Ytbpheblbbdiapaa.M
open Go.RowKit Abs
set_option linter.unusedSimpArgs false
set_option linter.unusedVariables false
set_option maxRecDepth 100000
set_option maxHeartbeats 4000000
set_option maxHeartbeats 8000000
theorem law2_FanOf (v0 : Int) (v1 : Int)  : Spec2 Try.prog 4 [.int fun _ => v0, .int fun _ => v1] [] [.bool fun _ => true] [] := by
  obtain ⟨R0, b1, s1, s2, hR0⟩ : ∃ (R0 : List Int) (b1 : Bool), Spec2 Try.prog 17 [.int fun _ => v0, .int fun _ => v1] [] [.ref 0, .bool fun _ => b1] [some (.row 3 .int fun _ => R0)] ∧ Spec2 Try.prog 18 [.int fun _ => v0, .int fun _ => v1] [] [.ref 0, .bool fun _ => b1] [some (.row 3 .int fun _ => R0)] ∧ R0.length ≤ 1048576 := ⟨_, _, sp_fan v0 v1, im_fan v0 v1, fan_le v0 v1⟩
  have p1 : (0 : Int) ≤ (1 : Int) := by omega
  have p2 : (0 : Int) ≤ 1 + (R0.length : Int) := by omega
  refine fnS [] [4] Try.func4 rfl (by decide) rfl (by decide) (by kernel_rfl) rfl (by simp [Try.ntmps4]) ?_
  cbv
  ((try simp only [IfP_iff, and_true, true_and, decide_eq_true_eq, decide_eq_false_iff_not]); (try simp only [natc, at2_0, at2_1]); (try dsimp only [Ty.den]); (try simp only [natc] at *); (repeat' (first | apply And.intro | intro _)))
  all_goals (repeat' (first | ((first | refine call_q s1 (by cbv) ?_ | refine call_pure s1 (by cbv) ?_); cbv; ((try simp only [IfP_iff, and_true, true_and, decide_eq_true_eq, decide_eq_false_iff_not]); (try simp only [natc, at2_0, at2_1]); (try dsimp only [Ty.den]); (try simp only [natc] at *); (repeat' (first | apply And.intro | intro _)))) | ((first | refine call_q s2 (by cbv) ?_ | refine call_pure s2 (by cbv) ?_); cbv; ((try simp only [IfP_iff, and_true, true_and, decide_eq_true_eq, decide_eq_false_iff_not]); (try simp only [natc, at2_0, at2_1]); (try dsimp only [Ty.den]); (try simp only [natc] at *); (repeat' (first | apply And.intro | intro _)))) | ((first | refine call_q (la_same R0 hR0) (by cbv) ?_ | refine call_pure (la_same R0 hR0) (by cbv) ?_); cbv; ((try simp only [IfP_iff, and_true, true_and, decide_eq_true_eq, decide_eq_false_iff_not]); (try simp only [natc, at2_0, at2_1]); (try dsimp only [Ty.den]); (try simp only [natc] at *); (repeat' (first | apply And.intro | intro _)))) | (refine call_own 1 (la_markInts R0 1 (by omega) (by omega) hR0) (by cbv) (by cbv; simp only [or_true, true_or, and_true]) ?_; cbv; ((try simp only [IfP_iff, and_true, true_and, decide_eq_true_eq, decide_eq_false_iff_not]); (try simp only [natc, at2_0, at2_1]); (try dsimp only [Ty.den]); (try simp only [natc] at *); (repeat' (first | apply And.intro | intro _)))) | ((first | refine call_q (la_heldInts R0.length 1 (by omega) (by omega) hR0) (by cbv) ?_ | refine call_pure (la_heldInts R0.length 1 (by omega) (by omega) hR0) (by cbv) ?_); cbv; ((try simp only [IfP_iff, and_true, true_and, decide_eq_true_eq, decide_eq_false_iff_not]); (try simp only [natc, at2_0, at2_1]); (try dsimp only [Ty.den]); (try simp only [natc] at *); (repeat' (first | apply And.intro | intro _))))))
  all_goals (try (simp only [IfP_iff, EqU_iff, Obl_iff, and_true, true_and, inI_iff, decide_eq_true_eq, decide_eq_false_iff_not]; (try simp only [natc, at2_0, at2_1]); (try dsimp only [Ty.den]); try simp only [natc] at *))
  all_goals ((repeat' (first | apply And.intro | intro _)) <;> first | omega | (simp only [List.length_append, List.length_cons, List.length_nil]; omega) | grind | exact absurd (by assumption) (Int.not_lt.2 p1) | exact absurd (by assumption) (Int.not_lt.2 p2) | (simp at *; done))
end Go.Proofs.Ytbpheblbbdiapaa.M
namespace Go.Proofs.Ytbpheblbbdiapaa.Abs
theorem law_FnExactFanOf (v0 : Int) (v1 : Int) : Spec Try.prog 4 [.int v0, .int v1] [.im .bool true] := by
  exact M.toSpec (M.law2_FanOf v0 v1 ) M.rBool
end Go.Proofs.Ytbpheblbbdiapaa.Abs
namespace Go.Proofs.Ytbpheblbbdiapaa.M
end Go.Proofs.Ytbpheblbbdiapaa.M

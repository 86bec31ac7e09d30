/- Diagonals: the program's and the specification's functions of numbers. -/
import Derived.Test.YtbpheblbbdiapaaDaQ
import Derived.Test.YtbpheblbbdiapaaLpQ
import Derived.Test.YtbpheblbbdiapaaQg
namespace Go.Proofs.Ytbpheblbbdiapaa.M
open Go.RowKit Abs
set_option linter.unusedSimpArgs false
set_option linter.unusedVariables false
set_option maxRecDepth 100000
set_option maxHeartbeats 4000000
theorem td_in {x : Int} (h0 : 0 ≤ x) (h1 : x < 100) : 0 ≤ x.tdiv 10 ∧ x.tdiv 10 ≤ 9 := by
  rw [Int.tdiv_eq_ediv_of_nonneg h0]; omega
theorem tm_in {x : Int} (h0 : 0 ≤ x) : 0 ≤ x.tmod 10 ∧ x.tmod 10 ≤ 9 := by
  rw [Int.tmod_eq_emod_of_nonneg h0]; omega
theorem im_corners (x : Int) (h0 : 0 ≤ x) (h1 : x < 100) : Spec2 Try.prog 66 [.int fun _ => x] [] [.int fun _ => x.tdiv 10, .int fun _ => x.tmod 10] [] := by
  have h2 := td_in h0 h1
  refine fnS [] [2, 3] Try.func66 rfl (by decide) rfl (by decide) (by kernel_rfl) rfl (by simp [Try.ntmps66]) ?_
  cbv
  (simp only [IfP_iff, EqU_iff, Obl_iff, and_true, true_and, inI_iff, decide_eq_true_eq, decide_eq_false_iff_not]; (try simp only [natc, getI_gi, at2_0, at2_1]); (try dsimp only [Ty.den]); try simp only [natc] at *)
  (repeat' (first | apply And.intro | intro _)) <;> omega
theorem im_cross (x y : Int) (x0 : 0 ≤ x) (x1 : x < 100) (y0 : 0 ≤ y) (y1 : y < 100) : Spec2 Try.prog 54 [.int fun _ => x, .int fun _ => y] [] [.bool fun _ => crossB x y] [] := by
  refine fnS [] [4] Try.func54 rfl (by decide) rfl (by decide) (by kernel_rfl) rfl (by simp [Try.ntmps54]) ?_
  cbv
  repeat' (first | ((first | refine call_q (im_corners x x0 x1) (by cbv) ?_ | refine call_pure (im_corners x x0 x1) (by cbv) ?_); cbv; ((try simp only [IfP_iff, and_true, true_and, decide_eq_true_eq, decide_eq_false_iff_not]); (try simp only [natc, getI_gi, at2_0, at2_1]); (try dsimp only [Ty.den]); (try simp only [natc] at *); (repeat' (first | apply And.intro | intro _)))))
  all_goals (try (simp only [IfP_iff, EqU_iff, Obl_iff, and_true, true_and, inI_iff, decide_eq_true_eq, decide_eq_false_iff_not]; (try simp only [natc, getI_gi, at2_0, at2_1]); (try dsimp only [Ty.den]); try simp only [natc] at *))
  repeat' (first | ((first | refine call_q (im_corners y y0 y1) (by cbv) ?_ | refine call_pure (im_corners y y0 y1) (by cbv) ?_); cbv; ((try simp only [IfP_iff, and_true, true_and, decide_eq_true_eq, decide_eq_false_iff_not]); (try simp only [natc, getI_gi, at2_0, at2_1]); (try dsimp only [Ty.den]); (try simp only [natc] at *); (repeat' (first | apply And.intro | intro _)))))
  all_goals (try (simp only [IfP_iff, EqU_iff, Obl_iff, and_true, true_and, inI_iff, decide_eq_true_eq, decide_eq_false_iff_not]; (try simp only [natc, getI_gi, at2_0, at2_1]); (try dsimp only [Ty.den]); try simp only [natc] at *))
  ((try simp only [IfP_iff, and_true, true_and, decide_eq_true_eq, decide_eq_false_iff_not]); (try simp only [natc, getI_gi, at2_0, at2_1]); (try dsimp only [Ty.den]); (try simp only [natc] at *); (repeat' (first | apply And.intro | intro _)))
  all_goals (try (simp only [IfP_iff, EqU_iff, Obl_iff, and_true, true_and, inI_iff, decide_eq_true_eq, decide_eq_false_iff_not]; (try simp only [natc, getI_gi, at2_0, at2_1]); (try dsimp only [Ty.den]); try simp only [natc] at *))
  all_goals ((repeat' (first | apply And.intro | intro _)) <;> (unfold crossB; simp [*] <;> omega))
theorem im_excludes (n x y : Int) (x0 : 0 ≤ x) (x1 : x < 100) (y0 : 0 ≤ y) (y1 : y < 100) : Spec2 Try.prog 132 [.cells [.int fun _ => n], .int fun _ => x, .int fun _ => y] [] [.bool fun _ => crossB x y] [] := by
  refine fnS [] [6] Try.func132 rfl (by decide) rfl (by decide) (by kernel_rfl) rfl (by simp [Try.ntmps132]) ?_
  cbv
  repeat' (first | ((first | refine call_q (im_cross x y x0 x1 y0 y1) (by cbv) ?_ | refine call_pure (im_cross x y x0 x1 y0 y1) (by cbv) ?_); cbv; ((try simp only [IfP_iff, and_true, true_and, decide_eq_true_eq, decide_eq_false_iff_not]); (try simp only [natc, getI_gi, at2_0, at2_1]); (try dsimp only [Ty.den]); (try simp only [natc] at *); (repeat' (first | apply And.intro | intro _)))))
  all_goals (try (simp only [IfP_iff, EqU_iff, Obl_iff, and_true, true_and, inI_iff, decide_eq_true_eq, decide_eq_false_iff_not]; (try simp only [natc, getI_gi, at2_0, at2_1]); (try dsimp only [Ty.den]); try simp only [natc] at *))
theorem im_diagAt (a b : Int) (a0 : 0 ≤ a) (a1 : a < 10) (b0 : 0 ≤ b) (b1 : b < 10) : Spec2 Try.prog 67 [.int fun _ => a, .int fun _ => b] [] [.int fun _ => 10 * min a b + max a b] [] := by
  refine fnS [] [4] Try.func67 rfl (by decide) rfl (by decide) (by kernel_rfl) rfl (by simp [Try.ntmps67]) ?_
  cbv
  (simp only [IfP_iff, EqU_iff, Obl_iff, and_true, true_and, inI_iff, decide_eq_true_eq, decide_eq_false_iff_not]; (try simp only [natc, getI_gi, at2_0, at2_1]); (try dsimp only [Ty.den]); try simp only [natc] at *)
  (repeat' (first | apply And.intro | intro _)) <;> omega
def atB (x c : Int) : Bool := decide (x.tdiv 10 = c) || decide (x.tmod 10 = c)
theorem im_isAt (x c : Int) (x0 : 0 ≤ x) (x1 : x < 100) : Spec2 Try.prog 48 [.int fun _ => x, .int fun _ => c] [] [.bool fun _ => atB x c] [] := by
  refine fnS [] [4] Try.func48 rfl (by decide) rfl (by decide) (by kernel_rfl) rfl (by simp [Try.ntmps48]) ?_
  cbv
  repeat' (first | ((first | refine call_q (im_corners x x0 x1) (by cbv) ?_ | refine call_pure (im_corners x x0 x1) (by cbv) ?_); cbv; ((try simp only [IfP_iff, and_true, true_and, decide_eq_true_eq, decide_eq_false_iff_not]); (try simp only [natc, getI_gi, at2_0, at2_1]); (try dsimp only [Ty.den]); (try simp only [natc] at *); (repeat' (first | apply And.intro | intro _)))))
  all_goals (try (simp only [IfP_iff, EqU_iff, Obl_iff, and_true, true_and, inI_iff, decide_eq_true_eq, decide_eq_false_iff_not]; (try simp only [natc, getI_gi, at2_0, at2_1]); (try dsimp only [Ty.den]); try simp only [natc] at *))
  ((try simp only [IfP_iff, and_true, true_and, decide_eq_true_eq, decide_eq_false_iff_not]); (try simp only [natc, getI_gi, at2_0, at2_1]); (try dsimp only [Ty.den]); (try simp only [natc] at *); (repeat' (first | apply And.intro | intro _)))
  all_goals (try (simp only [IfP_iff, EqU_iff, Obl_iff, and_true, true_and, inI_iff, decide_eq_true_eq, decide_eq_false_iff_not]; (try simp only [natc, getI_gi, at2_0, at2_1]); (try dsimp only [Ty.den]); try simp only [natc] at *))
  all_goals ((repeat' (first | apply And.intro | intro _)) <;> (unfold atB; simp [*]))
theorem im_polygon (n : Int) : Spec2 Try.prog 42 [.int fun _ => n] [] [.bool fun _ => polyB n] [] := by
  refine fnS [] [2] Try.func42 rfl (by decide) rfl (by decide) (by kernel_rfl) rfl (by simp [Try.ntmps42]) ?_
  cbv
  ((try simp only [IfP_iff, and_true, true_and, decide_eq_true_eq, decide_eq_false_iff_not]); (try simp only [natc, getI_gi, at2_0, at2_1]); (try dsimp only [Ty.den]); (try simp only [natc] at *); (repeat' (first | apply And.intro | intro _)))
  all_goals (try (simp only [IfP_iff, EqU_iff, Obl_iff, and_true, true_and, inI_iff, decide_eq_true_eq, decide_eq_false_iff_not]; (try simp only [natc, getI_gi, at2_0, at2_1]); (try dsimp only [Ty.den]); try simp only [natc] at *))
  all_goals ((repeat' (first | apply And.intro | intro _)) <;> (unfold polyB; simp [*]))
theorem sp_corners (n : Int) : Spec2 Try.prog 40 [.int fun _ => n] [] [.bool fun _ => polyB n] [] := by
  refine fnS [] [2] Try.func40 rfl (by decide) rfl (by decide) (by kernel_rfl) rfl (by simp [Try.ntmps40]) ?_
  cbv
  repeat' (first | ((first | refine call_q (sp_in _ _ _) (by cbv) ?_ | refine call_pure (sp_in _ _ _) (by cbv) ?_); cbv; ((try simp only [IfP_iff, and_true, true_and, decide_eq_true_eq, decide_eq_false_iff_not]); (try simp only [natc, getI_gi, at2_0, at2_1]); (try dsimp only [Ty.den]); (try simp only [natc] at *); (repeat' (first | apply And.intro | intro _)))))
  all_goals (try (simp only [IfP_iff, EqU_iff, Obl_iff, and_true, true_and, inI_iff, decide_eq_true_eq, decide_eq_false_iff_not]; (try simp only [natc, getI_gi, at2_0, at2_1]); (try dsimp only [Ty.den]); try simp only [natc] at *))
  all_goals ((repeat' (first | apply And.intro | intro _)) <;> first | rfl | (unfold polyB; simp [*]))
theorem sp_cross (x y : Int) (x0 : 0 ≤ x) (x1 : x < 100) (y0 : 0 ≤ y) (y1 : y < 100) : Spec2 Try.prog 52 [.int fun _ => x, .int fun _ => y] [] [.bool fun _ => crossB x y] [] := by
  have h1 := td_in x0 x1
  have h2 := td_in y0 y1
  refine fnS [] [4] Try.func52 rfl (by decide) rfl (by decide) (by kernel_rfl) rfl (by simp [Try.ntmps52]) ?_
  cbv
  ((try simp only [IfP_iff, and_true, true_and, decide_eq_true_eq, decide_eq_false_iff_not]); (try simp only [natc, getI_gi, at2_0, at2_1]); (try dsimp only [Ty.den]); (try simp only [natc] at *); (repeat' (first | apply And.intro | intro _)))
  all_goals (try (simp only [IfP_iff, EqU_iff, Obl_iff, and_true, true_and, inI_iff, decide_eq_true_eq, decide_eq_false_iff_not]; (try simp only [natc, getI_gi, at2_0, at2_1]); (try dsimp only [Ty.den]); try simp only [natc] at *))
  all_goals ((repeat' (first | apply And.intro | intro _)) <;> first | omega | (unfold crossB; simp [*] <;> omega))
end Go.Proofs.Ytbpheblbbdiapaa.M

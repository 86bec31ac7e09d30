/- IsMatching, on both sides. -/
import Derived.Test.YtbpheblbbdiapaaJeQ
import Derived.Test.YtbpheblbbdiapaaQg
namespace Go.Proofs.Ytbpheblbbdiapaa.M
open Go.RowKit Abs
set_option linter.unusedSimpArgs false
set_option linter.unusedVariables false
set_option maxRecDepth 100000
set_option maxHeartbeats 4000000
def isMat (n : Int) (l : List (Int × Int)) (s : List Int) : Bool := graphOk n l && matB l s
theorem im_isMat (n : Int) (l : List (Int × Int)) (s : List Int) (hl : l.length ≤ 1048576) (hs : s.length ≤ 1048576) : Spec2 Try.prog 38 [.agg (.pr .int (.sl (.pr .int .int))) fun _ => (n, l), .sl .int fun _ => s] [] [.bool fun _ => isMat n l s, .bool fun _ => graphOk n l] [] := by
  have s1 : Spec2 Try.prog 43 [.ifr 77 fun _ => ofBound [.cells [.int fun _ => n, .sl (.pr .int .int) fun _ => l]], .sl .int fun _ => s] [] [.bool fun _ => matB l s] [] := im_isFittingE n l s hl hs
  have h0 : graphOk n l = true → matB l s = isMat n l s := fun h => by unfold isMat; rw [h]; rfl
  have h1 : graphOk n l = false → false = isMat n l s := fun h => by unfold isMat; rw [h]; rfl
  generalize isMat n l s = R at *
  generalize matB l s = M at *
  refine fnS [] [4, 5] Try.func38 rfl (by decide) rfl (by decide) (by kernel_rfl) rfl (by simp [Try.ntmps38]) ?_
  cbv
  repeat' (first | ((first | refine call_q (im_graph n l hl) (by cbv) ?_ | refine call_pure (im_graph n l hl) (by cbv) ?_); cbv; ((try simp only [IfP_iff, and_true, true_and, decide_eq_true_eq, decide_eq_false_iff_not]); (try simp only [natc, getI_gi, at2_0, at2_1]); (try dsimp only [Ty.den]); (try simp only [natc] at *); (repeat' (first | apply And.intro | intro _)))))
  all_goals (try (simp only [IfP_iff, EqU_iff, Obl_iff, and_true, true_and, inI_iff, decide_eq_true_eq, decide_eq_false_iff_not]; (try simp only [natc, getI_gi, at2_0, at2_1]); (try dsimp only [Ty.den]); try simp only [natc] at *))
  ((try simp only [IfP_iff, and_true, true_and, decide_eq_true_eq, decide_eq_false_iff_not]); (try simp only [natc, getI_gi, at2_0, at2_1]); (try dsimp only [Ty.den]); (try simp only [natc] at *); (repeat' (first | apply And.intro | intro _)))
  all_goals (repeat' (first | ((first | refine call_q s1 (by cbv) ?_ | refine call_pure s1 (by cbv) ?_); cbv; ((try simp only [IfP_iff, and_true, true_and, decide_eq_true_eq, decide_eq_false_iff_not]); (try simp only [natc, getI_gi, at2_0, at2_1]); (try dsimp only [Ty.den]); (try simp only [natc] at *); (repeat' (first | apply And.intro | intro _))))))
  all_goals (try ((try simp only [IfP_iff, and_true, true_and, decide_eq_true_eq, decide_eq_false_iff_not]); (try simp only [natc, getI_gi, at2_0, at2_1]); (try dsimp only [Ty.den]); (try simp only [natc] at *); (repeat' (first | apply And.intro | intro _))))
  all_goals (try (simp only [IfP_iff, EqU_iff, Obl_iff, and_true, true_and, inI_iff, decide_eq_true_eq, decide_eq_false_iff_not]; (try simp only [natc, getI_gi, at2_0, at2_1]); (try dsimp only [Ty.den]); try simp only [natc] at *))
  all_goals ((repeat' (first | apply And.intro | intro _)) <;> first | omega | (exact h0 (by simpa using (by assumption : (!graphOk n l) = false))) | (exact h1 (by simpa using (by assumption : (!graphOk n l) = true))) | (simp_all; done) | trace_state)
theorem sp_isMat (n : Int) (l : List (Int × Int)) (s : List Int) (hl : l.length ≤ 1048576) (hs : s.length ≤ 1048576) : Spec2 Try.prog 36 [.agg (.pr .int (.sl (.pr .int .int))) fun _ => (n, l), .sl .int fun _ => s] [] [.bool fun _ => isMat n l s, .bool fun _ => graphOk n l] [] := by
  have h0 : graphOk n l = true → matB l s = isMat n l s := fun h => by unfold isMat; rw [h]; rfl
  have h1 : graphOk n l = false → false = isMat n l s := fun h => by unfold isMat; rw [h]; rfl
  have s1 := fun h => sp_matches n l s hl hs h
  generalize isMat n l s = R at *
  generalize matB l s = M at *
  refine fnS [] [4, 5] Try.func36 rfl (by decide) rfl (by decide) (by kernel_rfl) rfl (by simp [Try.ntmps36]) ?_
  cbv
  repeat' (first | ((first | refine call_q (sp_good n l hl) (by cbv) ?_ | refine call_pure (sp_good n l hl) (by cbv) ?_); cbv; ((try simp only [IfP_iff, and_true, true_and, decide_eq_true_eq, decide_eq_false_iff_not]); (try simp only [natc, getI_gi, at2_0, at2_1]); (try dsimp only [Ty.den]); (try simp only [natc] at *); (repeat' (first | apply And.intro | intro _)))))
  all_goals (try (simp only [IfP_iff, EqU_iff, Obl_iff, and_true, true_and, inI_iff, decide_eq_true_eq, decide_eq_false_iff_not]; (try simp only [natc, getI_gi, at2_0, at2_1]); (try dsimp only [Ty.den]); try simp only [natc] at *))
  ((try simp only [IfP_iff, and_true, true_and, decide_eq_true_eq, decide_eq_false_iff_not]); (try simp only [natc, getI_gi, at2_0, at2_1]); (try dsimp only [Ty.den]); (try simp only [natc] at *); (repeat' (first | apply And.intro | intro _)))
  all_goals (repeat' (first | ((first | refine call_q (s1 (by simpa using (by assumption : (!graphOk n l) = false))) (by cbv) ?_ | refine call_pure (s1 (by simpa using (by assumption : (!graphOk n l) = false))) (by cbv) ?_); cbv; ((try simp only [IfP_iff, and_true, true_and, decide_eq_true_eq, decide_eq_false_iff_not]); (try simp only [natc, getI_gi, at2_0, at2_1]); (try dsimp only [Ty.den]); (try simp only [natc] at *); (repeat' (first | apply And.intro | intro _))))))
  all_goals (try ((try simp only [IfP_iff, and_true, true_and, decide_eq_true_eq, decide_eq_false_iff_not]); (try simp only [natc, getI_gi, at2_0, at2_1]); (try dsimp only [Ty.den]); (try simp only [natc] at *); (repeat' (first | apply And.intro | intro _))))
  all_goals (try (simp only [IfP_iff, EqU_iff, Obl_iff, and_true, true_and, inI_iff, decide_eq_true_eq, decide_eq_false_iff_not]; (try simp only [natc, getI_gi, at2_0, at2_1]); (try dsimp only [Ty.den]); try simp only [natc] at *))
  all_goals ((repeat' (first | apply And.intro | intro _)) <;> first | omega | (exact h0 (by simpa using (by assumption : (!graphOk n l) = false))) | (exact h1 (by simpa using (by assumption : (!graphOk n l) = true))) | (simp_all; done) | trace_state)
end Go.Proofs.Ytbpheblbbdiapaa.M

/- CutOf: the program. -/
import Derived.Test.YtbpheblbbdiapabDnQVCircleOf
import Derived.Test.YtbpheblbbdiapabTeQVCircleOf
import Derived.Test.YtbpheblbbdiapabTbQVCircleOf
import Derived.Test.YtbpheblbbdiapabTgQVCircleOf
import Derived.Test.YtbpheblbbdiapabTjQVCircleOf
import Derived.Test.YtbpheblbbdiapabLpQVCircleOf
import Derived.Test.YtbpheblbbdiapabQgVCircleOf
namespace Go.Proofs.Ytbpheblbbdiapab.M
open Go.RowKit Abs
set_option linter.unusedSimpArgs false
set_option linter.unusedVariables false
set_option maxRecDepth 100000
set_option maxHeartbeats 4000000
theorem im_missingL (a b : List Int) (ha : a.length ≤ 1048576) (hb : b.length ≤ 1048576) (hne : a ≠ []) : Spec2 Try.prog 66 [.sl .int fun _ => a, .sl .int fun _ => b] [] [.ref 0] [some (.row 3 .int fun _ => onlyL a b)] := im_miss a b ha hb
theorem im_forestLeft (n : Int) (l : List (Int × Int)) (es : List Int) (d : Int) (hl : l.length ≤ 1048576) (he : es.length ≤ 1048576) (hg : graphOk n l = true) (ha : ascB l.length (onlyL es [d]) = true) (hne : es ≠ []) : Spec2 Try.prog 45 [.agg (.pr .int (.sl (.pr .int .int))) fun _ => (n, l), .sl .int fun _ => es, .int fun _ => d] [] [.agg (.ar 7 .int) fun _ => forF (partL l (onlyL es [d]))] [] := by
  have ho : (onlyL es [d]).length ≤ 1048576 := Nat.le_trans (List.length_filter_le _ _) he
  have hd1 : [d].length ≤ 1048576 := by rw [List.length_cons, List.length_nil]; omega
  refine fnGE [1] [.car 6 8 59] Try.func45 rfl (by decide) rfl (by kernel_rfl) (.inl rfl) (by kernel_rfl) (Nat.zero_le _) (by simp [Try.ntmps45]) ?_
  cbv
  refine DrawL.layersS [(4, fun S => S.new (some 11) (.ref S.H.length) (.row 3 .int fun _ => onlyL es [d])), (5, fun S => S.put (some 12) (.agg (.ar 7 .int) fun _ => forF (partL l (onlyL es [d]))))] [1, 2] (fun _ _ => none) [([false, true, true, false, false, false, false], [0, 3]), ([true, true, true, false, false, false, false], [3]), ([false, true, true, true, false, false, false], [0, 4]), ([true, true, true, true, false, false, false], [4]), ([false, true, true, true, true, false, false], [0]), ([true, true, true, true, true, false, false], [5]), ([true, true, true, true, true, true, false], [6]), ([true, true, true, true, true, true, true], [])] (by kernel_rfl) (by rfl) ?_
  cbv
  (repeat' (first | apply And.intro | apply EqU.mk))
  all_goals (try trivial)
  all_goals (try (((first | refine call_q (im_missingL es [d] he hd1 hne) (by cbv) ?_ | refine call_pure (im_missingL es [d] he hd1 hne) (by cbv) ?_); cbv; ((try simp only [IfP_iff, and_true, true_and, decide_eq_true_eq, decide_eq_false_iff_not]); (try simp only [natc, getI_gi, at2_0, at2_1]); (try dsimp only [Ty.den]); (try simp only [natc] at *); (repeat' (first | apply And.intro | intro _))))))
  all_goals (try (((first | refine call_q (im_forestOf n l (onlyL es [d]) hl ho hg ha) (by cbv) ?_ | refine call_pure (im_forestOf n l (onlyL es [d]) hl ho hg ha) (by cbv) ?_); cbv; ((try simp only [IfP_iff, and_true, true_and, decide_eq_true_eq, decide_eq_false_iff_not]); (try simp only [natc, getI_gi, at2_0, at2_1]); (try dsimp only [Ty.den]); (try simp only [natc] at *); (repeat' (first | apply And.intro | intro _))))))
  all_goals (try (first | trivial | rfl))
  refine EndG.plain [] ?_
  cbv
  (simp only [IfP_iff, EqU_iff, Obl_iff, and_true, true_and, inI_iff, decide_eq_true_eq, decide_eq_false_iff_not]; (try simp only [natc, getI_gi, at2_0, at2_1]); (try dsimp only [Ty.den]); try simp only [natc] at *)
theorem im_connectsP (f : List Int) (a b : Int) (hf : f.length = 8) (a0 : 0 ≤ a) (a1 : a < 8) (b0 : 0 ≤ b) (b1 : b < 8) : Spec2 Try.prog 46 [.agg (.ar 7 .int) fun _ => f, .agg (.pr .int .int) fun _ => (a, b)] [] [.bool fun _ => decide (gi f a = gi f b)] [] := by
  refine fnS [] [4] Try.func46 rfl (by decide) rfl (by decide) (by kernel_rfl) rfl (by simp [Try.ntmps46]) ?_
  cbv
  ((try simp only [IfP_iff, and_true, true_and, decide_eq_true_eq, decide_eq_false_iff_not]); (try simp only [natc, getI_gi, at2_0, at2_1]); (try dsimp only [Ty.den]); (try simp only [natc] at *); (repeat' (first | apply And.intro | intro _)))
  all_goals (try (simp only [IfP_iff, EqU_iff, Obl_iff, and_true, true_and, inI_iff, decide_eq_true_eq, decide_eq_false_iff_not]; (try simp only [natc, getI_gi, at2_0, at2_1]); (try dsimp only [Ty.den]); try simp only [natc] at *))
  all_goals ((repeat' (first | apply And.intro | intro _)) <;> first | omega | (simp only [List.length_append, List.length_cons, List.length_nil]; omega) | grind)
end Go.Proofs.Ytbpheblbbdiapab.M

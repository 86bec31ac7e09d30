/- missing: what a list has that another one has not, in the program. -/
import Derived.Test.YtikclhackjjhfaaDlQ
import Derived.Test.YtikclhackjjhfaaOlQ
import Derived.Test.YtikclhackjjhfaaGlQ
import Derived.Test.YtikclhackjjhfaaQg
namespace Go.Proofs.Ytikclhackjjhfaa.M
open Go.RowKit Abs
set_option linter.unusedSimpArgs false
set_option linter.unusedVariables false
set_option maxRecDepth 100000
set_option maxHeartbeats 4000000
theorem im_miss1 (b : List Int) (x : Int) (hb : b.length ≤ 1048576) : Spec2 Try.prog 103 [.int fun _ => x, .ibox [.sl .int fun _ => b] 0] [] [.bool fun _ => hasB b x] [] := by
  refine fnS [] [3] Try.func103 rfl (by decide) rfl (by decide) (by kernel_rfl) rfl (by simp [Try.ntmps103]) ?_
  cbv
  repeat' (first | ((first | refine call_q (go_contains b x hb) (by cbv) ?_ | refine call_pure (go_contains b x hb) (by cbv) ?_); cbv; ((try simp only [IfP_iff, and_true, true_and, decide_eq_true_eq, decide_eq_false_iff_not]); (try simp only [natc, getI_gi, at2_0, at2_1]); (try dsimp only [Ty.den]); (try simp only [natc] at *); (repeat' (first | apply And.intro | intro _)))))
  all_goals (try (simp only [IfP_iff, EqU_iff, Obl_iff, and_true, true_and, inI_iff, decide_eq_true_eq, decide_eq_false_iff_not]; (try simp only [natc, getI_gi, at2_0, at2_1]); (try dsimp only [Ty.den]); try simp only [natc] at *))
theorem im_miss (a b : List Int) (ha : a.length ≤ 1048576) (hb : b.length ≤ 1048576) : Spec2 Try.prog 60 [.sl .int fun _ => a, .sl .int fun _ => b] [] [.ref 0] [some (.row 3 .int fun _ => onlyL a b)] := by
  have hd : Spec2 Try.prog 101 [.ref 0, .fnr 103 fun _ => ofCaps [.ibox [.sl .int fun _ => b] 0]] [some (.row 3 .int fun _ => a)] [.ref 1] [none, some (.row 3 .int fun _ => onlyL a b)] :=
    go_delF 103 (fun _ => ofCaps [.ibox [.sl .int fun _ => b] 0]) (hasB b) a ha fun x _ => ⟨_, rfl, fun _ => rfl, im_miss1 b x hb⟩
  refine fnS [2] [4] Try.func60 rfl (by decide) rfl (by decide) (by kernel_rfl) rfl (by simp [Try.ntmps60]) ?_
  cbv
  repeat' (first | ((first | refine call_q (go_clone a ha) (by cbv) ?_ | refine call_pure (go_clone a ha) (by cbv) ?_); cbv; ((try simp only [IfP_iff, and_true, true_and, decide_eq_true_eq, decide_eq_false_iff_not]); (try simp only [natc, getI_gi, at2_0, at2_1]); (try dsimp only [Ty.den]); (try simp only [natc] at *); (repeat' (first | apply And.intro | intro _)))))
  all_goals (try (simp only [IfP_iff, EqU_iff, Obl_iff, and_true, true_and, inI_iff, decide_eq_true_eq, decide_eq_false_iff_not]; (try simp only [natc, getI_gi, at2_0, at2_1]); (try dsimp only [Ty.den]); try simp only [natc] at *))
  refine call_own 1 hd (by cbv) (by cbv; simp only [or_true, true_or, and_true]; exact ⟨trivial, .inl rfl⟩) ?_
  cbv
  all_goals (try (simp only [IfP_iff, EqU_iff, Obl_iff, and_true, true_and, inI_iff, decide_eq_true_eq, decide_eq_false_iff_not]; (try simp only [natc, getI_gi, at2_0, at2_1]); (try dsimp only [Ty.den]); try simp only [natc] at *))
end Go.Proofs.Ytikclhackjjhfaa.M

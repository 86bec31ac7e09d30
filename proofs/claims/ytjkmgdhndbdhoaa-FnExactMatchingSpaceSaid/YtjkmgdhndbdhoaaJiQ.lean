/- The law's helper for Spaces as results: the marks are still there. -/
import Derived.Test.YtjkmgdhndbdhoaaCrQ
import Derived.Test.YtjkmgdhndbdhoaaQe
import Derived.Test.YtjkmgdhndbdhoaaQg
namespace Go.Proofs.Ytjkmgdhndbdhoaa.M
open Go.RowKit Abs
set_option linter.unusedSimpArgs false
set_option linter.unusedVariables false
set_option maxRecDepth 100000
set_option maxHeartbeats 4000000
theorem la_heldSpace (L R : List (List Int)) (l : List (Int × Int)) (n : Nat) (k0 : Int) (hR : R = mrk k0 L) (he : l = marksP (k0 + totR L) n) (h0 : 0 ≤ k0) (h1 : k0 + totR L ≤ 1000000000) (hL : L.length ≤ 1048576) (hm : ∀ k : Int, 0 ≤ k → k < L.length → (getR .int L k).length ≤ 1048576) (hl : n ≤ 1048576) : Spec2 Try.prog 19 [.agg (.pr (.sl (.sl .int)) (.sl (.pr .int .int))) fun _ => (R, l), .int fun _ => k0] [] [.int fun _ => k0 + totR L + n * 2] [] := by
  have ht := totR_nn L
  refine fnS [] [4] Try.func19 rfl (by decide) rfl (by decide) (by kernel_rfl) rfl (by simp [Try.ntmps19]) ?_
  cbv
  ((first | refine call_q (la_heldRows R L k0 hR h0 h1 hL hm) (by cbv) ?_ | refine call_pure (la_heldRows R L k0 hR h0 h1 hL hm) (by cbv) ?_); cbv; ((try simp only [IfP_iff, and_true, true_and, decide_eq_true_eq, decide_eq_false_iff_not]); (try simp only [natc, getI_gi, at2_0, at2_1]); (try dsimp only [Ty.den]); (try simp only [natc] at *); (repeat' (first | apply And.intro | intro _))))
  all_goals (try (simp only [IfP_iff, EqU_iff, Obl_iff, and_true, true_and, inI_iff, decide_eq_true_eq, decide_eq_false_iff_not]; (try simp only [natc, getI_gi, at2_0, at2_1]); (try dsimp only [Ty.den]); try simp only [natc] at *))
  ((try simp only [IfP_iff, and_true, true_and, decide_eq_true_eq, decide_eq_false_iff_not]); (try simp only [natc, getI_gi, at2_0, at2_1]); (try dsimp only [Ty.den]); (try simp only [natc] at *); (repeat' (first | apply And.intro | intro _)))
  all_goals (repeat' (first | ((first | refine call_q (la_heldPairs l n (k0 + totR L) he (by omega) h1 hl) (by cbv) ?_ | refine call_pure (la_heldPairs l n (k0 + totR L) he (by omega) h1 hl) (by cbv) ?_); cbv; ((try simp only [IfP_iff, and_true, true_and, decide_eq_true_eq, decide_eq_false_iff_not]); (try simp only [natc, getI_gi, at2_0, at2_1]); (try dsimp only [Ty.den]); (try simp only [natc] at *); (repeat' (first | apply And.intro | intro _))))))
  all_goals (try (simp only [IfP_iff, EqU_iff, Obl_iff, and_true, true_and, inI_iff, decide_eq_true_eq, decide_eq_false_iff_not]; (try simp only [natc, getI_gi, at2_0, at2_1]); (try dsimp only [Ty.den]); try simp only [natc] at *))
  all_goals (try ((try simp only [IfP_iff, and_true, true_and, decide_eq_true_eq, decide_eq_false_iff_not]); (try simp only [natc, getI_gi, at2_0, at2_1]); (try dsimp only [Ty.den]); (try simp only [natc] at *); (repeat' (first | apply And.intro | intro _))))
  all_goals (try (simp only [IfP_iff, EqU_iff, Obl_iff, and_true, true_and, inI_iff, decide_eq_true_eq, decide_eq_false_iff_not]; (try simp only [natc, getI_gi, at2_0, at2_1]); (try dsimp only [Ty.den]); try simp only [natc] at *))
  all_goals ((repeat' (first | apply And.intro | intro _)) <;> first | omega | trace_state)
end Go.Proofs.Ytjkmgdhndbdhoaa.M

/- The lowest and the highest of a solution: the program, for all arguments. -/
import Derived.Test.YtcgeedklfejhbaaBaQ
import Derived.Test.YtcgeedklfejhbaaAzQ
import Derived.Test.YtcgeedklfejhbaaQc
namespace Go.Proofs.Ytcgeedklfejhbaa.M
open Go.RowKit Abs
set_option linter.unusedSimpArgs false
set_option linter.unusedVariables false
set_option maxRecDepth 100000
set_option maxHeartbeats 4000000
set_option maxHeartbeats 600000 in
theorem im_settledU (n num : Int) (L : List (List Int)) (r : List Int) (hL : L.length ≤ 1048576) (hm : ∀ c ∈ L, c.length ≤ 1048576) (hx : ∀ c ∈ L, ∀ x ∈ c, inI x) (hr : r.length ≤ 1048576) (hb : num = 0 ∨ num = 1) : Spec2 Try.prog 77 [.agg (.pr .int (.sl (.sl .int))) fun _ => (n, L), .sl .int fun _ => r, .int fun _ => num] [] [.ref 0, .bool fun _ => okS n L r] [some (.row 3 .int fun _ => lowO num n L r)] := by
  have h9 : lowO num n L r = if okS n L r = true then lowR L num n r else [] := rfl
  cases hc : okS n L r with
  | true =>
    rw [h9, if_pos hc]
    exact im_settled n num L r hL hm hx hr hb hc
  | false =>
    rw [h9, hc, if_neg (by decide)]
    have hsol := im_solFor n L r hL hm hx hr
    rw [hc] at hsol
    clear hx
    refine fnS [2] [6, 7] Try.func77 rfl (by decide) rfl (by decide) (by kernel_rfl) rfl (by simp [Try.ntmps77]) ?_
    cbv
    refine scope0 0 rfl (by kernel_rfl) (by kernel_rfl) ?_
    cbv
    ((try simp only [IfP_iff, and_true, true_and, decide_eq_true_eq, decide_eq_false_iff_not]); (try simp only [natc, getI_gi, at2_0, at2_1]); (try dsimp only [Ty.den]); (try simp only [natc] at *); (repeat' (first | apply And.intro | intro _)))
    all_goals (repeat' (first | ((first | refine call_q hsol (by cbv) ?_ | refine call_pure hsol (by cbv) ?_); cbv; ((try simp only [IfP_iff, and_true, true_and, decide_eq_true_eq, decide_eq_false_iff_not]); (try simp only [natc, getI_gi, at2_0, at2_1]); (try dsimp only [Ty.den]); (try simp only [natc] at *); (repeat' (first | apply And.intro | intro _))))))
    all_goals (try (simp only [IfP_iff, EqU_iff, Obl_iff, and_true, true_and, inI_iff, decide_eq_true_eq, decide_eq_false_iff_not]; (try simp only [natc, getI_gi, at2_0, at2_1]); (try dsimp only [Ty.den]); try simp only [natc] at *))
    all_goals (exact absurd (by assumption : (!false) = false) (by decide))
theorem im_lowest (n : Int) (L : List (List Int)) (r : List Int) (hL : L.length ≤ 1048576) (hm : ∀ c ∈ L, c.length ≤ 1048576) (hx : ∀ c ∈ L, ∀ x ∈ c, inI x) (hr : r.length ≤ 1048576) : Spec2 Try.prog 38 [.agg (.pr .int (.sl (.sl .int))) fun _ => (n, L), .sl .int fun _ => r] [] [.ref 0, .bool fun _ => okS n L r] [some (.row 3 .int fun _ => lowO 1 n L r)] := by
  refine fnS [1] [4, 5] Try.func38 rfl (by decide) rfl (by decide) (by kernel_rfl) rfl (by simp [Try.ntmps38]) ?_
  cbv
  repeat' (first | ((first | refine call_q (im_settledU n 1 L r hL hm hx hr (.inr rfl)) (by cbv) ?_ | refine call_pure (im_settledU n 1 L r hL hm hx hr (.inr rfl)) (by cbv) ?_); cbv; ((try simp only [IfP_iff, and_true, true_and, decide_eq_true_eq, decide_eq_false_iff_not]); (try simp only [natc, getI_gi, at2_0, at2_1]); (try dsimp only [Ty.den]); (try simp only [natc] at *); (repeat' (first | apply And.intro | intro _)))))
  all_goals (try (simp only [IfP_iff, EqU_iff, Obl_iff, and_true, true_and, inI_iff, decide_eq_true_eq, decide_eq_false_iff_not]; (try simp only [natc, getI_gi, at2_0, at2_1]); (try dsimp only [Ty.den]); try simp only [natc] at *))
theorem im_highest (n : Int) (L : List (List Int)) (r : List Int) (hL : L.length ≤ 1048576) (hm : ∀ c ∈ L, c.length ≤ 1048576) (hx : ∀ c ∈ L, ∀ x ∈ c, inI x) (hr : r.length ≤ 1048576) : Spec2 Try.prog 40 [.agg (.pr .int (.sl (.sl .int))) fun _ => (n, L), .sl .int fun _ => r] [] [.ref 0, .bool fun _ => okS n L r] [some (.row 3 .int fun _ => lowO 0 n L r)] := by
  refine fnS [1] [4, 5] Try.func40 rfl (by decide) rfl (by decide) (by kernel_rfl) rfl (by simp [Try.ntmps40]) ?_
  cbv
  repeat' (first | ((first | refine call_q (im_settledU n 0 L r hL hm hx hr (.inl rfl)) (by cbv) ?_ | refine call_pure (im_settledU n 0 L r hL hm hx hr (.inl rfl)) (by cbv) ?_); cbv; ((try simp only [IfP_iff, and_true, true_and, decide_eq_true_eq, decide_eq_false_iff_not]); (try simp only [natc, getI_gi, at2_0, at2_1]); (try dsimp only [Ty.den]); (try simp only [natc] at *); (repeat' (first | apply And.intro | intro _)))))
  all_goals (try (simp only [IfP_iff, EqU_iff, Obl_iff, and_true, true_and, inI_iff, decide_eq_true_eq, decide_eq_false_iff_not]; (try simp only [natc, getI_gi, at2_0, at2_1]); (try dsimp only [Ty.den]); try simp only [natc] at *))
end Go.Proofs.Ytcgeedklfejhbaa.M

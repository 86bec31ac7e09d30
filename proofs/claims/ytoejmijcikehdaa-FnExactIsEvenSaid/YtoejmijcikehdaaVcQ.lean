/- IsPermutation, InversionCount, on both sides. -/
import Derived.Test.YtoejmijcikehdaaVaQ
import Derived.Test.YtoejmijcikehdaaQg
namespace Go.Proofs.Ytoejmijcikehdaa.M
open Go.RowKit Abs
set_option linter.unusedSimpArgs false
set_option linter.unusedVariables false
set_option maxRecDepth 100000
set_option maxHeartbeats 4000000
theorem im_perm (p : List Int) (hp : p.length ≤ 1048576) : Spec2 Try.prog 15 [.sl .int fun _ => p] [] [.bool fun _ => permB p] [] := by
  have h9 : permB p = _ := rfl
  conv at h9 => rhs; unfold permB
  refine fnS [] [2] Try.func15 rfl (by decide) rfl (by decide) (by kernel_rfl) rfl (by simp [Try.ntmps15]) ?_
  cbv
  ((try simp only [IfP_iff, and_true, true_and, decide_eq_true_eq, decide_eq_false_iff_not]); (try simp only [natc, getI_gi, at2_0, at2_1]); (try dsimp only [Ty.den]); (try simp only [natc] at *); (repeat' (first | apply And.intro | intro _)))
  all_goals (repeat' (first | ((first | refine call_q (im_eachOnce p p.length hp) (by cbv) ?_ | refine call_pure (im_eachOnce p p.length hp) (by cbv) ?_); cbv; ((try simp only [IfP_iff, and_true, true_and, decide_eq_true_eq, decide_eq_false_iff_not]); (try simp only [natc, getI_gi, at2_0, at2_1]); (try dsimp only [Ty.den]); (try simp only [natc] at *); (repeat' (first | apply And.intro | intro _))))))
  all_goals (try (simp only [IfP_iff, EqU_iff, Obl_iff, and_true, true_and, inI_iff, decide_eq_true_eq, decide_eq_false_iff_not]; (try simp only [natc, getI_gi, at2_0, at2_1]); (try dsimp only [Ty.den]); try simp only [natc] at *))
  all_goals ((repeat' (first | apply And.intro | intro _)) <;> first | omega | (simp only [List.length_append, List.length_cons, List.length_nil]; omega) | grind)
theorem sp_perm (p : List Int) (hp : p.length ≤ 1048576) : Spec2 Try.prog 52 [.sl .int fun _ => p] [] [.bool fun _ => permB p] [] := by
  have h9 : permB p = (decide ((p.length : Int) ≤ 8) && (decide ((p.length : Int) = p.length) && allI (p.length : Int).toNat (hasB p))) := rfl
  have h8 : decide ((p.length : Int) = p.length) = true := by simp
  rw [h8, Bool.true_and] at h9
  refine fnS [] [2] Try.func52 rfl (by decide) rfl (by decide) (by kernel_rfl) rfl (by simp [Try.ntmps52]) ?_
  cbv
  refine loopP (by kernel_rfl) (fun k : Int => 0 ≤ k ∧ k ≤ p.length ∧ ∀ j : Int, 0 ≤ j → j < k → hasB p j = true) (fun k => [(3, .int fun _ => k)]) (fun _ => []) (fun k => (p.length - k).toNat) (· + 1) 0 (by grind) ?_ ?_
  · cbv
    (simp only [IfP_iff, EqU_iff, Obl_iff, and_true, true_and, inI_iff, decide_eq_true_eq, decide_eq_false_iff_not]; (try simp only [natc, getI_gi, at2_0, at2_1]); (try dsimp only [Ty.den]); try simp only [natc] at *)
  · intro k hk
    have h1 := allI_bad (n := (p.length : Int).toNat) (p := hasB p) (k := k)
    have h2 := allI_good (n := (p.length : Int).toNat) (p := hasB p)
    have h3 := upTo (p := hasB p) hk.2.2
    have h4 : (((p.length : Int).toNat : Nat) : Int) = p.length := by omega
    cbv
    ((try simp only [IfP_iff, and_true, true_and, decide_eq_true_eq, decide_eq_false_iff_not]); (try simp only [natc, getI_gi, at2_0, at2_1]); (try dsimp only [Ty.den]); (try simp only [natc] at *); (repeat' (first | apply And.intro | intro _)))
    all_goals (repeat' (first | ((first | refine call_q (sp_has p k hp) (by cbv) ?_ | refine call_pure (sp_has p k hp) (by cbv) ?_); cbv; ((try simp only [IfP_iff, and_true, true_and, decide_eq_true_eq, decide_eq_false_iff_not]); (try simp only [natc, getI_gi, at2_0, at2_1]); (try dsimp only [Ty.den]); (try simp only [natc] at *); (repeat' (first | apply And.intro | intro _))))))
    all_goals (try (simp only [IfP_iff, EqU_iff, Obl_iff, and_true, true_and, inI_iff, decide_eq_true_eq, decide_eq_false_iff_not]; (try simp only [natc, getI_gi, at2_0, at2_1]); (try dsimp only [Ty.den]); try simp only [natc] at *))
    all_goals ((repeat' (first | apply And.intro | intro _)) <;> first | omega | (simp only [List.length_append, List.length_cons, List.length_nil]; omega) | grind)
theorem im_isPermS (p : List Int) (hp : p.length ≤ 1048576) : Spec2 Try.prog 13 [.sl .int fun _ => p] [] [.bool fun _ => permB p] [] := by
  refine fnS [] [2] Try.func13 rfl (by decide) rfl (by decide) (by kernel_rfl) rfl (by simp [Try.ntmps13]) ?_
  cbv
  repeat' (first | ((first | refine call_q (sp_perm p hp) (by cbv) ?_ | refine call_pure (sp_perm p hp) (by cbv) ?_); cbv; ((try simp only [IfP_iff, and_true, true_and, decide_eq_true_eq, decide_eq_false_iff_not]); (try simp only [natc, getI_gi, at2_0, at2_1]); (try dsimp only [Ty.den]); (try simp only [natc] at *); (repeat' (first | apply And.intro | intro _)))))
  all_goals (try (simp only [IfP_iff, EqU_iff, Obl_iff, and_true, true_and, inI_iff, decide_eq_true_eq, decide_eq_false_iff_not]; (try simp only [natc, getI_gi, at2_0, at2_1]); (try dsimp only [Ty.den]); try simp only [natc] at *))
  all_goals ((repeat' (first | apply And.intro | intro _)) <;> first | omega | (simp only [List.length_append, List.length_cons, List.length_nil]; omega) | grind)
end Go.Proofs.Ytoejmijcikehdaa.M

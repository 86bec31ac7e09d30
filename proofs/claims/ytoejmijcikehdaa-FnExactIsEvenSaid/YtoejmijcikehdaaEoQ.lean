/- Lists with each number once, in the program. -/
import Derived.Test.YtoejmijcikehdaaHsQ
import Derived.Test.YtoejmijcikehdaaQg
namespace Go.Proofs.Ytoejmijcikehdaa.M
open Go.RowKit Abs
set_option linter.unusedSimpArgs false
set_option linter.unusedVariables false
set_option maxRecDepth 100000
set_option maxHeartbeats 4000000
def eachB (l : List Int) (n : Int) : Bool := decide ((l.length : Int) = n) && allI n.toNat (hasB l)
theorem im_eachOnce (l : List Int) (n : Int) (hl : l.length ≤ 1048576) : Spec2 Try.prog 53 [.sl .int fun _ => l, .int fun _ => n] [] [.bool fun _ => eachB l n] [] := by
  have h9 : eachB l n = _ := rfl
  conv at h9 => rhs; unfold eachB
  refine fnS [] [4] Try.func53 rfl (by decide) rfl (by decide) (by kernel_rfl) rfl (by simp [Try.ntmps53]) ?_
  cbv
  ((try simp only [IfP_iff, and_true, true_and, decide_eq_true_eq, decide_eq_false_iff_not]); (try simp only [natc, getI_gi, at2_0, at2_1]); (try dsimp only [Ty.den]); (try simp only [natc] at *); (repeat' (first | apply And.intro | intro _)))
  · (simp only [IfP_iff, EqU_iff, Obl_iff, and_true, true_and, inI_iff, decide_eq_true_eq, decide_eq_false_iff_not]; (try simp only [natc, getI_gi, at2_0, at2_1]); (try dsimp only [Ty.den]); try simp only [natc] at *)
    grind
  · have hln : (l.length : Int) = n := by simpa using (by assumption : (!decide ((l.length : Int) = n)) = false)
    refine loopP (by kernel_rfl) (fun k : Int => 0 ≤ k ∧ k ≤ n ∧ ∀ j : Int, 0 ≤ j → j < k → hasB l j = true) (fun k => [(11, .int fun _ => k)]) (fun _ => []) (fun k => (n - k).toNat) (· + 1) 0 (by grind) ?_ ?_
    · cbv
      (simp only [IfP_iff, EqU_iff, Obl_iff, and_true, true_and, inI_iff, decide_eq_true_eq, decide_eq_false_iff_not]; (try simp only [natc, getI_gi, at2_0, at2_1]); (try dsimp only [Ty.den]); try simp only [natc] at *)
    · intro k hk
      have h1 := allI_bad (n := n.toNat) (p := hasB l) (k := k)
      have h2 := allI_good (n := n.toNat) (p := hasB l)
      have h3 := upTo (p := hasB l) hk.2.2
      have h4 : ((n.toNat : Nat) : Int) = n := by omega
      cbv
      ((try simp only [IfP_iff, and_true, true_and, decide_eq_true_eq, decide_eq_false_iff_not]); (try simp only [natc, getI_gi, at2_0, at2_1]); (try dsimp only [Ty.den]); (try simp only [natc] at *); (repeat' (first | apply And.intro | intro _)))
      all_goals (repeat' (first | ((first | refine call_q (go_contains l _ hl) (by cbv) ?_ | refine call_pure (go_contains l _ hl) (by cbv) ?_); cbv; ((try simp only [IfP_iff, and_true, true_and, decide_eq_true_eq, decide_eq_false_iff_not]); (try simp only [natc, getI_gi, at2_0, at2_1]); (try dsimp only [Ty.den]); (try simp only [natc] at *); (repeat' (first | apply And.intro | intro _))))))
      all_goals (try (simp only [IfP_iff, EqU_iff, Obl_iff, and_true, true_and, inI_iff, decide_eq_true_eq, decide_eq_false_iff_not]; (try simp only [natc, getI_gi, at2_0, at2_1]); (try dsimp only [Ty.den]); try simp only [natc] at *))
      all_goals ((repeat' (first | apply And.intro | intro _)) <;> first | omega | (simp only [List.length_append, List.length_cons, List.length_nil]; omega) | grind)
end Go.Proofs.Ytoejmijcikehdaa.M

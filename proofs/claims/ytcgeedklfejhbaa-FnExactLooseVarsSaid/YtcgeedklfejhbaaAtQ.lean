/- Whether an assignment meets a Formula: the program. -/
import Derived.Test.YtcgeedklfejhbaaAsQ
import Derived.Test.YtcgeedklfejhbaaLxQ
import Derived.Test.YtcgeedklfejhbaaSbQ
import Derived.Test.YtcgeedklfejhbaaQc
namespace Go.Proofs.Ytcgeedklfejhbaa.M
open Go.RowKit Abs
set_option linter.unusedSimpArgs false
set_option linter.unusedVariables false
set_option maxRecDepth 100000
set_option maxHeartbeats 4000000
def meetB (l : List Int) (x : Int) : Bool := if 0 < x then decide (gi l (x - 1) = 1) else !decide (gi l (-1 - x) = 1)
theorem im_meets (n : Int) (l : List Int) (x : Int) (hl : l.length = 6) (hx : inI x) (h0 : 0 ≤ varOf x) (h1 : varOf x < 6) : Spec2 Try.prog 99 [.agg (.pr .int (.ar 5 .int)) fun _ => (n, l), .int fun _ => x] [] [.bool fun _ => meetB l x] [] := by
  have e1 : meetB l x = decide (litF (varOf x) (gi l (varOf x)) = x) := by
    unfold meetB litF varOf at *
    by_cases h : 0 < x
    · simp only [h, if_true] at *
      by_cases hg : gi l (x - 1) = 1
      · rw [if_pos hg, hg]; simp
      · rw [if_neg hg]; simp only [hg, decide_false]; rw [eq_comm, decide_eq_false_iff_not]; omega
    · simp only [h, if_false] at *
      by_cases hg : gi l (-1 - x) = 1
      · rw [if_pos hg, hg]; simp; omega
      · rw [if_neg hg]; simp only [hg, decide_false, Bool.not_false]; rw [eq_comm, decide_eq_true_eq]; omega
  have e2 : ∀ k : Int, 0 ≤ k → k < 6 → gi (n :: l) (1 + k) = gi l k := fun k a b => by
    unfold gi
    rw [show (1 + k).toNat = k.toNat + 1 by omega, List.getD_cons_succ]
  refine fnS [] [4] Try.func99 rfl (by decide) rfl (by decide) (by kernel_rfl) rfl (by simp [Try.ntmps99]) ?_
  cbv
  ((try simp only [IfP_iff, and_true, true_and, decide_eq_true_eq, decide_eq_false_iff_not]); (try simp only [natc, getI_gi, at2_0, at2_1]); (try dsimp only [Ty.den]); (try simp only [natc] at *); (repeat' (first | apply And.intro | intro _)))
  all_goals (repeat' (first | ((first | refine call_q (im_variableOf x hx) (by cbv) ?_ | refine call_pure (im_variableOf x hx) (by cbv) ?_); cbv; ((try simp only [IfP_iff, and_true, true_and, decide_eq_true_eq, decide_eq_false_iff_not]); (try simp only [natc, getI_gi, at2_0, at2_1]); (try dsimp only [Ty.den]); (try simp only [natc] at *); (repeat' (first | apply And.intro | intro _)))) | ((first | refine call_q (im_lit (varOf x) _ h0 (by omega)) (by cbv) ?_ | refine call_pure (im_lit (varOf x) _ h0 (by omega)) (by cbv) ?_); cbv; ((try simp only [IfP_iff, and_true, true_and, decide_eq_true_eq, decide_eq_false_iff_not]); (try simp only [natc, getI_gi, at2_0, at2_1]); (try dsimp only [Ty.den]); (try simp only [natc] at *); (repeat' (first | apply And.intro | intro _))))))
  all_goals (try (simp only [IfP_iff, EqU_iff, Obl_iff, and_true, true_and, inI_iff, decide_eq_true_eq, decide_eq_false_iff_not]; (try simp only [natc, getI_gi, at2_0, at2_1]); (try dsimp only [Ty.den]); try simp only [natc] at *))
  · refine ⟨h0, h1, ?_⟩
    rw [List.length_cons, hl]
    decide
  · rw [e1]
    have e3 : gi (n :: l) (((1 : Nat) : Int) + varOf x) = gi l (varOf x) := e2 (varOf x) h0 h1
    exact congrArg (fun y => decide (litF (varOf x) y = x)) e3
def litsIn (c : List Int) : Prop := ∀ x ∈ c, inI x ∧ 0 ≤ varOf x ∧ varOf x < 6
def notMet (l c : List Int) : Bool := !c.any (meetB l)
theorem im_isMet1 (n : Int) (l c : List Int) (hl : l.length = 6) (hc : c.length ≤ 1048576) (hx : litsIn c) : Spec2 Try.prog 98 [.sl .int fun _ => c, .iptr (.ar 6 .int) fun _ => n :: l] [] [.bool fun _ => notMet l c] [] := by
  have h9 : notMet l c = !c.any (meetB l) := rfl
  refine fnS [] [3] Try.func98 rfl (by decide) rfl (by decide) (by kernel_rfl) rfl (by simp [Try.ntmps98]) ?_
  cbv
  repeat' (first | ((first | refine call_q (go_containsFB 99 (fun _ => ofBound [.agg (.pr .int (.ar 5 .int)) fun _ => (n, l)]) (meetB l) c hc fun x h => ⟨_, rfl, fun _ => rfl, im_meets n l x hl (hx x h).1 (hx x h).2.1 (hx x h).2.2⟩) (by cbv) ?_ | refine call_pure (go_containsFB 99 (fun _ => ofBound [.agg (.pr .int (.ar 5 .int)) fun _ => (n, l)]) (meetB l) c hc fun x h => ⟨_, rfl, fun _ => rfl, im_meets n l x hl (hx x h).1 (hx x h).2.1 (hx x h).2.2⟩) (by cbv) ?_); cbv; ((try simp only [IfP_iff, and_true, true_and, decide_eq_true_eq, decide_eq_false_iff_not]); (try simp only [natc, getI_gi, at2_0, at2_1]); (try dsimp only [Ty.den]); (try simp only [natc] at *); (repeat' (first | apply And.intro | intro _)))))
  all_goals (try clear hx)
  all_goals (try (simp only [IfP_iff, EqU_iff, Obl_iff, and_true, true_and, inI_iff, decide_eq_true_eq, decide_eq_false_iff_not]; (try simp only [natc, getI_gi, at2_0, at2_1]); (try dsimp only [Ty.den]); try simp only [natc] at *))
  all_goals ((repeat' (first | apply And.intro | intro _)) <;> first | omega | (simp only [List.length_append, List.length_cons, List.length_nil]; omega) | grind)
theorem im_isMet (n m : Int) (L : List (List Int)) (l : List Int) (hl : l.length = 6) (hL : L.length ≤ 1048576) (hm : ∀ c ∈ L, c.length ≤ 1048576) (hx : ∀ c ∈ L, litsIn c) : Spec2 Try.prog 69 [.agg (.pr .int (.sl (.sl .int))) fun _ => (n, L), .agg (.pr .int (.ar 5 .int)) fun _ => (m, l)] [] [.bool fun _ => !L.any (notMet l)] [] := by
  refine fnS [] [4] Try.func69 rfl (by decide) rfl (by decide) (by kernel_rfl) rfl (by simp [Try.ntmps69]) ?_
  cbv
  ((try simp only [IfP_iff, and_true, true_and, decide_eq_true_eq, decide_eq_false_iff_not]); (try simp only [natc, getI_gi, at2_0, at2_1]); (try dsimp only [Ty.den]); (try simp only [natc] at *); (repeat' (first | apply And.intro | intro _)))
  all_goals (repeat' (first | ((first | refine call_q (go_containsFR 98 (fun _ => ofCaps [.iptr (.ar 6 .int) fun _ => m :: l]) (notMet l) L hL fun c h => ⟨_, rfl, fun _ => rfl, im_isMet1 m l c hl (hm c h) (hx c h)⟩) (by cbv) ?_ | refine call_pure (go_containsFR 98 (fun _ => ofCaps [.iptr (.ar 6 .int) fun _ => m :: l]) (notMet l) L hL fun c h => ⟨_, rfl, fun _ => rfl, im_isMet1 m l c hl (hm c h) (hx c h)⟩) (by cbv) ?_); cbv; ((try simp only [IfP_iff, and_true, true_and, decide_eq_true_eq, decide_eq_false_iff_not]); (try simp only [natc, getI_gi, at2_0, at2_1]); (try dsimp only [Ty.den]); (try simp only [natc] at *); (repeat' (first | apply And.intro | intro _))))))
  all_goals (try clear hx)
  all_goals (try clear hm)
  all_goals (try (simp only [IfP_iff, EqU_iff, Obl_iff, and_true, true_and, inI_iff, decide_eq_true_eq, decide_eq_false_iff_not]; (try simp only [natc, getI_gi, at2_0, at2_1]); (try dsimp only [Ty.den]); try simp only [natc] at *))
  all_goals ((repeat' (first | apply And.intro | intro _)) <;> first | omega | (simp only [List.length_append, List.length_cons, List.length_nil]; omega) | grind)
end Go.Proofs.Ytcgeedklfejhbaa.M

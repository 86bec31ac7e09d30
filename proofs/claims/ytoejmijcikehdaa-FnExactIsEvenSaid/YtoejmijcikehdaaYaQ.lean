/- Parities, in the program. -/
import Derived.Test.YtoejmijcikehdaaLbQ
import Derived.Test.YtoejmijcikehdaaQg
namespace Go.Proofs.Ytoejmijcikehdaa.M
open Go.RowKit Abs
set_option linter.unusedSimpArgs false
set_option linter.unusedVariables false
set_option maxRecDepth 100000
set_option maxHeartbeats 4000000
def parG (L : List (List Int)) (l : List (Int × Int)) (i v : Int) : Int := (gi (distR L l (gi (getR .int (partsR L l) i) 0)) v).tmod 2
theorem parR_eq (L : List (List Int)) (l : List (Int × Int)) : parR L l = putTo (parG L l) (partsR L l) (List.replicate L.length 0) (partsR L l).length := rfl
def neB (P : List Int) (a b : Int) : Bool := !decide (gi P a = gi P b)
def parOk (L : List (List Int)) (l : List (Int × Int)) : Bool := l.all fun e => neB (parR L l) e.1 e.2
theorem any_parOk (L : List (List Int)) (l : List (Int × Int)) : (!l.any fun e => !neB (parR L l) e.1 e.2) = parOk L l := by
  unfold parOk
  rw [List.not_any_eq_all_not]
  simp
theorem im_each1 (e : Int × Int) (f : FuncId) (c : Unit → CapR) (q : Int → Int → Bool) (hf : Fn1 Try.prog tab f c [.int fun _ => e.1, .int fun _ => e.2] [.bool fun _ => q e.1 e.2]) : Spec2 Try.prog 111 [.agg (.pr .int .int) fun _ => e, .ibox [.fnr f c] 0] [] [.bool fun _ => !q e.1 e.2] [] := by
  refine fnS [] [3] Try.func111 rfl (by decide) rfl (by decide) (by kernel_rfl) rfl (by simp [Try.ntmps111]) ?_
  cbv
  ((try simp only [IfP_iff, and_true, true_and, decide_eq_true_eq, decide_eq_false_iff_not]); (try simp only [natc, getI_gi, at2_0, at2_1]); (try dsimp only [Ty.den]); (try simp only [natc] at *); (repeat' (first | apply And.intro | intro _)))
  all_goals (repeat' (first | ((first | refine call_fnq hf rfl (by cbv) ?_ | refine call_fn hf rfl (by cbv) ?_); cbv; ((try simp only [IfP_iff, and_true, true_and, decide_eq_true_eq, decide_eq_false_iff_not]); (try simp only [natc, getI_gi, at2_0, at2_1]); (try dsimp only [Ty.den]); (try simp only [natc] at *); (repeat' (first | apply And.intro | intro _))))))
  all_goals (try (simp only [IfP_iff, EqU_iff, Obl_iff, and_true, true_and, inI_iff, decide_eq_true_eq, decide_eq_false_iff_not]; (try simp only [natc, getI_gi, at2_0, at2_1]); (try dsimp only [Ty.den]); try simp only [natc] at *))
  all_goals ((repeat' (first | apply And.intro | intro _)) <;> first | omega | trace_state)
theorem im_each (L : List (List Int)) (l : List (Int × Int)) (f : FuncId) (c : Unit → CapR) (q : Int → Int → Bool) (hl : l.length ≤ 1048576) (hf : ∀ e ∈ l, Fn1 Try.prog tab f c [.int fun _ => e.1, .int fun _ => e.2] [.bool fun _ => q e.1 e.2]) : Spec2 Try.prog 101 [.agg (.pr (.sl (.sl .int)) (.sl (.pr .int .int))) fun _ => (L, l), .fnr f c] [] [.bool fun _ => !l.any fun e => !q e.1 e.2] [] := by
  refine fnS [] [4] Try.func101 rfl (by decide) rfl (by decide) (by kernel_rfl) rfl (by simp [Try.ntmps101]) ?_
  cbv
  ((first | refine call_q (go_containsFP 111 (fun _ => ofCaps [.ibox [.fnr f c] 0]) (fun e => !q e.1 e.2) l hl fun e he => ⟨_, rfl, fun _ => rfl, im_each1 e f c q (hf e he)⟩) (by cbv) ?_ | refine call_pure (go_containsFP 111 (fun _ => ofCaps [.ibox [.fnr f c] 0]) (fun e => !q e.1 e.2) l hl fun e he => ⟨_, rfl, fun _ => rfl, im_each1 e f c q (hf e he)⟩) (by cbv) ?_); cbv; ((try simp only [IfP_iff, and_true, true_and, decide_eq_true_eq, decide_eq_false_iff_not]); (try simp only [natc, getI_gi, at2_0, at2_1]); (try dsimp only [Ty.den]); (try simp only [natc] at *); (repeat' (first | apply And.intro | intro _))))
  all_goals (try (simp only [IfP_iff, EqU_iff, Obl_iff, and_true, true_and, inI_iff, decide_eq_true_eq, decide_eq_false_iff_not]; (try simp only [natc, getI_gi, at2_0, at2_1]); (try dsimp only [Ty.den]); try simp only [natc] at *))
theorem im_par1 (a b : Int) (P : List Int) (a0 : 0 ≤ a) (a1 : a < P.length) (b0 : 0 ≤ b) (b1 : b < P.length) (hP : P.length ≤ 1048576) : Spec2 Try.prog 102 [.int fun _ => a, .int fun _ => b, .ibox [.sl .int fun _ => P] 0] [] [.bool fun _ => neB P a b] [] := by
  refine fnS [] [5] Try.func102 rfl (by decide) rfl (by decide) (by kernel_rfl) rfl (by simp [Try.ntmps102]) ?_
  cbv
  unfold neB
  ((try simp only [IfP_iff, and_true, true_and, decide_eq_true_eq, decide_eq_false_iff_not]); (try simp only [natc, getI_gi, at2_0, at2_1]); (try dsimp only [Ty.den]); (try simp only [natc] at *); (repeat' (first | apply And.intro | intro _)))
  all_goals (try (simp only [IfP_iff, EqU_iff, Obl_iff, and_true, true_and, inI_iff, decide_eq_true_eq, decide_eq_false_iff_not]; (try simp only [natc, getI_gi, at2_0, at2_1]); (try dsimp only [Ty.den]); try simp only [natc] at *))
  all_goals ((repeat' (first | apply And.intro | intro _)) <;> first | omega | (simp only [List.length_append, List.length_cons, List.length_nil]; omega) | grind)
end Go.Proofs.Ytoejmijcikehdaa.M

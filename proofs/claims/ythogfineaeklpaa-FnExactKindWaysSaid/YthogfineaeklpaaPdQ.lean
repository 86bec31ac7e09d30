/- A colour among those of some nodes of a painting, in the program. -/
import Derived.Test.YthogfineaeklpaaQg
import Derived.Test.YthogfineaeklpaaCtQ
import Derived.Test.YthogfineaeklpaaPcQ
namespace Go.Proofs.Ythogfineaeklpaa.M
open Go.RowKit Abs
set_option linter.unusedSimpArgs false
set_option linter.unusedVariables false
set_option maxRecDepth 100000
set_option maxHeartbeats 4000000
def amongB (x nodes : List Int) (c : Int) : Bool := nodes.any fun v => decide (gi x v = c)
theorem im_among1 (x : List Int) (c v : Int) (hx : x.length = 8) (h0 : 0 ≤ v) (h1 : v < 8) : Spec2 Try.prog 114 [.int fun _ => v, .iptr (.ar 7 .int) fun _ => x, .ibox [.int fun _ => c] 0] [] [.bool fun _ => decide (gi x v = c)] [] := by
  refine fnS [] [4] Try.func114 rfl (by decide) rfl (by decide) (by kernel_rfl) rfl (by simp [Try.ntmps114]) ?_
  cbv
  (simp only [IfP_iff, EqU_iff, Obl_iff, and_true, true_and, inI_iff, decide_eq_true_eq, decide_eq_false_iff_not]; (try simp only [natc, getI_gi, at2_0, at2_1]); (try dsimp only [Ty.den]); try simp only [natc] at *)
  (repeat' (first | apply And.intro | intro _)) <;> first | omega | (simp only [List.length_append, List.length_cons, List.length_nil]; omega) | grind
theorem im_among (x nodes : List Int) (c : Int) (hx : x.length = 8) (hn : ∀ v ∈ nodes, 0 ≤ v ∧ v < 8) (hl : nodes.length ≤ 1048576) : Spec2 Try.prog 90 [.agg (.ar 7 .int) fun _ => x, .sl .int fun _ => nodes, .int fun _ => c] [] [.bool fun _ => amongB x nodes c] [] := by
  refine fnS [] [6] Try.func90 rfl (by decide) rfl (by decide) (by kernel_rfl) rfl (by simp [Try.ntmps90]) ?_
  cbv
  ((first | refine call_q (go_containsF 114 (fun _ => ofCaps [.iptr (.ar 7 .int) fun _ => x, .ibox [.int fun _ => c] 0]) (fun v => decide (gi x v = c)) nodes hl fun v hv => ⟨_, rfl, fun _ => rfl, im_among1 x c v hx (hn v hv).1 (hn v hv).2⟩) (by cbv) ?_ | refine call_pure (go_containsF 114 (fun _ => ofCaps [.iptr (.ar 7 .int) fun _ => x, .ibox [.int fun _ => c] 0]) (fun v => decide (gi x v = c)) nodes hl fun v hv => ⟨_, rfl, fun _ => rfl, im_among1 x c v hx (hn v hv).1 (hn v hv).2⟩) (by cbv) ?_); cbv; ((try simp only [IfP_iff, and_true, true_and, decide_eq_true_eq, decide_eq_false_iff_not]); (try simp only [natc, getI_gi, at2_0, at2_1]); (try dsimp only [Ty.den]); (try simp only [natc] at *); (repeat' (first | apply And.intro | intro _))))
  (simp only [IfP_iff, EqU_iff, Obl_iff, and_true, true_and, inI_iff, decide_eq_true_eq, decide_eq_false_iff_not]; (try simp only [natc, getI_gi, at2_0, at2_1]); (try dsimp only [Ty.den]); try simp only [natc] at *)
  rfl
end Go.Proofs.Ythogfineaeklpaa.M

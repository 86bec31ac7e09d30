/- Palettes, in the program. -/
import Derived.Test.YthogfineaeklpaaCtQ
import Derived.Test.YthogfineaeklpaaQe
import Derived.Test.YthogfineaeklpaaQg
namespace Go.Proofs.Ythogfineaeklpaa.M
open Go.RowKit Abs
set_option linter.unusedSimpArgs false
set_option linter.unusedVariables false
set_option maxRecDepth 100000
set_option maxHeartbeats 4000000
def palB (n : Int) (l : List (Int × Int)) (k : Int) : Bool := graphOk n l && (decide (1 ≤ k) && decide (k ≤ 5))
theorem im_pal_bad (n k : Int) (l : List (Int × Int)) (hl : l.length ≤ 1048576) (hb : palB n l k = false) : Spec2 Try.prog 79 [.agg (.pr .int (.sl (.pr .int .int))) fun _ => (n, l), .int fun _ => k] [] [.cells [.nilsl, .int fun _ => 0], .bool fun _ => false] [] := by
  refine fnC 4 5 2 77 Try.func79 rfl (by decide) rfl (by kernel_rfl) (by kernel_rfl) (by kernel_rfl) (Nat.zero_le _) (by simp [Try.ntmps79]) ?_
  cbv
  repeat' (first | ((first | refine call_q (im_graph n l hl) (by cbv) ?_ | refine call_pure (im_graph n l hl) (by cbv) ?_); cbv; ((try simp only [IfP_iff, and_true, true_and, decide_eq_true_eq, decide_eq_false_iff_not]); (try simp only [natc, at2_0, at2_1]); (try dsimp only [Ty.den]); (try simp only [natc] at *); (repeat' (first | apply And.intro | intro _)))))
  all_goals (try (simp only [IfP_iff, EqU_iff, Obl_iff, and_true, true_and, inI_iff, decide_eq_true_eq, decide_eq_false_iff_not]; (try simp only [natc, at2_0, at2_1]); (try dsimp only [Ty.den]); try simp only [natc] at *))
  iterate 3
    · refine EndC.plain [] ?_
      cbv
      (simp only [IfP_iff, EqU_iff, Obl_iff, and_true, true_and, inI_iff, decide_eq_true_eq, decide_eq_false_iff_not]; (try simp only [natc, at2_0, at2_1]); (try dsimp only [Ty.den]); try simp only [natc] at *)
  exfalso
  unfold palB at hb
  grind
theorem im_pal_ok (n k : Int) (l : List (Int × Int)) (hl : l.length ≤ 1048576) (hb : palB n l k = true) : Spec2 Try.prog 79 [.agg (.pr .int (.sl (.pr .int .int))) fun _ => (n, l), .int fun _ => k] [] [.cells [.ref 0, .int fun _ => k], .bool fun _ => true] [some (.rows 25 3 .int fun _ => nearR l n)] := by
  have hb2 : graphOk n l = true ∧ 1 ≤ k ∧ k ≤ 5 := by unfold palB at hb; simpa using hb
  obtain ⟨b1, b2, b3⟩ := hb2
  obtain ⟨⟨g0, g1⟩, g2, _⟩ := graph_edges b1
  refine fnC 4 5 2 77 Try.func79 rfl (by decide) rfl (by kernel_rfl) (by kernel_rfl) (by kernel_rfl) (Nat.zero_le _) (by simp [Try.ntmps79]) ?_
  cbv
  repeat' (first | ((first | refine call_q (im_graph n l hl) (by cbv) ?_ | refine call_pure (im_graph n l hl) (by cbv) ?_); cbv; ((try simp only [IfP_iff, and_true, true_and, decide_eq_true_eq, decide_eq_false_iff_not]); (try simp only [natc, at2_0, at2_1]); (try dsimp only [Ty.den]); (try simp only [natc] at *); (repeat' (first | apply And.intro | intro _)))))
  all_goals (try (simp only [IfP_iff, EqU_iff, Obl_iff, and_true, true_and, inI_iff, decide_eq_true_eq, decide_eq_false_iff_not]; (try simp only [natc, at2_0, at2_1]); (try dsimp only [Ty.den]); try simp only [natc] at *))
  all_goals (repeat' (first | ((first | refine call_q (im_nearLists l n g0 (by omega) hl g2) (by cbv) ?_ | refine call_pure (im_nearLists l n g0 (by omega) hl g2) (by cbv) ?_); cbv; ((try simp only [IfP_iff, and_true, true_and, decide_eq_true_eq, decide_eq_false_iff_not]); (try simp only [natc, at2_0, at2_1]); (try dsimp only [Ty.den]); (try simp only [natc] at *); (repeat' (first | apply And.intro | intro _))))))
  all_goals (try (simp only [IfP_iff, EqU_iff, Obl_iff, and_true, true_and, inI_iff, decide_eq_true_eq, decide_eq_false_iff_not]; (try simp only [natc, at2_0, at2_1]); (try dsimp only [Ty.den]); try simp only [natc] at *))
  iterate 3
    · exfalso
      first
        | omega
        | simp_all
  refine EndC.plain [2] ?_
  cbv
  (simp only [IfP_iff, EqU_iff, Obl_iff, and_true, true_and, inI_iff, decide_eq_true_eq, decide_eq_false_iff_not]; (try simp only [natc, at2_0, at2_1]); (try dsimp only [Ty.den]); try simp only [natc] at *)
end Go.Proofs.Ythogfineaeklpaa.M

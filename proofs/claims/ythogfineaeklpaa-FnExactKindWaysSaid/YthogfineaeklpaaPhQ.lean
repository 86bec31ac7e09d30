/- Whether a list is a colouring, in the program. -/
import Derived.Test.YthogfineaeklpaaQg
import Derived.Test.YthogfineaeklpaaCtQ
import Derived.Test.YthogfineaeklpaaPdQ
import Derived.Test.YthogfineaeklpaaQe
namespace Go.Proofs.Ythogfineaeklpaa.M
open Go.RowKit Abs
set_option linter.unusedSimpArgs false
set_option linter.unusedVariables false
set_option maxRecDepth 100000
set_option maxHeartbeats 4000000
def spotB (L : List (List Int)) (k : Int) (cs : List Int) (i : Int) : Bool := (decide (0 ≤ gi cs i) && decide (gi cs i < k)) && !amongB (paintL cs) (getR .int L i) (gi cs i)
def holdsB (L : List (List Int)) (k : Int) (cs : List Int) : Bool := decide (cs.length = L.length) && allI cs.length (spotB L k cs)
theorem im_holds (L : List (List Int)) (k : Int) (cs : List Int) (hL : L.length ≤ 8) (hr : ∀ r ∈ L, r.length ≤ 1048576 ∧ ∀ v ∈ r, 0 ≤ v ∧ v < 8) (hc : cs.length ≤ 1048576) : Spec2 Try.prog 80 [.cells [.sl (.sl .int) fun _ => L, .int fun _ => k], .sl .int fun _ => cs] [] [.bool fun _ => holdsB L k cs] [] := by
  have h9 : holdsB L k cs = _ := rfl
  conv at h9 => rhs; unfold holdsB
  refine fnS [] [4] Try.func80 rfl (by decide) rfl (by decide) (by kernel_rfl) rfl (by simp [Try.ntmps80]) ?_
  cbv
  ((try simp only [IfP_iff, and_true, true_and, decide_eq_true_eq, decide_eq_false_iff_not]); (try simp only [natc, getI_gi, at2_0, at2_1]); (try dsimp only [Ty.den]); (try simp only [natc] at *); (repeat' (first | apply And.intro | intro _)))
  · (simp only [IfP_iff, EqU_iff, Obl_iff, and_true, true_and, inI_iff, decide_eq_true_eq, decide_eq_false_iff_not]; (try simp only [natc, getI_gi, at2_0, at2_1]); (try dsimp only [Ty.den]); try simp only [natc] at *)
    grind
  · ((first | refine call_q (im_paintingOf cs hc) (by cbv) ?_ | refine call_pure (im_paintingOf cs hc) (by cbv) ?_); cbv; ((try simp only [IfP_iff, and_true, true_and, decide_eq_true_eq, decide_eq_false_iff_not]); (try simp only [natc, getI_gi, at2_0, at2_1]); (try dsimp only [Ty.den]); (try simp only [natc] at *); (repeat' (first | apply And.intro | intro _))))
    refine loopP (by kernel_rfl) (fun i : Int => 0 ≤ i ∧ i ≤ cs.length ∧ ∀ j : Int, 0 ≤ j → j < i → spotB L k cs j = true) (fun i => [(18, .int fun _ => i)]) (fun _ => []) (fun i => (cs.length - i).toNat) (· + 1) 0 (by grind) ?_ ?_
    · cbv
      (simp only [IfP_iff, EqU_iff, Obl_iff, and_true, true_and, inI_iff, decide_eq_true_eq, decide_eq_false_iff_not]; (try simp only [natc, getI_gi, at2_0, at2_1]); (try dsimp only [Ty.den]); try simp only [natc] at *)
    · intro i hi
      have h1 := allI_bad (n := cs.length) (p := spotB L k cs) (k := i)
      have h2 := allI_good (n := cs.length) (p := spotB L k cs)
      have h3 := upTo (p := spotB L k cs) hi.2.2
      have h4 := paintL_len cs
      have i4 : spotB L k cs i = _ := rfl
      conv at i4 => rhs; unfold spotB
      have hcl : (cs.length : Int) = L.length := by simpa using (by assumption : (!decide ((cs.length : Int) = (L.length : Int))) = false)
      have hg : i < (cs.length : Int) → (getR .int L i).length ≤ 1048576 ∧ ∀ v ∈ getR .int L i, 0 ≤ v ∧ v < 8 := fun h => hr _ (List.mem_of_getElem? (getR_get (t := .int) hi.1 (by omega)))
      clear hr
      cbv
      ((try simp only [IfP_iff, and_true, true_and, decide_eq_true_eq, decide_eq_false_iff_not]); (try simp only [natc, getI_gi, at2_0, at2_1]); (try dsimp only [Ty.den]); (try simp only [natc] at *); (repeat' (first | apply And.intro | intro _)))
      all_goals (repeat' (first | ((first | refine call_q (im_isIndex _ _) (by cbv) ?_ | refine call_pure (im_isIndex _ _) (by cbv) ?_); cbv; ((try simp only [IfP_iff, and_true, true_and, decide_eq_true_eq, decide_eq_false_iff_not]); (try simp only [natc, getI_gi, at2_0, at2_1]); (try dsimp only [Ty.den]); (try simp only [natc] at *); (repeat' (first | apply And.intro | intro _)))) | ((first | refine call_q (im_among (paintL cs) (getR .int L i) (gi cs i) h4 (hg (by assumption)).2 (hg (by assumption)).1) (by cbv) ?_ | refine call_pure (im_among (paintL cs) (getR .int L i) (gi cs i) h4 (hg (by assumption)).2 (hg (by assumption)).1) (by cbv) ?_); cbv; ((try simp only [IfP_iff, and_true, true_and, decide_eq_true_eq, decide_eq_false_iff_not]); (try simp only [natc, getI_gi, at2_0, at2_1]); (try dsimp only [Ty.den]); (try simp only [natc] at *); (repeat' (first | apply And.intro | intro _))))))
      all_goals (try clear hg)
      all_goals (try (simp only [IfP_iff, EqU_iff, Obl_iff, and_true, true_and, inI_iff, decide_eq_true_eq, decide_eq_false_iff_not]; (try simp only [natc, getI_gi, at2_0, at2_1]); (try dsimp only [Ty.den]); try simp only [natc] at *))
      all_goals ((repeat' (first | apply And.intro | intro _)) <;> first | omega | (simp only [List.length_append, List.length_cons, List.length_nil]; omega) | grind)
end Go.Proofs.Ythogfineaeklpaa.M

/- Whether a list is a colouring, in the specification. -/
import Derived.Test.YthogfineaeklpaaQg
import Derived.Test.YthogfineaeklpaaCtQ
import Derived.Test.YthogfineaeklpaaQe
import Derived.Test.YthogfineaeklpaaPgQ
namespace Go.Proofs.Ythogfineaeklpaa.M
open Go.RowKit Abs
set_option linter.unusedSimpArgs false
set_option linter.unusedVariables false
set_option maxRecDepth 100000
set_option maxHeartbeats 4000000
def rangeB (k : Int) (cs : List Int) (i : Int) : Bool := decide (0 ≤ gi cs i) && decide (gi cs i ≤ k - 1)
def diffB (l : List (Int × Int)) (cs : List Int) (i : Int) : Bool := !decide (gi cs (getI (.pr .int .int) l i).1 = gi cs (getI (.pr .int .int) l i).2)
def properB (n k : Int) (l : List (Int × Int)) (cs : List Int) : Bool := decide ((cs.length : Int) = n) && (allI cs.length (rangeB k cs) && allI l.length (diffB l cs))
theorem sp_ask (n k : Int) (l : List (Int × Int)) (hl : l.length ≤ 1048576) : Spec2 Try.prog 77 [.agg (.pr .int (.sl (.pr .int .int))) fun _ => (n, l), .int fun _ => k] [] [.bool fun _ => palB n l k] [] := by
  have h9 : palB n l k = _ := rfl
  conv at h9 => rhs; unfold palB
  refine fnS [] [4] Try.func77 rfl (by decide) rfl (by decide) (by kernel_rfl) rfl (by simp [Try.ntmps77]) ?_
  cbv
  repeat' (first | ((first | refine call_q (sp_good n l hl) (by cbv) ?_ | refine call_pure (sp_good n l hl) (by cbv) ?_); cbv; ((try simp only [IfP_iff, and_true, true_and, decide_eq_true_eq, decide_eq_false_iff_not]); (try simp only [natc, getI_gi, at2_0, at2_1]); (try dsimp only [Ty.den]); (try simp only [natc] at *); (repeat' (first | apply And.intro | intro _)))) | ((first | refine call_q (sp_in _ _ _) (by cbv) ?_ | refine call_pure (sp_in _ _ _) (by cbv) ?_); cbv; ((try simp only [IfP_iff, and_true, true_and, decide_eq_true_eq, decide_eq_false_iff_not]); (try simp only [natc, getI_gi, at2_0, at2_1]); (try dsimp only [Ty.den]); (try simp only [natc] at *); (repeat' (first | apply And.intro | intro _)))))
  all_goals (try (simp only [IfP_iff, EqU_iff, Obl_iff, and_true, true_and, inI_iff, decide_eq_true_eq, decide_eq_false_iff_not]; (try simp only [natc, getI_gi, at2_0, at2_1]); (try dsimp only [Ty.den]); try simp only [natc] at *))
  all_goals ((repeat' (first | apply And.intro | intro _)) <;> first | omega | (simp only [List.length_append, List.length_cons, List.length_nil]; omega) | grind)
theorem sp_proper (n k : Int) (l : List (Int × Int)) (cs : List Int) (hl : l.length ≤ 1048576) (hc : cs.length ≤ 1048576) (hb : palB n l k = true) : Spec2 Try.prog 78 [.agg (.pr .int (.sl (.pr .int .int))) fun _ => (n, l), .int fun _ => k, .sl .int fun _ => cs] [] [.bool fun _ => properB n k l cs] [] := by
  have hb2 : graphOk n l = true ∧ 1 ≤ k ∧ k ≤ 5 := by unfold palB at hb; simpa using hb
  obtain ⟨b1, b2, b3⟩ := hb2
  obtain ⟨⟨g0, g1⟩, g2, _⟩ := graph_edges b1
  have h9 : properB n k l cs = _ := rfl
  conv at h9 => rhs; unfold properB
  clear hb b1
  refine fnS [] [6] Try.func78 rfl (by decide) rfl (by decide) (by kernel_rfl) rfl (by simp [Try.ntmps78]) ?_
  cbv
  ((try simp only [IfP_iff, and_true, true_and, decide_eq_true_eq, decide_eq_false_iff_not]); (try simp only [natc, getI_gi, at2_0, at2_1]); (try dsimp only [Ty.den]); (try simp only [natc] at *); (repeat' (first | apply And.intro | intro _)))
  · (simp only [IfP_iff, EqU_iff, Obl_iff, and_true, true_and, inI_iff, decide_eq_true_eq, decide_eq_false_iff_not]; (try simp only [natc, getI_gi, at2_0, at2_1]); (try dsimp only [Ty.den]); try simp only [natc] at *)
    grind
  · have hcl : (cs.length : Int) = n := by simpa using (by assumption : (!decide ((cs.length : Int) = n)) = false)
    refine loopP (by kernel_rfl) (fun i : Int => 0 ≤ i ∧ i ≤ cs.length ∧ ∀ j : Int, 0 ≤ j → j < i → rangeB k cs j = true) (fun i => [(7, .int fun _ => i)]) (fun _ => []) (fun i => (cs.length - i).toNat) (· + 1) 0 (by grind) ?_ ?_
    · cbv
      (simp only [IfP_iff, EqU_iff, Obl_iff, and_true, true_and, inI_iff, decide_eq_true_eq, decide_eq_false_iff_not]; (try simp only [natc, getI_gi, at2_0, at2_1]); (try dsimp only [Ty.den]); try simp only [natc] at *)
    · intro i hi
      have h1 := allI_bad (n := cs.length) (p := rangeB k cs) (k := i)
      have h2 := allI_good (n := cs.length) (p := rangeB k cs)
      have h3 := upTo (p := rangeB k cs) hi.2.2
      have i4 : rangeB k cs i = _ := rfl
      conv at i4 => rhs; unfold rangeB
      cbv
      ((try simp only [IfP_iff, and_true, true_and, decide_eq_true_eq, decide_eq_false_iff_not]); (try simp only [natc, getI_gi, at2_0, at2_1]); (try dsimp only [Ty.den]); (try simp only [natc] at *); (repeat' (first | apply And.intro | intro _)))
      all_goals (repeat' (first | ((first | refine call_q (sp_in _ _ _) (by cbv) ?_ | refine call_pure (sp_in _ _ _) (by cbv) ?_); cbv; ((try simp only [IfP_iff, and_true, true_and, decide_eq_true_eq, decide_eq_false_iff_not]); (try simp only [natc, getI_gi, at2_0, at2_1]); (try dsimp only [Ty.den]); (try simp only [natc] at *); (repeat' (first | apply And.intro | intro _))))))
      all_goals (try (simp only [IfP_iff, EqU_iff, Obl_iff, and_true, true_and, inI_iff, decide_eq_true_eq, decide_eq_false_iff_not]; (try simp only [natc, getI_gi, at2_0, at2_1]); (try dsimp only [Ty.den]); try simp only [natc] at *))
      all_goals (try ((repeat' (first | apply And.intro | intro _)) <;> first | omega | (simp only [List.length_append, List.length_cons, List.length_nil]; omega) | grind))
      have hr : allI cs.length (rangeB k cs) = true := h2 fun j j0 j1 => hi.2.2 j j0 (by omega)
      clear h1 h2 h3 i4 hi
      refine loopP (by kernel_rfl) (fun i : Int => 0 ≤ i ∧ i ≤ l.length ∧ ∀ j : Int, 0 ≤ j → j < i → diffB l cs j = true) (fun i => [(8, .int fun _ => i)]) (fun _ => []) (fun i => (l.length - i).toNat) (· + 1) 0 (by grind) ?_ ?_
      · cbv
        (simp only [IfP_iff, EqU_iff, Obl_iff, and_true, true_and, inI_iff, decide_eq_true_eq, decide_eq_false_iff_not]; (try simp only [natc, getI_gi, at2_0, at2_1]); (try dsimp only [Ty.den]); try simp only [natc] at *)
      · intro m hm
        have h1 := allI_bad (n := l.length) (p := diffB l cs) (k := m)
        have h2 := allI_good (n := l.length) (p := diffB l cs)
        have h3 := upTo (p := diffB l cs) hm.2.2
        have i4 : diffB l cs m = _ := rfl
        conv at i4 => rhs; unfold diffB
        have hE : m < (l.length : Int) → 0 ≤ (getI (.pr .int .int) l m).1 ∧ (getI (.pr .int .int) l m).1 < (getI (.pr .int .int) l m).2 ∧ (getI (.pr .int .int) l m).2 < n := fun h => g2 _ (List.mem_of_getElem? (getI_get (t := (.pr .int .int)) hm.1 h))
        clear g2
        cbv
        ((try simp only [IfP_iff, and_true, true_and, decide_eq_true_eq, decide_eq_false_iff_not]); (try simp only [natc, getI_gi, at2_0, at2_1]); (try dsimp only [Ty.den]); (try simp only [natc] at *); (repeat' (first | apply And.intro | intro _)))
        all_goals (try (simp only [IfP_iff, EqU_iff, Obl_iff, and_true, true_and, inI_iff, decide_eq_true_eq, decide_eq_false_iff_not]; (try simp only [natc, getI_gi, at2_0, at2_1]); (try dsimp only [Ty.den]); try simp only [natc] at *))
        all_goals ((repeat' (first | apply And.intro | intro _)) <;> first | omega | (simp only [List.length_append, List.length_cons, List.length_nil]; omega) | grind)
theorem sp_isCol (n k : Int) (l : List (Int × Int)) (cs : List Int) (hl : l.length ≤ 1048576) (hc : cs.length ≤ 1048576) : Spec2 Try.prog 38 [.agg (.pr .int (.sl (.pr .int .int))) fun _ => (n, l), .int fun _ => k, .sl .int fun _ => cs] [] [.bool fun _ => palB n l k && properB n k l cs, .bool fun _ => palB n l k] [] := by
  refine fnS [] [6, 7] Try.func38 rfl (by decide) rfl (by decide) (by kernel_rfl) rfl (by simp [Try.ntmps38]) ?_
  cbv
  repeat' (first | ((first | refine call_q (sp_ask n k l hl) (by cbv) ?_ | refine call_pure (sp_ask n k l hl) (by cbv) ?_); cbv; ((try simp only [IfP_iff, and_true, true_and, decide_eq_true_eq, decide_eq_false_iff_not]); (try simp only [natc, getI_gi, at2_0, at2_1]); (try dsimp only [Ty.den]); (try simp only [natc] at *); (repeat' (first | apply And.intro | intro _)))))
  all_goals (try (simp only [IfP_iff, EqU_iff, Obl_iff, and_true, true_and, inI_iff, decide_eq_true_eq, decide_eq_false_iff_not]; (try simp only [natc, getI_gi, at2_0, at2_1]); (try dsimp only [Ty.den]); try simp only [natc] at *))
  ((try simp only [IfP_iff, and_true, true_and, decide_eq_true_eq, decide_eq_false_iff_not]); (try simp only [natc, getI_gi, at2_0, at2_1]); (try dsimp only [Ty.den]); (try simp only [natc] at *); (repeat' (first | apply And.intro | intro _)))
  all_goals (repeat' (first | ((first | refine call_q (sp_proper n k l cs hl hc (by grind)) (by cbv) ?_ | refine call_pure (sp_proper n k l cs hl hc (by grind)) (by cbv) ?_); cbv; ((try simp only [IfP_iff, and_true, true_and, decide_eq_true_eq, decide_eq_false_iff_not]); (try simp only [natc, getI_gi, at2_0, at2_1]); (try dsimp only [Ty.den]); (try simp only [natc] at *); (repeat' (first | apply And.intro | intro _))))))
  all_goals (try (simp only [IfP_iff, EqU_iff, Obl_iff, and_true, true_and, inI_iff, decide_eq_true_eq, decide_eq_false_iff_not]; (try simp only [natc, getI_gi, at2_0, at2_1]); (try dsimp only [Ty.den]); try simp only [natc] at *))
  all_goals ((repeat' (first | apply And.intro | intro _)) <;> first | omega | (simp only [List.length_append, List.length_cons, List.length_nil]; omega) | grind)
end Go.Proofs.Ythogfineaeklpaa.M

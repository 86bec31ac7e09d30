/- CutOf: the specification. -/
import Derived.Test.YtbpheblbbdiapabTfQVCircleOf
import Derived.Test.YtbpheblbbdiapabQgVCircleOf
namespace Go.Proofs.Ytbpheblbbdiapab.M
open Go.RowKit Abs
set_option linter.unusedSimpArgs false
set_option linter.unusedVariables false
set_option maxRecDepth 100000
set_option maxHeartbeats 4000000
theorem asc_filter {m : Int} {s : List Int} (q : Int → Bool) (h : ascB m s = true) : ascB m (s.filter q) = true := by
  have hp : (s.filter q).Pairwise (· < ·) := (asc_pw h).filter q
  refine allI_good fun k k0 k1 => ?_
  have hm := gi_mem (l := s.filter q) k0 k1
  obtain ⟨j, j0, j1, e⟩ := mem_at (List.mem_filter.1 hm).1
  have hb := asc_at h j0 j1
  unfold nodeOk
  simp only [Bool.and_eq_true, Bool.or_eq_true, decide_eq_true_eq]
  refine ⟨by show 0 ≤ gi (s.filter q) k ∧ gi (s.filter q) k < m; rw [← e]; exact hb, ?_⟩
  by_cases hk : k ≤ 0
  · exact .inl hk
  · right
    have h2 := List.pairwise_iff_getElem.1 hp (k - 1).toNat k.toNat (by omega) (by omega) (by omega)
    have e1 : ∀ i : Int, 0 ≤ i → (hi : i.toNat < (s.filter q).length) → gi (s.filter q) i = (s.filter q)[i.toNat] := fun i i0 hi => by
      unfold gi
      rw [List.getD_eq_getElem?_getD, List.getElem?_eq_getElem hi]
      rfl
    show gi (s.filter q) (k - 1) < gi (s.filter q) k
    rw [e1 _ (by omega) (by omega), e1 _ k0 (by omega)]
    exact h2
def twoB (n : Int) (l : List (Int × Int)) (es : List Int) (d : Int) : Bool := someB n l && treeB n l es && (decide (0 ≤ d) && decide (d ≤ (l.length : Int) - 1))
theorem sp_two7 (n : Int) (l : List (Int × Int)) (es : List Int) (d : Int) (hl : l.length ≤ 1048576) (he : es.length ≤ 1048576) : Spec2 Try.prog 39 [.agg (.pr .int (.sl (.pr .int .int))) fun _ => (n, l), .sl .int fun _ => es, .int fun _ => d] [] [.bool fun _ => twoB n l es d] [] := by
  have h9 : twoB n l es d = _ := rfl
  conv at h9 => rhs; unfold twoB
  by_cases hs : someB n l = true
  case neg =>
    rw [Bool.not_eq_true] at hs
    rw [hs] at h9
    have h8 : twoB n l es d = false := by rw [h9]; rfl
    rw [h8]
    refine fnS [] [6] Try.func39 rfl (by decide) rfl (by decide) (by kernel_rfl) rfl (by simp [Try.ntmps39]) ?_
    cbv
    repeat' (first | ((first | refine call_q (sp_some n l hl) (by cbv) ?_ | refine call_pure (sp_some n l hl) (by cbv) ?_); cbv; ((try simp only [IfP_iff, and_true, true_and, decide_eq_true_eq, decide_eq_false_iff_not]); (try simp only [natc, getI_gi, at2_0, at2_1]); (try dsimp only [Ty.den]); (try simp only [natc] at *); (repeat' (first | apply And.intro | intro _)))))
    all_goals (try (simp only [IfP_iff, EqU_iff, Obl_iff, and_true, true_and, inI_iff, decide_eq_true_eq, decide_eq_false_iff_not]; (try simp only [natc, getI_gi, at2_0, at2_1]); (try dsimp only [Ty.den]); try simp only [natc] at *))
    ((try simp only [IfP_iff, and_true, true_and, decide_eq_true_eq, decide_eq_false_iff_not]); (try simp only [natc, getI_gi, at2_0, at2_1]); (try dsimp only [Ty.den]); (try simp only [natc] at *); (repeat' (first | apply And.intro | intro _)))
    all_goals (try (exact absurd (by assumption : someB n l = true) (by rw [hs]; decide)))
    all_goals (try (simp only [IfP_iff, EqU_iff, Obl_iff, and_true, true_and, inI_iff, decide_eq_true_eq, decide_eq_false_iff_not]; (try simp only [natc, getI_gi, at2_0, at2_1]); (try dsimp only [Ty.den]); try simp only [natc] at *))
    all_goals ((repeat' (first | apply And.intro | intro _)) <;> first | omega | (simp only [List.length_append, List.length_cons, List.length_nil]; omega) | grind)
  have hs2 := hs
  unfold someB at hs2
  simp only [Bool.and_eq_true, decide_eq_true_eq] at hs2
  obtain ⟨hg, n0⟩ := hs2
  refine fnS [] [6] Try.func39 rfl (by decide) rfl (by decide) (by kernel_rfl) rfl (by simp [Try.ntmps39]) ?_
  cbv
  repeat' (first | ((first | refine call_q (sp_some n l hl) (by cbv) ?_ | refine call_pure (sp_some n l hl) (by cbv) ?_); cbv; ((try simp only [IfP_iff, and_true, true_and, decide_eq_true_eq, decide_eq_false_iff_not]); (try simp only [natc, getI_gi, at2_0, at2_1]); (try dsimp only [Ty.den]); (try simp only [natc] at *); (repeat' (first | apply And.intro | intro _)))))
  all_goals (try (simp only [IfP_iff, EqU_iff, Obl_iff, and_true, true_and, inI_iff, decide_eq_true_eq, decide_eq_false_iff_not]; (try simp only [natc, getI_gi, at2_0, at2_1]); (try dsimp only [Ty.den]); try simp only [natc] at *))
  ((try simp only [IfP_iff, and_true, true_and, decide_eq_true_eq, decide_eq_false_iff_not]); (try simp only [natc, getI_gi, at2_0, at2_1]); (try dsimp only [Ty.den]); (try simp only [natc] at *); (repeat' (first | apply And.intro | intro _)))
  all_goals (repeat' (first | ((first | refine call_q (sp_tree7 n l es hl he hg n0) (by cbv) ?_ | refine call_pure (sp_tree7 n l es hl he hg n0) (by cbv) ?_); cbv; ((try simp only [IfP_iff, and_true, true_and, decide_eq_true_eq, decide_eq_false_iff_not]); (try simp only [natc, getI_gi, at2_0, at2_1]); (try dsimp only [Ty.den]); (try simp only [natc] at *); (repeat' (first | apply And.intro | intro _))))))
  all_goals (try (simp only [IfP_iff, EqU_iff, Obl_iff, and_true, true_and, inI_iff, decide_eq_true_eq, decide_eq_false_iff_not]; (try simp only [natc, getI_gi, at2_0, at2_1]); (try dsimp only [Ty.den]); try simp only [natc] at *))
  all_goals (try ((try simp only [IfP_iff, and_true, true_and, decide_eq_true_eq, decide_eq_false_iff_not]); (try simp only [natc, getI_gi, at2_0, at2_1]); (try dsimp only [Ty.den]); (try simp only [natc] at *); (repeat' (first | apply And.intro | intro _))))
  all_goals (repeat' (first | ((first | refine call_q (sp_in _ _ _) (by cbv) ?_ | refine call_pure (sp_in _ _ _) (by cbv) ?_); cbv; ((try simp only [IfP_iff, and_true, true_and, decide_eq_true_eq, decide_eq_false_iff_not]); (try simp only [natc, getI_gi, at2_0, at2_1]); (try dsimp only [Ty.den]); (try simp only [natc] at *); (repeat' (first | apply And.intro | intro _))))))
  all_goals (try (simp only [IfP_iff, EqU_iff, Obl_iff, and_true, true_and, inI_iff, decide_eq_true_eq, decide_eq_false_iff_not]; (try simp only [natc, getI_gi, at2_0, at2_1]); (try dsimp only [Ty.den]); try simp only [natc] at *))
  all_goals ((repeat' (first | apply And.intro | intro _)) <;> first | omega | (simp only [List.length_append, List.length_cons, List.length_nil]; omega) | grind)
def cutOk (n : Int) (l : List (Int × Int)) (es : List Int) (d : Int) : Bool := twoB n l es d && hasB es d
def cutR (n : Int) (l : List (Int × Int)) (es : List Int) (d : Int) : List Int := if cutOk n l es d = true then pref (crB (cutD n l es d) l) l.length else []
theorem two_in {n : Int} {l : List (Int × Int)} {es : List Int} {d : Int} (h : twoB n l es d = true) : graphOk n l = true ∧ 0 < n ∧ ascB l.length es = true ∧ allZ (forF (partL l es)) n = true ∧ 0 ≤ d ∧ d < l.length := by
  unfold twoB someB treeB at h
  simp only [Bool.and_eq_true, decide_eq_true_eq] at h
  exact ⟨h.1.1.1, h.1.1.2, h.1.2.1.2, h.1.2.2, h.2.1, by omega⟩
end Go.Proofs.Ytbpheblbbdiapab.M

/- Ji, Jk, in one text. -/
import Derived.Test.YtlfdimhnielleaaCrQVPolygonSpace
import Derived.Test.YtlfdimhnielleaaQeVPolygonSpace
import Derived.Test.YtlfdimhnielleaaQgVPolygonSpace
/- The law's helper for Spaces as results: the marks are still there. -/
namespace Go.Proofs.Ytlfdimhnielleaa.M
open Go.RowKit Abs
set_option linter.unusedSimpArgs false
set_option linter.unusedVariables false
set_option maxRecDepth 100000
set_option maxHeartbeats 4000000
theorem la_heldSpace (L R : List (List Int)) (l : List (Int × Int)) (n : Nat) (k0 : Int) (hR : R = mrk k0 L) (he : l = marksP (k0 + totR L) n) (h0 : 0 ≤ k0) (h1 : k0 + totR L ≤ 1000000000) (hL : L.length ≤ 1048576) (hm : ∀ k : Int, 0 ≤ k → k < L.length → (getR .int L k).length ≤ 1048576) (hl : n ≤ 1048576) : Spec2 Try.prog 11 [.agg (.pr (.sl (.sl .int)) (.sl (.pr .int .int))) fun _ => (R, l), .int fun _ => k0] [] [.int fun _ => k0 + totR L + n * 2] [] := by
  have ht := totR_nn L
  refine fnS [] [4] Try.func11 rfl (by decide) rfl (by decide) (by kernel_rfl) rfl (by simp [Try.ntmps11]) ?_
  cbv
  ((first | refine call_q (la_heldRows R L k0 hR h0 h1 hL hm) (by cbv) ?_ | refine call_pure (la_heldRows R L k0 hR h0 h1 hL hm) (by cbv) ?_); cbv; ((try simp only [IfP_iff, and_true, true_and, decide_eq_true_eq, decide_eq_false_iff_not]); (try simp only [natc, getI_gi, at2_0, at2_1]); (try dsimp only [Ty.den]); (try simp only [natc] at *); (repeat' (first | apply And.intro | intro _))))
  all_goals (try (simp only [IfP_iff, EqU_iff, Obl_iff, and_true, true_and, inI_iff, decide_eq_true_eq, decide_eq_false_iff_not]; (try simp only [natc, getI_gi, at2_0, at2_1]); (try dsimp only [Ty.den]); try simp only [natc] at *))
  ((try simp only [IfP_iff, and_true, true_and, decide_eq_true_eq, decide_eq_false_iff_not]); (try simp only [natc, getI_gi, at2_0, at2_1]); (try dsimp only [Ty.den]); (try simp only [natc] at *); (repeat' (first | apply And.intro | intro _)))
  all_goals (repeat' (first | ((first | refine call_q (la_heldPairs l n (k0 + totR L) he (by omega) h1 hl) (by cbv) ?_ | refine call_pure (la_heldPairs l n (k0 + totR L) he (by omega) h1 hl) (by cbv) ?_); cbv; ((try simp only [IfP_iff, and_true, true_and, decide_eq_true_eq, decide_eq_false_iff_not]); (try simp only [natc, getI_gi, at2_0, at2_1]); (try dsimp only [Ty.den]); (try simp only [natc] at *); (repeat' (first | apply And.intro | intro _))))))
  all_goals (try (simp only [IfP_iff, EqU_iff, Obl_iff, and_true, true_and, inI_iff, decide_eq_true_eq, decide_eq_false_iff_not]; (try simp only [natc, getI_gi, at2_0, at2_1]); (try dsimp only [Ty.den]); try simp only [natc] at *))
  all_goals (try ((try simp only [IfP_iff, and_true, true_and, decide_eq_true_eq, decide_eq_false_iff_not]); (try simp only [natc, getI_gi, at2_0, at2_1]); (try dsimp only [Ty.den]); (try simp only [natc] at *); (repeat' (first | apply And.intro | intro _))))
  all_goals (try (simp only [IfP_iff, EqU_iff, Obl_iff, and_true, true_and, inI_iff, decide_eq_true_eq, decide_eq_false_iff_not]; (try simp only [natc, getI_gi, at2_0, at2_1]); (try dsimp only [Ty.den]); try simp only [natc] at *))
  all_goals ((repeat' (first | apply And.intro | intro _)) <;> first | omega | trace_state)
end Go.Proofs.Ytlfdimhnielleaa.M
/- The walk of FnExactPolygonSpace, for whatever the two functions return alike: the pattern for laws whose result is a Space. -/
namespace Go.Proofs.Ytlfdimhnielleaa.M
open Go.RowKit Abs
set_option linter.unusedSimpArgs false
set_option linter.unusedVariables false
set_option maxRecDepth 100000
set_option maxHeartbeats 4000000
set_option maxHeartbeats 8000000
theorem law2_PolygonSpace0 (v0 : Int) (R : List (List Int)) (Q : List (Int × Int)) (b1 : Bool)
    (s1 : Spec2 Try.prog 7 [.int fun _ => v0] [] [.cells [.ref 0, .ref 1], .bool fun _ => b1] [some (.rows 40 3 .int fun _ => R), some (.row 85 (.pr .int .int) fun _ => Q)])
    (s2 : Spec2 Try.prog 8 [.int fun _ => v0] [] [.cells [.ref 0, .ref 1], .bool fun _ => b1] [some (.rows 40 3 .int fun _ => R), some (.row 85 (.pr .int .int) fun _ => Q)])
    (hR : R.length ≤ 1048576) (hm : ∀ k : Int, 0 ≤ k → k < R.length → (getR .int R k).length ≤ 1048576) (hQ : Q.length ≤ 1048576) (ht : 1 + totR R ≤ 1000000000) : Spec2 Try.prog 3 [.int fun _ => v0] [] [.bool fun _ => true] [] := by
  have h0 := totR_nn R
  have p1 : (0 : Int) ≤ 1 + totR R + (Q.length : Int) * 2 := by omega
  refine fnS [] [2] Try.func3 rfl (by decide) rfl (by decide) (by kernel_rfl) rfl (by simp [Try.ntmps3]) ?_
  cbv
  ((try simp only [IfP_iff, and_true, true_and, decide_eq_true_eq, decide_eq_false_iff_not]); (try simp only [natc, at2_0, at2_1]); (try dsimp only [Ty.den]); (try simp only [natc] at *); (repeat' (first | apply And.intro | intro _)))
  all_goals (repeat' (first | ((first | refine call_q s1 (by cbv) ?_ | refine call_pure s1 (by cbv) ?_); cbv; ((try simp only [IfP_iff, and_true, true_and, decide_eq_true_eq, decide_eq_false_iff_not]); (try simp only [natc, at2_0, at2_1]); (try dsimp only [Ty.den]); (try simp only [natc] at *); (repeat' (first | apply And.intro | intro _)))) | ((first | refine call_q s2 (by cbv) ?_ | refine call_pure s2 (by cbv) ?_); cbv; ((try simp only [IfP_iff, and_true, true_and, decide_eq_true_eq, decide_eq_false_iff_not]); (try simp only [natc, at2_0, at2_1]); (try dsimp only [Ty.den]); (try simp only [natc] at *); (repeat' (first | apply And.intro | intro _)))) | ((first | refine call_q (la_eqSpace _ _) (by cbv) ?_ | refine call_pure (la_eqSpace _ _) (by cbv) ?_); cbv; ((try simp only [IfP_iff, and_true, true_and, decide_eq_true_eq, decide_eq_false_iff_not]); (try simp only [natc, at2_0, at2_1]); (try dsimp only [Ty.den]); (try simp only [natc] at *); (repeat' (first | apply And.intro | intro _))))))
  all_goals (try (refine call_own2 3 4 (by decide) (la_markSpace R Q 1 (by omega) ht hR hm hQ) (by cbv) (by cbv; simp only [or_true, true_or, and_true]) ?_; cbv; ((try simp only [IfP_iff, and_true, true_and, decide_eq_true_eq, decide_eq_false_iff_not]); (try simp only [natc, at2_0, at2_1]); (try dsimp only [Ty.den]); (try simp only [natc] at *); (repeat' (first | apply And.intro | intro _)))))
  all_goals (repeat' (first | ((first | refine call_q s1 (by cbv) ?_ | refine call_pure s1 (by cbv) ?_); cbv; ((try simp only [IfP_iff, and_true, true_and, decide_eq_true_eq, decide_eq_false_iff_not]); (try simp only [natc, at2_0, at2_1]); (try dsimp only [Ty.den]); (try simp only [natc] at *); (repeat' (first | apply And.intro | intro _)))) | ((first | refine call_q s2 (by cbv) ?_ | refine call_pure s2 (by cbv) ?_); cbv; ((try simp only [IfP_iff, and_true, true_and, decide_eq_true_eq, decide_eq_false_iff_not]); (try simp only [natc, at2_0, at2_1]); (try dsimp only [Ty.den]); (try simp only [natc] at *); (repeat' (first | apply And.intro | intro _)))) | ((first | refine call_q (la_eqSpace _ _) (by cbv) ?_ | refine call_pure (la_eqSpace _ _) (by cbv) ?_); cbv; ((try simp only [IfP_iff, and_true, true_and, decide_eq_true_eq, decide_eq_false_iff_not]); (try simp only [natc, at2_0, at2_1]); (try dsimp only [Ty.den]); (try simp only [natc] at *); (repeat' (first | apply And.intro | intro _)))) | ((first | refine call_q (la_heldSpace R _ _ Q.length 1 rfl rfl (by omega) ht hR hm hQ) (by cbv) ?_ | refine call_pure (la_heldSpace R _ _ Q.length 1 rfl rfl (by omega) ht hR hm hQ) (by cbv) ?_); cbv; ((try simp only [IfP_iff, and_true, true_and, decide_eq_true_eq, decide_eq_false_iff_not]); (try simp only [natc, at2_0, at2_1]); (try dsimp only [Ty.den]); (try simp only [natc] at *); (repeat' (first | apply And.intro | intro _))))))
  all_goals (try (simp only [IfP_iff, EqU_iff, Obl_iff, and_true, true_and, inI_iff, decide_eq_true_eq, decide_eq_false_iff_not]; (try simp only [natc, at2_0, at2_1]); (try dsimp only [Ty.den]); try simp only [natc] at *))
  all_goals ((repeat' (first | apply And.intro | intro _)) <;> first | omega | (simp only [List.length_append, List.length_cons, List.length_nil]; omega) | grind | exact absurd (by assumption) (Int.not_lt.2 p1) | (simp at *; done) | trace_state)
end Go.Proofs.Ytlfdimhnielleaa.M

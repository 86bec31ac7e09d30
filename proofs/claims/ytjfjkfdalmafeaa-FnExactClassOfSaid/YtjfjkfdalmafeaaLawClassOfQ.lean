/- The law FnExactClassOf. -/
import Derived.Test.YtjfjkfdalmafeaaCgQ
import Derived.Test.YtjfjkfdalmafeaaQc
import Derived.Test.YtjfjkfdalmafeaaOrQ
namespace Go.Proofs.Ytjfjkfdalmafeaa.M
open Go.RowKit Abs
set_option linter.unusedSimpArgs false
set_option linter.unusedVariables false
set_option maxRecDepth 100000
set_option maxHeartbeats 4000000
set_option maxHeartbeats 8000000
theorem law2_ClassOf (n : Int) (L : List (List Int)) (hL9 : L.length ≤ 9223372036854775807) (hm9 : ∀ s ∈ L, s.length ≤ 9223372036854775807) (hx : ∀ r ∈ L, ∀ x ∈ r, inI x) : Spec2 Try.prog 5 [.agg (.pr .int (.sl (.sl .int))) fun _ => (n, L)] [] [.bool fun _ => true] [] := by
  by_cases hs : 0 ≤ sizeL L 1048576
  case neg =>
    refine fnS [] [2] Try.func5 rfl (by decide) rfl (by decide) (by kernel_rfl) rfl (by simp [Try.ntmps5]) ?_
    cbv
    repeat' (first | ((first | refine call_q (Spec2.agg6 (t := .pr .int (.sl (.sl .int))) (x := fun _ => (n, L)) (la_szFormula n L 1048576 (by omega) (by omega) hL9 hm9)) (by cbv) ?_ | refine call_pure (Spec2.agg6 (t := .pr .int (.sl (.sl .int))) (x := fun _ => (n, L)) (la_szFormula n L 1048576 (by omega) (by omega) hL9 hm9)) (by cbv) ?_); cbv; ((try simp only [IfP_iff, and_true, true_and, decide_eq_true_eq, decide_eq_false_iff_not]); (try simp only [natc, getI_gi, at2_0, at2_1]); (try dsimp only [Ty.den]); (try simp only [natc] at *); (repeat' (first | apply And.intro | intro _)))))
    all_goals (try (simp only [IfP_iff, EqU_iff, Obl_iff, and_true, true_and, inI_iff, decide_eq_true_eq, decide_eq_false_iff_not]; (try simp only [natc, getI_gi, at2_0, at2_1]); (try dsimp only [Ty.den]); try simp only [natc] at *))
    all_goals (exfalso; omega)
  have hs2 := hs
  unfold sizeL at hs2
  have hL : (L.length : Int) ≤ 1048576 := by
    split at hs2
    · assumption
    · omega
  rw [if_pos hL] at hs2
  have hr := (rowsLeft_le L (1048576 - L.length) (by omega) hs2).1
  have hm : ∀ s ∈ L, s.length ≤ 1048576 := fun s h => by have := hr s h; omega
  have hk : ∀ k : Int, 0 ≤ k → k < L.length → (getR .int L k).length ≤ 1048576 := fun k a b => hm _ (getR_mem a b)
  have hL' : L.length ≤ 1048576 := by omega
  clear hs2 hr hL
  refine fnS [] [2] Try.func5 rfl (by decide) rfl (by decide) (by kernel_rfl) rfl (by simp [Try.ntmps5]) ?_
  cbv
  repeat' (first | ((first | refine call_q (Spec2.agg6 (t := .pr .int (.sl (.sl .int))) (x := fun _ => (n, L)) (la_szFormula n L 1048576 (by omega) (by omega) hL9 hm9)) (by cbv) ?_ | refine call_pure (Spec2.agg6 (t := .pr .int (.sl (.sl .int))) (x := fun _ => (n, L)) (la_szFormula n L 1048576 (by omega) (by omega) hL9 hm9)) (by cbv) ?_); cbv; ((try simp only [IfP_iff, and_true, true_and, decide_eq_true_eq, decide_eq_false_iff_not]); (try simp only [natc, getI_gi, at2_0, at2_1]); (try dsimp only [Ty.den]); (try simp only [natc] at *); (repeat' (first | apply And.intro | intro _)))) | ((first | refine call_q (Spec2.agg6 (t := .pr .int (.sl (.sl .int))) (x := fun _ => (n, L)) (la_toFormula n L hL' hm)) (by cbv) ?_ | refine call_pure (Spec2.agg6 (t := .pr .int (.sl (.sl .int))) (x := fun _ => (n, L)) (la_toFormula n L hL' hm)) (by cbv) ?_); cbv; ((try simp only [IfP_iff, and_true, true_and, decide_eq_true_eq, decide_eq_false_iff_not]); (try simp only [natc, getI_gi, at2_0, at2_1]); (try dsimp only [Ty.den]); (try simp only [natc] at *); (repeat' (first | apply And.intro | intro _)))) | ((first | refine call_q (Spec2.agg6 (t := .pr .int (.sl (.sl .int))) (x := fun _ => (n, L)) (sp_classOf n L hL' hm)) (by cbv) ?_ | refine call_pure (Spec2.agg6 (t := .pr .int (.sl (.sl .int))) (x := fun _ => (n, L)) (sp_classOf n L hL' hm)) (by cbv) ?_); cbv; ((try simp only [IfP_iff, and_true, true_and, decide_eq_true_eq, decide_eq_false_iff_not]); (try simp only [natc, getI_gi, at2_0, at2_1]); (try dsimp only [Ty.den]); (try simp only [natc] at *); (repeat' (first | apply And.intro | intro _)))) | ((first | refine call_q (Spec2.agg6 (t := .pr .int (.sl (.sl .int))) (x := fun _ => (n, L)) (im_classOf n L hL' hm hx)) (by cbv) ?_ | refine call_pure (Spec2.agg6 (t := .pr .int (.sl (.sl .int))) (x := fun _ => (n, L)) (im_classOf n L hL' hm hx)) (by cbv) ?_); cbv; ((try simp only [IfP_iff, and_true, true_and, decide_eq_true_eq, decide_eq_false_iff_not]); (try simp only [natc, getI_gi, at2_0, at2_1]); (try dsimp only [Ty.den]); (try simp only [natc] at *); (repeat' (first | apply And.intro | intro _)))))
  all_goals (try (simp only [IfP_iff, EqU_iff, Obl_iff, and_true, true_and, inI_iff, decide_eq_true_eq, decide_eq_false_iff_not]; (try simp only [natc, getI_gi, at2_0, at2_1]); (try dsimp only [Ty.den]); try simp only [natc] at *))
  all_goals (repeat' (first | ((first | refine call_q (la_eqFormula n L hL' hk) (by cbv) ?_ | refine call_pure (la_eqFormula n L hL' hk) (by cbv) ?_); cbv; ((try simp only [IfP_iff, and_true, true_and, decide_eq_true_eq, decide_eq_false_iff_not]); (try simp only [natc, getI_gi, at2_0, at2_1]); (try dsimp only [Ty.den]); (try simp only [natc] at *); (repeat' (first | apply And.intro | intro _))))))
  all_goals (try (simp only [IfP_iff, EqU_iff, Obl_iff, and_true, true_and, inI_iff, decide_eq_true_eq, decide_eq_false_iff_not]; (try simp only [natc, getI_gi, at2_0, at2_1]); (try dsimp only [Ty.den]); try simp only [natc] at *))
  all_goals ((repeat' (first | apply And.intro | intro _)) <;> first | omega | (simp at *; done))
end Go.Proofs.Ytjfjkfdalmafeaa.M
namespace Go.Proofs.Ytjfjkfdalmafeaa.Abs
theorem law_FnExactClassOf (g0 : Int × List (List Int)) (hg : Ty.good (.pr .int (.sl (.sl .int))) g0) : Spec Try.prog 5 [.agg (.pr .int (.sl (.sl .int))) g0] [.im .bool true] := by
  obtain ⟨n0, l0⟩ := g0
  obtain ⟨_, h1, h2⟩ := hg
  have h1' : l0.length ≤ 9223372036854775807 := by unfold maxLen at h1; exact Nat.le_trans h1 (by decide)
  exact M.toSpec (M.law2_ClassOf n0 l0 h1' (fun s hs => by have := (h2 s hs).1; unfold maxLen at this; exact Nat.le_trans this (by decide)) (fun r hr x hx => M.inI_iff.2 ((h2 r hr).2 x hx))) M.rBool
end Go.Proofs.Ytjfjkfdalmafeaa.Abs
namespace Go.Proofs.Ytjfjkfdalmafeaa.M
end Go.Proofs.Ytjfjkfdalmafeaa.M

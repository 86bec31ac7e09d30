/- The law FnExactIsSolution. -/
import Derived.Test.YtcgeedklfejhbaaAuQ
import Derived.Test.YtcgeedklfejhbaaQe
import Derived.Test.YtcgeedklfejhbaaLvQ
import Derived.Test.YtcgeedklfejhbaaLmQ
import Derived.Test.YtcgeedklfejhbaaOrQ
namespace Go.Proofs.Ytcgeedklfejhbaa.M
open Go.RowKit Abs
set_option linter.unusedSimpArgs false
set_option linter.unusedVariables false
set_option maxRecDepth 100000
set_option maxHeartbeats 4000000
set_option maxHeartbeats 8000000
theorem law2_IsSolution (n0 : Int) (L0 : List (List Int)) (u1 : List Int) (hn0 : 0 ≤ sizeL L0 1048576) (yn0 : L0.length ≤ 9223372036854775807) (zn0 : ∀ s ∈ L0, s.length ≤ 9223372036854775807) (xn0 : ∀ r ∈ L0, ∀ x ∈ r, inI x) (hu1 : u1.length ≤ 1048576) : Spec2 Try.prog 6 [.agg (.pr .int (.sl (.sl .int))) fun _ => (n0, L0), .sl .int fun _ => u1] [] [.bool fun _ => true] [] := by
  have sn0 := hn0
  unfold sizeL at sn0
  have tn0 : (L0.length : Int) ≤ 1048576 := by
    split at sn0
    · assumption
    · omega
  rw [if_pos tn0] at sn0
  have gn0 := rowsLeft_all L0 (1048576 - L0.length) (by omega) sn0
  have rn0 := (rowsLeft_le L0 (1048576 - L0.length) (by omega) sn0).1
  have bn0 : ∀ s ∈ L0, s.length ≤ 1048576 := fun s h => by have := rn0 s h; omega
  have dn0 : ∀ k : Int, 0 ≤ k → k < L0.length → (getR .int L0 k).length ≤ 1048576 := fun k a b => bn0 _ (getR_mem a b)
  have an0 : L0.length ≤ 1048576 := by omega
  have kn0 := totR_nn L0
  clear rn0 sn0
  obtain ⟨b0, b1, s1, s2⟩ : ∃ (b0 : Bool) (b1 : Bool), Spec2 Try.prog 31 [.agg (.pr .int (.sl (.sl .int))) fun _ => (n0, L0), .sl .int fun _ => u1] [] [.bool fun _ => b0, .bool fun _ => b1] [] ∧ Spec2 Try.prog 32 [.agg (.pr .int (.sl (.sl .int))) fun _ => (n0, L0), .sl .int fun _ => u1] [] [.bool fun _ => b0, .bool fun _ => b1] [] := ⟨_, _, sp_isSol n0 L0 u1 an0 bn0 xn0 hu1, im_isSol n0 L0 u1 an0 bn0 xn0 hu1⟩
  refine fnS [] [4] Try.func6 rfl (by decide) rfl (by decide) (by kernel_rfl) rfl (by simp [Try.ntmps6]) ?_
  cbv
  ((try simp only [IfP_iff, and_true, true_and, decide_eq_true_eq, decide_eq_false_iff_not]); (try simp only [natc, at2_0, at2_1]); (try dsimp only [Ty.den]); (try simp only [natc] at *); (repeat' (first | apply And.intro | intro _)))
  all_goals (repeat' (first | ((first | refine call_q (Spec2.agg6 (t := (.pr .int (.sl (.sl .int)))) (x := fun _ => (n0, L0)) (la_szFormula n0 L0 1048576 (by omega) (by omega) yn0 zn0)) (by cbv) ?_ | refine call_pure (Spec2.agg6 (t := (.pr .int (.sl (.sl .int)))) (x := fun _ => (n0, L0)) (la_szFormula n0 L0 1048576 (by omega) (by omega) yn0 zn0)) (by cbv) ?_); cbv; ((try simp only [IfP_iff, and_true, true_and, decide_eq_true_eq, decide_eq_false_iff_not]); (try simp only [natc, at2_0, at2_1]); (try dsimp only [Ty.den]); (try simp only [natc] at *); (repeat' (first | apply And.intro | intro _)))) | ((first | refine call_q (Spec2.agg6 (t := (.pr .int (.sl (.sl .int)))) (x := fun _ => (n0, L0)) (la_toFormula n0 L0 an0 bn0)) (by cbv) ?_ | refine call_pure (Spec2.agg6 (t := (.pr .int (.sl (.sl .int)))) (x := fun _ => (n0, L0)) (la_toFormula n0 L0 an0 bn0)) (by cbv) ?_); cbv; ((try simp only [IfP_iff, and_true, true_and, decide_eq_true_eq, decide_eq_false_iff_not]); (try simp only [natc, at2_0, at2_1]); (try dsimp only [Ty.den]); (try simp only [natc] at *); (repeat' (first | apply And.intro | intro _)))) | ((first | refine call_q (la_eqFormula n0 L0 an0 dn0) (by cbv) ?_ | refine call_pure (la_eqFormula n0 L0 an0 dn0) (by cbv) ?_); cbv; ((try simp only [IfP_iff, and_true, true_and, decide_eq_true_eq, decide_eq_false_iff_not]); (try simp only [natc, at2_0, at2_1]); (try dsimp only [Ty.den]); (try simp only [natc] at *); (repeat' (first | apply And.intro | intro _)))) | ((first | refine call_q (la_toInts u1 hu1) (by cbv) ?_ | refine call_pure (la_toInts u1 hu1) (by cbv) ?_); cbv; ((try simp only [IfP_iff, and_true, true_and, decide_eq_true_eq, decide_eq_false_iff_not]); (try simp only [natc, at2_0, at2_1]); (try dsimp only [Ty.den]); (try simp only [natc] at *); (repeat' (first | apply And.intro | intro _)))) | ((first | refine call_q (la_same u1 hu1) (by cbv) ?_ | refine call_pure (la_same u1 hu1) (by cbv) ?_); cbv; ((try simp only [IfP_iff, and_true, true_and, decide_eq_true_eq, decide_eq_false_iff_not]); (try simp only [natc, at2_0, at2_1]); (try dsimp only [Ty.den]); (try simp only [natc] at *); (repeat' (first | apply And.intro | intro _)))) | ((first | refine call_q s1 (by cbv) ?_ | refine call_pure s1 (by cbv) ?_); cbv; ((try simp only [IfP_iff, and_true, true_and, decide_eq_true_eq, decide_eq_false_iff_not]); (try simp only [natc, at2_0, at2_1]); (try dsimp only [Ty.den]); (try simp only [natc] at *); (repeat' (first | apply And.intro | intro _)))) | ((first | refine call_q s2 (by cbv) ?_ | refine call_pure s2 (by cbv) ?_); cbv; ((try simp only [IfP_iff, and_true, true_and, decide_eq_true_eq, decide_eq_false_iff_not]); (try simp only [natc, at2_0, at2_1]); (try dsimp only [Ty.den]); (try simp only [natc] at *); (repeat' (first | apply And.intro | intro _))))))
  all_goals (try (simp only [IfP_iff, EqU_iff, Obl_iff, and_true, true_and, inI_iff, decide_eq_true_eq, decide_eq_false_iff_not]; (try simp only [natc, at2_0, at2_1]); (try dsimp only [Ty.den]); try simp only [natc] at *))
  all_goals ((repeat' (first | apply And.intro | intro _)) <;> first | omega | (simp only [List.length_append, List.length_cons, List.length_nil]; omega) | grind | (simp at *; done))
theorem law2_IsSolution_bign0 (n0 : Int) (L0 : List (List Int)) (u1 : List Int) (hb : ¬ 0 ≤ sizeL L0 1048576) (yn0 : L0.length ≤ 9223372036854775807) (zn0 : ∀ s ∈ L0, s.length ≤ 9223372036854775807) : Spec2 Try.prog 6 [.agg (.pr .int (.sl (.sl .int))) fun _ => (n0, L0), .sl .int fun _ => u1] [] [.bool fun _ => true] [] := by
  refine fnS [] [4] Try.func6 rfl (by decide) rfl (by decide) (by kernel_rfl) rfl (by simp [Try.ntmps6]) ?_
  cbv
  ((try simp only [IfP_iff, and_true, true_and, decide_eq_true_eq, decide_eq_false_iff_not]); (try simp only [natc, at2_0, at2_1]); (try dsimp only [Ty.den]); (try simp only [natc] at *); (repeat' (first | apply And.intro | intro _)))
  all_goals (repeat' (first | ((first | refine call_q (Spec2.agg6 (t := (.pr .int (.sl (.sl .int)))) (x := fun _ => (n0, L0)) (la_szFormula n0 L0 1048576 (by omega) (by omega) yn0 zn0)) (by cbv) ?_ | refine call_pure (Spec2.agg6 (t := (.pr .int (.sl (.sl .int)))) (x := fun _ => (n0, L0)) (la_szFormula n0 L0 1048576 (by omega) (by omega) yn0 zn0)) (by cbv) ?_); cbv; ((try simp only [IfP_iff, and_true, true_and, decide_eq_true_eq, decide_eq_false_iff_not]); (try simp only [natc, at2_0, at2_1]); (try dsimp only [Ty.den]); (try simp only [natc] at *); (repeat' (first | apply And.intro | intro _))))))
  all_goals (try (simp only [IfP_iff, EqU_iff, Obl_iff, and_true, true_and, inI_iff, decide_eq_true_eq, decide_eq_false_iff_not]; (try simp only [natc, at2_0, at2_1]); (try dsimp only [Ty.den]); try simp only [natc] at *))
  all_goals ((repeat' (first | apply And.intro | intro _)) <;> first | omega | (simp only [List.length_append, List.length_cons, List.length_nil]; omega) | grind)
theorem law2_IsSolution_bigu1 (n0 : Int) (L0 : List (List Int)) (u1 : List Int) (hb : ¬ u1.length ≤ 1048576) (yn0 : L0.length ≤ 9223372036854775807) (zn0 : ∀ s ∈ L0, s.length ≤ 9223372036854775807) : Spec2 Try.prog 6 [.agg (.pr .int (.sl (.sl .int))) fun _ => (n0, L0), .sl .int fun _ => u1] [] [.bool fun _ => true] [] := by
  refine fnS [] [4] Try.func6 rfl (by decide) rfl (by decide) (by kernel_rfl) rfl (by simp [Try.ntmps6]) ?_
  cbv
  ((try simp only [IfP_iff, and_true, true_and, decide_eq_true_eq, decide_eq_false_iff_not]); (try simp only [natc, at2_0, at2_1]); (try dsimp only [Ty.den]); (try simp only [natc] at *); (repeat' (first | apply And.intro | intro _)))
  all_goals (repeat' (first | ((first | refine call_q (Spec2.agg6 (t := (.pr .int (.sl (.sl .int)))) (x := fun _ => (n0, L0)) (la_szFormula n0 L0 1048576 (by omega) (by omega) yn0 zn0)) (by cbv) ?_ | refine call_pure (Spec2.agg6 (t := (.pr .int (.sl (.sl .int)))) (x := fun _ => (n0, L0)) (la_szFormula n0 L0 1048576 (by omega) (by omega) yn0 zn0)) (by cbv) ?_); cbv; ((try simp only [IfP_iff, and_true, true_and, decide_eq_true_eq, decide_eq_false_iff_not]); (try simp only [natc, at2_0, at2_1]); (try dsimp only [Ty.den]); (try simp only [natc] at *); (repeat' (first | apply And.intro | intro _))))))
  all_goals (try (simp only [IfP_iff, EqU_iff, Obl_iff, and_true, true_and, inI_iff, decide_eq_true_eq, decide_eq_false_iff_not]; (try simp only [natc, at2_0, at2_1]); (try dsimp only [Ty.den]); try simp only [natc] at *))
  all_goals ((repeat' (first | apply And.intro | intro _)) <;> first | omega | (simp only [List.length_append, List.length_cons, List.length_nil]; omega) | grind)
end Go.Proofs.Ytcgeedklfejhbaa.M
namespace Go.Proofs.Ytcgeedklfejhbaa.Abs
theorem law_FnExactIsSolution (g0 : Int × List (List Int)) (u1 : List Int) (hg0 : Ty.good (.pr .int (.sl (.sl .int))) g0) : Spec Try.prog 6 [.agg (.pr .int (.sl (.sl .int))) g0, .sl .int u1] [.im .bool true] := by
  obtain ⟨n0, L0⟩ := g0
  obtain ⟨_, yn0, zn0⟩ := hg0
  have yn0 : L0.length ≤ 9223372036854775807 := by unfold maxLen at yn0; exact Nat.le_trans yn0 (by decide)
  have xn0 : ∀ r ∈ L0, ∀ x ∈ r, M.inI x := fun r hr x hx => M.inI_iff.2 ((zn0 r hr).2 x hx)
  have zn0 : ∀ s ∈ L0, s.length ≤ 9223372036854775807 := fun s hs => by have := (zn0 s hs).1; unfold maxLen at this; exact Nat.le_trans this (by decide)
  by_cases qn0 : 0 ≤ M.sizeL L0 1048576
  case neg => exact M.toSpec (M.law2_IsSolution_bign0 n0 L0 u1 qn0 yn0 zn0) M.rBool
  by_cases qu1 : u1.length ≤ 1048576
  case neg => exact M.toSpec (M.law2_IsSolution_bigu1 n0 L0 u1 qu1 yn0 zn0) M.rBool
  exact M.toSpec (M.law2_IsSolution n0 L0 u1 qn0 yn0 zn0 xn0 qu1) M.rBool
end Go.Proofs.Ytcgeedklfejhbaa.Abs
namespace Go.Proofs.Ytcgeedklfejhbaa.M
end Go.Proofs.Ytcgeedklfejhbaa.M

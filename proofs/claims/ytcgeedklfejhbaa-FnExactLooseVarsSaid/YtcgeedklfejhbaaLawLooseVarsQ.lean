/- The law FnExactLooseVars. -/
import Derived.Test.YtcgeedklfejhbaaIrQ
import Derived.Test.YtcgeedklfejhbaaIqQ
import Derived.Test.YtcgeedklfejhbaaQc
import Derived.Test.YtcgeedklfejhbaaOrQ
namespace Go.Proofs.Ytcgeedklfejhbaa.M
open Go.RowKit Abs
set_option linter.unusedSimpArgs false
set_option linter.unusedVariables false
set_option maxRecDepth 100000
set_option maxHeartbeats 4000000
set_option maxHeartbeats 8000000
theorem law2_LooseVars (n : Int) (L : List (List Int)) (R : List Int) (hL9 : L.length ≤ 9223372036854775807) (hm9 : ∀ s ∈ L, s.length ≤ 9223372036854775807) (hR9 : R.length ≤ 9223372036854775807) (hx : inI n) : Spec2 Try.prog 5 [.agg TPa fun _ => (n, L, R)] [] [.bool fun _ => true] [] := by
  by_cases hs : 0 ≤ szP L R 1048576
  case neg =>
    refine fnS [] [2] Try.func5 rfl (by decide) rfl (by decide) (by kernel_rfl) rfl (by simp [Try.ntmps5]) ?_
    cbv
    repeat' (first | ((first | refine call_q (Spec2.agg6 (t := TPa) (x := fun _ => (n, L, R)) (la_szParity n L R 1048576 (by omega) (by omega) hL9 hm9 hR9)) (by cbv) ?_ | refine call_pure (Spec2.agg6 (t := TPa) (x := fun _ => (n, L, R)) (la_szParity n L R 1048576 (by omega) (by omega) hL9 hm9 hR9)) (by cbv) ?_); cbv; ((try simp only [IfP_iff, and_true, true_and, decide_eq_true_eq, decide_eq_false_iff_not]); (try simp only [natc, getI_gi, at2_0, at2_1]); (try dsimp only [Ty.den]); (try simp only [natc] at *); (repeat' (first | apply And.intro | intro _)))))
    all_goals (try (simp only [IfP_iff, EqU_iff, Obl_iff, and_true, true_and, inI_iff, decide_eq_true_eq, decide_eq_false_iff_not]; (try simp only [natc, getI_gi, at2_0, at2_1]); (try dsimp only [Ty.den]); try simp only [natc] at *))
    all_goals (exfalso; omega)
  have hs1 : 0 ≤ sizeL L 1048576 := by
    unfold szP at hs
    split at hs <;> omega
  have hs2 := sizeL_le (by omega) hs1
  have hR : R.length ≤ 1048576 := by
    unfold szP at hs
    rw [if_neg (by omega)] at hs
    split at hs <;> omega
  have hL' : L.length ≤ 1048576 := by omega
  have hT : totR L ≤ 1048576 := by
    have h := hs1
    unfold sizeL at h
    rw [if_pos (by omega)] at h
    have := rowsLeft_all L (1048576 - L.length) (by omega) h
    omega
  have hT0 := totR_nn L
  have hm : ∀ s ∈ L, s.length ≤ 1048576 := fun s h => by have := hs2.2.2 s h; omega
  have hk : ∀ k : Int, 0 ≤ k → k < L.length → (getR .int L k).length ≤ 1048576 := fun k a b => hm _ (getR_mem a b)
  clear hs2 hs1
  obtain ⟨R0, b1, s1, s2, hR0⟩ : ∃ (R0 : List Int) (b1 : Bool), Spec2 Try.prog 27 [.agg TPa fun _ => (n, L, R)] [] [.ref 0, .bool fun _ => b1] [some (.row 3 .int fun _ => R0)] ∧ Spec2 Try.prog 28 [.agg TPa fun _ => (n, L, R)] [] [.ref 0, .bool fun _ => b1] [some (.row 3 .int fun _ => R0)] ∧ R0.length ≤ 1048576 := ⟨_, _, sp_loose n L R hL' hm hR hx, im_loose n L R hL' hm hR, looseV_len _ _ _⟩
  have p1 : (0 : Int) ≤ 1 + totR L + (R.length : Int) := by omega
  have p2 : (0 : Int) ≤ 1 + (R0.length : Int) := by omega
  refine fnS [] [2] Try.func5 rfl (by decide) rfl (by decide) (by kernel_rfl) rfl (by simp [Try.ntmps5]) ?_
  cbv
  ((try simp only [IfP_iff, and_true, true_and, decide_eq_true_eq, decide_eq_false_iff_not]); (try simp only [natc, getI_gi, at2_0, at2_1]); (try dsimp only [Ty.den]); (try simp only [natc] at *); (repeat' (first | apply And.intro | intro _)))
  all_goals (repeat' (first | ((first | refine call_q (Spec2.agg6 (t := TPa) (x := fun _ => (n, L, R)) (la_szParity n L R 1048576 (by omega) (by omega) hL9 hm9 hR9)) (by cbv) ?_ | refine call_pure (Spec2.agg6 (t := TPa) (x := fun _ => (n, L, R)) (la_szParity n L R 1048576 (by omega) (by omega) hL9 hm9 hR9)) (by cbv) ?_); cbv; ((try simp only [IfP_iff, and_true, true_and, decide_eq_true_eq, decide_eq_false_iff_not]); (try simp only [natc, getI_gi, at2_0, at2_1]); (try dsimp only [Ty.den]); (try simp only [natc] at *); (repeat' (first | apply And.intro | intro _)))) | ((first | refine call_q (Spec2.agg6 (t := TPa) (x := fun _ => (n, L, R)) (la_toParity n L R hL' hm hR)) (by cbv) ?_ | refine call_pure (Spec2.agg6 (t := TPa) (x := fun _ => (n, L, R)) (la_toParity n L R hL' hm hR)) (by cbv) ?_); cbv; ((try simp only [IfP_iff, and_true, true_and, decide_eq_true_eq, decide_eq_false_iff_not]); (try simp only [natc, getI_gi, at2_0, at2_1]); (try dsimp only [Ty.den]); (try simp only [natc] at *); (repeat' (first | apply And.intro | intro _)))) | ((first | refine call_q s1 (by cbv) ?_ | refine call_pure s1 (by cbv) ?_); cbv; ((try simp only [IfP_iff, and_true, true_and, decide_eq_true_eq, decide_eq_false_iff_not]); (try simp only [natc, getI_gi, at2_0, at2_1]); (try dsimp only [Ty.den]); (try simp only [natc] at *); (repeat' (first | apply And.intro | intro _)))) | ((first | refine call_q s2 (by cbv) ?_ | refine call_pure s2 (by cbv) ?_); cbv; ((try simp only [IfP_iff, and_true, true_and, decide_eq_true_eq, decide_eq_false_iff_not]); (try simp only [natc, getI_gi, at2_0, at2_1]); (try dsimp only [Ty.den]); (try simp only [natc] at *); (repeat' (first | apply And.intro | intro _)))) | ((first | refine call_q (la_eqParity n L R hL' hk hR) (by cbv) ?_ | refine call_pure (la_eqParity n L R hL' hk hR) (by cbv) ?_); cbv; ((try simp only [IfP_iff, and_true, true_and, decide_eq_true_eq, decide_eq_false_iff_not]); (try simp only [natc, getI_gi, at2_0, at2_1]); (try dsimp only [Ty.den]); (try simp only [natc] at *); (repeat' (first | apply And.intro | intro _)))) | ((first | refine call_q (la_same R0 hR0) (by cbv) ?_ | refine call_pure (la_same R0 hR0) (by cbv) ?_); cbv; ((try simp only [IfP_iff, and_true, true_and, decide_eq_true_eq, decide_eq_false_iff_not]); (try simp only [natc, getI_gi, at2_0, at2_1]); (try dsimp only [Ty.den]); (try simp only [natc] at *); (repeat' (first | apply And.intro | intro _)))) | ((first | refine call_q (la_heldInts R0.length 1 (by omega) (by omega) hR0) (by cbv) ?_ | refine call_pure (la_heldInts R0.length 1 (by omega) (by omega) hR0) (by cbv) ?_); cbv; ((try simp only [IfP_iff, and_true, true_and, decide_eq_true_eq, decide_eq_false_iff_not]); (try simp only [natc, getI_gi, at2_0, at2_1]); (try dsimp only [Ty.den]); (try simp only [natc] at *); (repeat' (first | apply And.intro | intro _))))))
  all_goals (try (refine call_own2 4 5 (by decide) (la_markParity n L R 1 (by omega) (by omega) hL' hk hR) (by cbv) (by cbv; simp only [or_true, true_or, and_true]) ?_; cbv; ((try simp only [IfP_iff, and_true, true_and, decide_eq_true_eq, decide_eq_false_iff_not]); (try simp only [natc, getI_gi, at2_0, at2_1]); (try dsimp only [Ty.den]); (try simp only [natc] at *); (repeat' (first | apply And.intro | intro _)))))
  all_goals (repeat' (first | ((first | refine call_q (Spec2.agg6 (t := TPa) (x := fun _ => (n, L, R)) (la_toParity n L R hL' hm hR)) (by cbv) ?_ | refine call_pure (Spec2.agg6 (t := TPa) (x := fun _ => (n, L, R)) (la_toParity n L R hL' hm hR)) (by cbv) ?_); cbv; ((try simp only [IfP_iff, and_true, true_and, decide_eq_true_eq, decide_eq_false_iff_not]); (try simp only [natc, getI_gi, at2_0, at2_1]); (try dsimp only [Ty.den]); (try simp only [natc] at *); (repeat' (first | apply And.intro | intro _)))) | ((first | refine call_q s1 (by cbv) ?_ | refine call_pure s1 (by cbv) ?_); cbv; ((try simp only [IfP_iff, and_true, true_and, decide_eq_true_eq, decide_eq_false_iff_not]); (try simp only [natc, getI_gi, at2_0, at2_1]); (try dsimp only [Ty.den]); (try simp only [natc] at *); (repeat' (first | apply And.intro | intro _)))) | ((first | refine call_q s2 (by cbv) ?_ | refine call_pure s2 (by cbv) ?_); cbv; ((try simp only [IfP_iff, and_true, true_and, decide_eq_true_eq, decide_eq_false_iff_not]); (try simp only [natc, getI_gi, at2_0, at2_1]); (try dsimp only [Ty.den]); (try simp only [natc] at *); (repeat' (first | apply And.intro | intro _)))) | ((first | refine call_q (la_same R0 hR0) (by cbv) ?_ | refine call_pure (la_same R0 hR0) (by cbv) ?_); cbv; ((try simp only [IfP_iff, and_true, true_and, decide_eq_true_eq, decide_eq_false_iff_not]); (try simp only [natc, getI_gi, at2_0, at2_1]); (try dsimp only [Ty.den]); (try simp only [natc] at *); (repeat' (first | apply And.intro | intro _)))) | ((first | refine call_q (la_heldInts R0.length 1 (by omega) (by omega) hR0) (by cbv) ?_ | refine call_pure (la_heldInts R0.length 1 (by omega) (by omega) hR0) (by cbv) ?_); cbv; ((try simp only [IfP_iff, and_true, true_and, decide_eq_true_eq, decide_eq_false_iff_not]); (try simp only [natc, getI_gi, at2_0, at2_1]); (try dsimp only [Ty.den]); (try simp only [natc] at *); (repeat' (first | apply And.intro | intro _))))))
  all_goals (try (refine call_own 7 (la_markInts R0 1 (by omega) (by omega) hR0) (by cbv) (by cbv; simp only [or_true, true_or, and_true]) ?_; cbv; ((try simp only [IfP_iff, and_true, true_and, decide_eq_true_eq, decide_eq_false_iff_not]); (try simp only [natc, getI_gi, at2_0, at2_1]); (try dsimp only [Ty.den]); (try simp only [natc] at *); (repeat' (first | apply And.intro | intro _)))))
  all_goals (repeat' (first | ((first | refine call_q (Spec2.agg6 (t := TPa) (x := fun _ => (n, L, R)) (la_toParity n L R hL' hm hR)) (by cbv) ?_ | refine call_pure (Spec2.agg6 (t := TPa) (x := fun _ => (n, L, R)) (la_toParity n L R hL' hm hR)) (by cbv) ?_); cbv; ((try simp only [IfP_iff, and_true, true_and, decide_eq_true_eq, decide_eq_false_iff_not]); (try simp only [natc, getI_gi, at2_0, at2_1]); (try dsimp only [Ty.den]); (try simp only [natc] at *); (repeat' (first | apply And.intro | intro _)))) | ((first | refine call_q s1 (by cbv) ?_ | refine call_pure s1 (by cbv) ?_); cbv; ((try simp only [IfP_iff, and_true, true_and, decide_eq_true_eq, decide_eq_false_iff_not]); (try simp only [natc, getI_gi, at2_0, at2_1]); (try dsimp only [Ty.den]); (try simp only [natc] at *); (repeat' (first | apply And.intro | intro _)))) | ((first | refine call_q s2 (by cbv) ?_ | refine call_pure s2 (by cbv) ?_); cbv; ((try simp only [IfP_iff, and_true, true_and, decide_eq_true_eq, decide_eq_false_iff_not]); (try simp only [natc, getI_gi, at2_0, at2_1]); (try dsimp only [Ty.den]); (try simp only [natc] at *); (repeat' (first | apply And.intro | intro _)))) | ((first | refine call_q (la_same R0 hR0) (by cbv) ?_ | refine call_pure (la_same R0 hR0) (by cbv) ?_); cbv; ((try simp only [IfP_iff, and_true, true_and, decide_eq_true_eq, decide_eq_false_iff_not]); (try simp only [natc, getI_gi, at2_0, at2_1]); (try dsimp only [Ty.den]); (try simp only [natc] at *); (repeat' (first | apply And.intro | intro _)))) | ((first | refine call_q (la_heldInts R0.length 1 (by omega) (by omega) hR0) (by cbv) ?_ | refine call_pure (la_heldInts R0.length 1 (by omega) (by omega) hR0) (by cbv) ?_); cbv; ((try simp only [IfP_iff, and_true, true_and, decide_eq_true_eq, decide_eq_false_iff_not]); (try simp only [natc, getI_gi, at2_0, at2_1]); (try dsimp only [Ty.den]); (try simp only [natc] at *); (repeat' (first | apply And.intro | intro _))))))
  all_goals (try (simp only [IfP_iff, EqU_iff, Obl_iff, and_true, true_and, inI_iff, decide_eq_true_eq, decide_eq_false_iff_not]; (try simp only [natc, getI_gi, at2_0, at2_1]); (try dsimp only [Ty.den]); try simp only [natc] at *))
  all_goals ((repeat' (first | apply And.intro | intro _)) <;> first | omega | (simp only [List.length_append, List.length_cons, List.length_nil]; omega) | grind | exact absurd (by assumption) (Int.not_lt.2 p1) | exact absurd (by assumption) (Int.not_lt.2 p2) | (simp at *; done))
end Go.Proofs.Ytcgeedklfejhbaa.M
namespace Go.Proofs.Ytcgeedklfejhbaa.Abs
theorem law_FnExactLooseVars (g0 : Int × List (List Int) × List Int) (hg : Ty.good (.pr .int (.pr (.sl (.sl .int)) (.sl .int))) g0) : Spec Try.prog 5 [.agg (.pr .int (.pr (.sl (.sl .int)) (.sl .int))) g0] [.im .bool true] := by
  obtain ⟨n0, l0, r0⟩ := g0
  obtain ⟨h0, ⟨h1, h2⟩, h3⟩ := hg
  have h1' : l0.length ≤ 9223372036854775807 := by unfold maxLen at h1; exact Nat.le_trans h1 (by decide)
  have h3' : r0.length ≤ 9223372036854775807 := by have := h3.1; unfold maxLen at this; exact Nat.le_trans this (by decide)
  exact M.toSpec (M.law2_LooseVars n0 l0 r0 h1' (fun s hs => by have := (h2 s hs).1; unfold maxLen at this; exact Nat.le_trans this (by decide)) h3' (M.inI_iff.2 h0)) M.rBool
end Go.Proofs.Ytcgeedklfejhbaa.Abs
namespace Go.Proofs.Ytcgeedklfejhbaa.M
end Go.Proofs.Ytcgeedklfejhbaa.M

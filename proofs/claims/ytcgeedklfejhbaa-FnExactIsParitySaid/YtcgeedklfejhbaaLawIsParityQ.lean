/- The law FnExactIsParity. -/
import Derived.Test.YtcgeedklfejhbaaIqQ
import Derived.Test.YtcgeedklfejhbaaQc
import Derived.Test.YtcgeedklfejhbaaOrQ
namespace Go.Proofs.Ytcgeedklfejhbaa.M
open Go.RowKit Abs
set_option linter.unusedSimpArgs false
set_option linter.unusedVariables false
set_option maxRecDepth 100000
set_option maxHeartbeats 4000000
set_option maxHeartbeats 8000000
theorem law2_IsParity (n : Int) (L : List (List Int)) (R : List Int) (hL9 : L.length ≤ 9223372036854775807) (hm9 : ∀ s ∈ L, s.length ≤ 9223372036854775807) (hR9 : R.length ≤ 9223372036854775807) (hx : inI n) : Spec2 Try.prog 4 [.agg TPa fun _ => (n, L, R)] [] [.bool fun _ => true] [] := by
  by_cases hs : 0 ≤ szP L R 1048576
  case neg =>
    refine fnS [] [2] Try.func4 rfl (by decide) rfl (by decide) (by kernel_rfl) rfl (by simp [Try.ntmps4]) ?_
    cbv
    repeat' (first | ((first | refine call_q (Spec2.agg6 (t := TPa) (x := fun _ => (n, L, R)) (la_szParity n L R 1048576 (by omega) (by omega) hL9 hm9 hR9)) (by cbv) ?_ | refine call_pure (Spec2.agg6 (t := TPa) (x := fun _ => (n, L, R)) (la_szParity n L R 1048576 (by omega) (by omega) hL9 hm9 hR9)) (by cbv) ?_); cbv; ((try simp only [IfP_iff, and_true, true_and, decide_eq_true_eq, decide_eq_false_iff_not]); (try simp only [natc, getI_gi, at2_0, at2_1]); (try dsimp only [Ty.den]); (try simp only [natc] at *); (repeat' (first | apply And.intro | intro _)))))
    all_goals (try (simp only [IfP_iff, EqU_iff, Obl_iff, and_true, true_and, inI_iff, decide_eq_true_eq, decide_eq_false_iff_not]; (try simp only [natc, getI_gi, at2_0, at2_1]); (try dsimp only [Ty.den]); try simp only [natc] at *))
    all_goals (exfalso; omega)
  have hs1 : 0 ≤ sizeL L 1048576 := by
    unfold szP at hs
    split at hs <;> omega
  have hs2 := sizeL_le (by omega) hs1
  have hR : R.length ≤ 1048576 := by
    unfold szP at hs
    rw [if_neg (by omega)] at hs
    split at hs <;> omega
  have hm : ∀ s ∈ L, s.length ≤ 1048576 := fun s h => by have := hs2.2.2 s h; omega
  have hk : ∀ k : Int, 0 ≤ k → k < L.length → (getR .int L k).length ≤ 1048576 := fun k a b => hm _ (getR_mem a b)
  have hL' : L.length ≤ 1048576 := by omega
  clear hs2 hs1
  refine fnS [] [2] Try.func4 rfl (by decide) rfl (by decide) (by kernel_rfl) rfl (by simp [Try.ntmps4]) ?_
  cbv
  repeat' (first | ((first | refine call_q (Spec2.agg6 (t := TPa) (x := fun _ => (n, L, R)) (la_szParity n L R 1048576 (by omega) (by omega) hL9 hm9 hR9)) (by cbv) ?_ | refine call_pure (Spec2.agg6 (t := TPa) (x := fun _ => (n, L, R)) (la_szParity n L R 1048576 (by omega) (by omega) hL9 hm9 hR9)) (by cbv) ?_); cbv; ((try simp only [IfP_iff, and_true, true_and, decide_eq_true_eq, decide_eq_false_iff_not]); (try simp only [natc, getI_gi, at2_0, at2_1]); (try dsimp only [Ty.den]); (try simp only [natc] at *); (repeat' (first | apply And.intro | intro _)))) | ((first | refine call_q (Spec2.agg6 (t := TPa) (x := fun _ => (n, L, R)) (la_toParity n L R hL' hm hR)) (by cbv) ?_ | refine call_pure (Spec2.agg6 (t := TPa) (x := fun _ => (n, L, R)) (la_toParity n L R hL' hm hR)) (by cbv) ?_); cbv; ((try simp only [IfP_iff, and_true, true_and, decide_eq_true_eq, decide_eq_false_iff_not]); (try simp only [natc, getI_gi, at2_0, at2_1]); (try dsimp only [Ty.den]); (try simp only [natc] at *); (repeat' (first | apply And.intro | intro _)))) | ((first | refine call_q (sp_isParity n L R hL' hm hR hx) (by cbv) ?_ | refine call_pure (sp_isParity n L R hL' hm hR hx) (by cbv) ?_); cbv; ((try simp only [IfP_iff, and_true, true_and, decide_eq_true_eq, decide_eq_false_iff_not]); (try simp only [natc, getI_gi, at2_0, at2_1]); (try dsimp only [Ty.den]); (try simp only [natc] at *); (repeat' (first | apply And.intro | intro _)))) | ((first | refine call_q (Spec2.agg6 (t := TPa) (x := fun _ => (n, L, R)) (im_isParity n L R hL' hm hR)) (by cbv) ?_ | refine call_pure (Spec2.agg6 (t := TPa) (x := fun _ => (n, L, R)) (im_isParity n L R hL' hm hR)) (by cbv) ?_); cbv; ((try simp only [IfP_iff, and_true, true_and, decide_eq_true_eq, decide_eq_false_iff_not]); (try simp only [natc, getI_gi, at2_0, at2_1]); (try dsimp only [Ty.den]); (try simp only [natc] at *); (repeat' (first | apply And.intro | intro _)))))
  all_goals (try (simp only [IfP_iff, EqU_iff, Obl_iff, and_true, true_and, inI_iff, decide_eq_true_eq, decide_eq_false_iff_not]; (try simp only [natc, getI_gi, at2_0, at2_1]); (try dsimp only [Ty.den]); try simp only [natc] at *))
  · simp_all
  repeat' (first | ((first | refine call_q (la_eqParity n L R hL' hk hR) (by cbv) ?_ | refine call_pure (la_eqParity n L R hL' hk hR) (by cbv) ?_); cbv; ((try simp only [IfP_iff, and_true, true_and, decide_eq_true_eq, decide_eq_false_iff_not]); (try simp only [natc, getI_gi, at2_0, at2_1]); (try dsimp only [Ty.den]); (try simp only [natc] at *); (repeat' (first | apply And.intro | intro _)))))
  all_goals (try (simp only [IfP_iff, EqU_iff, Obl_iff, and_true, true_and, inI_iff, decide_eq_true_eq, decide_eq_false_iff_not]; (try simp only [natc, getI_gi, at2_0, at2_1]); (try dsimp only [Ty.den]); try simp only [natc] at *))
  all_goals ((repeat' (first | apply And.intro | intro _)) <;> first | omega | (simp at *; done))
end Go.Proofs.Ytcgeedklfejhbaa.M
namespace Go.Proofs.Ytcgeedklfejhbaa.Abs
theorem law_FnExactIsParity (g0 : Int × List (List Int) × List Int) (hg : Ty.good (.pr .int (.pr (.sl (.sl .int)) (.sl .int))) g0) : Spec Try.prog 4 [.agg (.pr .int (.pr (.sl (.sl .int)) (.sl .int))) g0] [.im .bool true] := by
  obtain ⟨n0, l0, r0⟩ := g0
  obtain ⟨h0, ⟨h1, h2⟩, h3⟩ := hg
  have h1' : l0.length ≤ 9223372036854775807 := by unfold maxLen at h1; exact Nat.le_trans h1 (by decide)
  have h3' : r0.length ≤ 9223372036854775807 := by have := h3.1; unfold maxLen at this; exact Nat.le_trans this (by decide)
  exact M.toSpec (M.law2_IsParity n0 l0 r0 h1' (fun s hs => by have := (h2 s hs).1; unfold maxLen at this; exact Nat.le_trans this (by decide)) h3' (M.inI_iff.2 h0)) M.rBool
end Go.Proofs.Ytcgeedklfejhbaa.Abs
namespace Go.Proofs.Ytcgeedklfejhbaa.M
end Go.Proofs.Ytcgeedklfejhbaa.M

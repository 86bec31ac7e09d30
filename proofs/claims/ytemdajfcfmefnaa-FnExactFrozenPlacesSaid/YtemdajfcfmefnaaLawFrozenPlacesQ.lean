/- The law FnExactFrozenPlaces. -/
import Derived.Test.YtemdajfcfmefnaaFzQ
import Derived.Test.YtemdajfcfmefnaaQe
namespace Go.Proofs.Ytemdajfcfmefnaa.M
open Go.RowKit Abs
set_option linter.unusedSimpArgs false
set_option linter.unusedVariables false
set_option maxRecDepth 100000
set_option maxHeartbeats 4000000
set_option maxHeartbeats 8000000
theorem law2_FrozenPlaces (L0 : List (List Int)) (l0 : List (Int × Int)) (hL0 : 0 ≤ Abs.spaceLeft L0 l0 1048576) : Spec2 Try.prog 12 [.agg (.pr (.sl (.sl .int)) (.sl (.pr .int .int))) fun _ => (L0, l0)] [] [.bool fun _ => true] [] := by
  have fL0 := Abs.spaceLeft_le (l := L0) (m := l0) (left := 1048576) (by omega)
  have eL0 := spaceLeft_tot (L := L0) (l := l0) (k := 1048576) (by omega) hL0
  obtain ⟨aL0, bL0, cL0⟩ : L0.length ≤ 1048576 ∧ (∀ s ∈ L0, s.length ≤ 1048576) ∧ l0.length ≤ 1048576 := by
    rcases fL0 with f | ⟨_, f1, f2, f3⟩
    · omega
    · exact ⟨by omega, fun s hs => by have := f2 s hs; omega, by omega⟩
  have dL0 : ∀ k : Int, 0 ≤ k → k < L0.length → (getR .int L0 k).length ≤ 1048576 := fun k p q => bL0 _ (getR_mem p q)
  have gL0 := totR_nn L0
  obtain ⟨R0, b1, s1, s2, hR0⟩ : ∃ (R0 : List Int) (b1 : Bool), Spec2 Try.prog 45 [.agg (.pr (.sl (.sl .int)) (.sl (.pr .int .int))) fun _ => (L0, l0)] [] [.ref 0, .bool fun _ => b1] [some (.row 3 .int fun _ => R0)] ∧ Spec2 Try.prog 46 [.agg (.pr (.sl (.sl .int)) (.sl (.pr .int .int))) fun _ => (L0, l0)] [] [.ref 0, .bool fun _ => b1] [some (.row 3 .int fun _ => R0)] ∧ R0.length ≤ 1048576 := ⟨_, _, sp_frozen L0 l0 aL0 cL0 bL0, im_frozen L0 l0 aL0 cL0 bL0, frozen_bound⟩
  have p1 : (0 : Int) ≤ (1 : Int) + totR L0 + (l0.length : Int) * 2 := by omega
  have p2 : (0 : Int) ≤ 1 + (R0.length : Int) := by omega
  refine fnS [] [2] Try.func12 rfl (by decide) rfl (by decide) (by kernel_rfl) rfl (by simp [Try.ntmps12]) ?_
  cbv
  ((try simp only [IfP_iff, and_true, true_and, decide_eq_true_eq, decide_eq_false_iff_not]); (try simp only [natc, at2_0, at2_1]); (try dsimp only [Ty.den]); (try simp only [natc] at *); (repeat' (first | apply And.intro | intro _)))
  all_goals (repeat' (first | ((first | refine call_q (la_szSpace L0 l0 1048576 (by omega) (by omega)) (by cbv) ?_ | refine call_pure (la_szSpace L0 l0 1048576 (by omega) (by omega)) (by cbv) ?_); cbv; ((try simp only [IfP_iff, and_true, true_and, decide_eq_true_eq, decide_eq_false_iff_not]); (try simp only [natc, at2_0, at2_1]); (try dsimp only [Ty.den]); (try simp only [natc] at *); (repeat' (first | apply And.intro | intro _)))) | ((first | refine call_q (la_toSpace L0 l0 aL0 bL0 cL0) (by cbv) ?_ | refine call_pure (la_toSpace L0 l0 aL0 bL0 cL0) (by cbv) ?_); cbv; ((try simp only [IfP_iff, and_true, true_and, decide_eq_true_eq, decide_eq_false_iff_not]); (try simp only [natc, at2_0, at2_1]); (try dsimp only [Ty.den]); (try simp only [natc] at *); (repeat' (first | apply And.intro | intro _)))) | ((first | refine call_q (la_eqSpace _ _) (by cbv) ?_ | refine call_pure (la_eqSpace _ _) (by cbv) ?_); cbv; ((try simp only [IfP_iff, and_true, true_and, decide_eq_true_eq, decide_eq_false_iff_not]); (try simp only [natc, at2_0, at2_1]); (try dsimp only [Ty.den]); (try simp only [natc] at *); (repeat' (first | apply And.intro | intro _)))) | ((first | refine call_q s1 (by cbv) ?_ | refine call_pure s1 (by cbv) ?_); cbv; ((try simp only [IfP_iff, and_true, true_and, decide_eq_true_eq, decide_eq_false_iff_not]); (try simp only [natc, at2_0, at2_1]); (try dsimp only [Ty.den]); (try simp only [natc] at *); (repeat' (first | apply And.intro | intro _)))) | ((first | refine call_q s2 (by cbv) ?_ | refine call_pure s2 (by cbv) ?_); cbv; ((try simp only [IfP_iff, and_true, true_and, decide_eq_true_eq, decide_eq_false_iff_not]); (try simp only [natc, at2_0, at2_1]); (try dsimp only [Ty.den]); (try simp only [natc] at *); (repeat' (first | apply And.intro | intro _)))) | (refine call_own2 4 5 (by decide) (la_markSpace L0 l0 (1) (by omega) (by omega) aL0 dL0 cL0) (by cbv) (by cbv; simp only [or_true, true_or, and_true]) ?_; cbv; ((try simp only [IfP_iff, and_true, true_and, decide_eq_true_eq, decide_eq_false_iff_not]); (try simp only [natc, at2_0, at2_1]); (try dsimp only [Ty.den]); (try simp only [natc] at *); (repeat' (first | apply And.intro | intro _)))) | ((first | refine call_q (la_same R0 hR0) (by cbv) ?_ | refine call_pure (la_same R0 hR0) (by cbv) ?_); cbv; ((try simp only [IfP_iff, and_true, true_and, decide_eq_true_eq, decide_eq_false_iff_not]); (try simp only [natc, at2_0, at2_1]); (try dsimp only [Ty.den]); (try simp only [natc] at *); (repeat' (first | apply And.intro | intro _)))) | (refine call_own 7 (la_markInts R0 1 (by omega) (by omega) hR0) (by cbv) (by cbv; simp only [or_true, true_or, and_true]) ?_; cbv; ((try simp only [IfP_iff, and_true, true_and, decide_eq_true_eq, decide_eq_false_iff_not]); (try simp only [natc, at2_0, at2_1]); (try dsimp only [Ty.den]); (try simp only [natc] at *); (repeat' (first | apply And.intro | intro _)))) | ((first | refine call_q (la_heldInts R0.length 1 (by omega) (by omega) hR0) (by cbv) ?_ | refine call_pure (la_heldInts R0.length 1 (by omega) (by omega) hR0) (by cbv) ?_); cbv; ((try simp only [IfP_iff, and_true, true_and, decide_eq_true_eq, decide_eq_false_iff_not]); (try simp only [natc, at2_0, at2_1]); (try dsimp only [Ty.den]); (try simp only [natc] at *); (repeat' (first | apply And.intro | intro _))))))
  all_goals (try (simp only [IfP_iff, EqU_iff, Obl_iff, and_true, true_and, inI_iff, decide_eq_true_eq, decide_eq_false_iff_not]; (try simp only [natc, at2_0, at2_1]); (try dsimp only [Ty.den]); try simp only [natc] at *))
  all_goals ((repeat' (first | apply And.intro | intro _)) <;> first | omega | (simp only [List.length_append, List.length_cons, List.length_nil]; omega) | grind | exact absurd (by assumption) (Int.not_lt.2 p1) | exact absurd (by assumption) (Int.not_lt.2 p2) | (simp at *; done))
theorem law2_FrozenPlaces_bigL0 (L0 : List (List Int)) (l0 : List (Int × Int)) (hb : ¬ 0 ≤ Abs.spaceLeft L0 l0 1048576) : Spec2 Try.prog 12 [.agg (.pr (.sl (.sl .int)) (.sl (.pr .int .int))) fun _ => (L0, l0)] [] [.bool fun _ => true] [] := by
  have fL0 := Abs.spaceLeft_le (l := L0) (m := l0) (left := 1048576) (by omega)
  refine fnS [] [2] Try.func12 rfl (by decide) rfl (by decide) (by kernel_rfl) rfl (by simp [Try.ntmps12]) ?_
  cbv
  ((try simp only [IfP_iff, and_true, true_and, decide_eq_true_eq, decide_eq_false_iff_not]); (try simp only [natc, at2_0, at2_1]); (try dsimp only [Ty.den]); (try simp only [natc] at *); (repeat' (first | apply And.intro | intro _)))
  all_goals (repeat' (first | ((first | refine call_q (la_szSpace L0 l0 1048576 (by omega) (by omega)) (by cbv) ?_ | refine call_pure (la_szSpace L0 l0 1048576 (by omega) (by omega)) (by cbv) ?_); cbv; ((try simp only [IfP_iff, and_true, true_and, decide_eq_true_eq, decide_eq_false_iff_not]); (try simp only [natc, at2_0, at2_1]); (try dsimp only [Ty.den]); (try simp only [natc] at *); (repeat' (first | apply And.intro | intro _))))))
  all_goals (try (simp only [IfP_iff, EqU_iff, Obl_iff, and_true, true_and, inI_iff, decide_eq_true_eq, decide_eq_false_iff_not]; (try simp only [natc, at2_0, at2_1]); (try dsimp only [Ty.den]); try simp only [natc] at *))
  all_goals ((repeat' (first | apply And.intro | intro _)) <;> first | omega | (simp only [List.length_append, List.length_cons, List.length_nil]; omega) | grind)
end Go.Proofs.Ytemdajfcfmefnaa.M
namespace Go.Proofs.Ytemdajfcfmefnaa.Abs
theorem law_FnExactFrozenPlaces (g0 : List (List Int) × List (Int × Int)) : Spec Try.prog 12 [.agg (.pr (.sl (.sl .int)) (.sl (.pr .int .int))) g0] [.im .bool true] := by
  obtain ⟨L0, l0⟩ := g0
  by_cases qL0 : 0 ≤ Abs.spaceLeft L0 l0 1048576
  case neg => exact M.toSpec (M.law2_FrozenPlaces_bigL0 L0 l0 qL0) M.rBool
  exact M.toSpec (M.law2_FrozenPlaces L0 l0 qL0) M.rBool
end Go.Proofs.Ytemdajfcfmefnaa.Abs
namespace Go.Proofs.Ytemdajfcfmefnaa.M
end Go.Proofs.Ytemdajfcfmefnaa.M

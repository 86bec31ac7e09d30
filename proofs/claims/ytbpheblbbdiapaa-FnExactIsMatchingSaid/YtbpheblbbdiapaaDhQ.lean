/- Triangulations: the specification's test. -/
import Derived.Test.YtbpheblbbdiapaaDgQ
import Derived.Test.YtbpheblbbdiapaaHsQ
import Derived.Test.YtbpheblbbdiapaaQg
namespace Go.Proofs.Ytbpheblbbdiapaa.M
open Go.RowKit Abs
set_option linter.unusedSimpArgs false
set_option linter.unusedVariables false
set_option maxRecDepth 100000
set_option maxHeartbeats 4000000
theorem sp_triangulates (n : Int) (l : List Int) (n0 : 3 ≤ n) (n1 : n ≤ 8) (hl : l.length ≤ 1048576) : Spec2 Try.prog 41 [.int fun _ => n, .sl .int fun _ => l] [] [.bool fun _ => triB n l] [] := by
  have hdl := diag_len (n := n) (by omega) n1
  have hdl2 : (diagL n).length ≤ 1048576 := by omega
  have hts := tri_spec n l
  refine fnS [] [4] Try.func41 rfl (by decide) rfl (by decide) (by kernel_rfl) rfl (by simp [Try.ntmps41]) ?_
  cbv
  repeat' (first | ((first | refine call_q (sp_diagonals n (by omega) n1) (by cbv) ?_ | refine call_pure (sp_diagonals n (by omega) n1) (by cbv) ?_); cbv; ((try simp only [IfP_iff, and_true, true_and, decide_eq_true_eq, decide_eq_false_iff_not]); (try simp only [natc, getI_gi, at2_0, at2_1]); (try dsimp only [Ty.den]); (try simp only [natc] at *); (repeat' (first | apply And.intro | intro _)))))
  all_goals (try (simp only [IfP_iff, EqU_iff, Obl_iff, and_true, true_and, inI_iff, decide_eq_true_eq, decide_eq_false_iff_not]; (try simp only [natc, getI_gi, at2_0, at2_1]); (try dsimp only [Ty.den]); try simp only [natc] at *))
  refine loopP (by kernel_rfl) (fun k : Int => 0 ≤ k ∧ k ≤ l.length ∧ ∀ j : Int, 0 ≤ j → j < k → spOk n l j = true) (fun k => [(6, .int fun _ => k)]) (fun k => []) (fun k => (l.length - k).toNat) (· + 1) 0 (by refine ⟨by omega, by omega, fun j a b => absurd b (by omega)⟩) ?_ ?_
  · cbv
    (simp only [IfP_iff, EqU_iff, Obl_iff, and_true, true_and, inI_iff, decide_eq_true_eq, decide_eq_false_iff_not]; (try simp only [natc, getI_gi, at2_0, at2_1]); (try dsimp only [Ty.den]); try simp only [natc] at *)
  · intro k hk
    have g0 := hk.1
    have g1 := hk.2.1
    have g2 : ∀ j : Int, 0 ≤ j → j < k → hasB (diagL n) (gi l j) = true := fun j j0 j1 => by
      have := hk.2.2 j j0 j1
      unfold spOk at this
      simp only [Bool.and_eq_true] at this
      exact this.1.1
    have g3 := fit_in n0 n1 hk.1 g1 g2
    have g4 : (subL l 0 k).length ≤ 1048576 := by rw [subL_take, List.length_take]; omega
    have g9 : (!hasB (diagL n) (gi l k)) = false → 0 ≤ gi l k ∧ gi l k < 100 := fun h => diag_in n0 n1 _ (hasB_iff.1 (by simpa using h))
    have bad : k < (l.length : Int) → spOk n l k = false → false = triB n l := fun h hb => by
      rw [← hts, allI_bad hk.1 h hb]; rfl
    have ok0 : spOk n l k = true → ∀ j : Int, 0 ≤ j → j < k + 1 → spOk n l j = true := upTo hk.2.2
    have fin : ¬ k < (l.length : Int) → decide ((l.length : Int) = n - 3) = triB n l := fun h => by
      rw [← hts, allI_good fun j j0 j1 => hk.2.2 j j0 (by omega)]; rfl
    have e1 : spOk n l k = (hasB (diagL n) (gi l k) && (decide (k ≤ 0) || decide (gi l (k - 1) < gi l k)) && apartB (subL l 0 k) (gi l k)) := by rw [subL_take]; rfl
    have b1 : k < (l.length : Int) → (!hasB (diagL n) (gi l k)) = true → false = triB n l := fun h hb => bad h (by
      rw [e1, show hasB (diagL n) (gi l k) = false by simpa using hb]; rfl)
    have b2 : k < (l.length : Int) → 0 < k → gi l k ≤ gi l (k - 1) → false = triB n l := fun h ha hb => bad h (by
      rw [e1, decide_eq_false (show ¬ k ≤ 0 by omega), decide_eq_false (show ¬ gi l (k - 1) < gi l k from Int.not_lt.2 hb)]; simp)
    have b3 : k < (l.length : Int) → (!apartB (subL l 0 k) (gi l k)) = true → false = triB n l := fun h hb => bad h (by
      rw [e1, show apartB (subL l 0 k) (gi l k) = false by simpa using hb, Bool.and_false])
    have ok : (!hasB (diagL n) (gi l k)) = false → (¬ 0 < k ∨ ¬ gi l k ≤ gi l (k - 1)) → (!apartB (subL l 0 k) (gi l k)) = false → ∀ j : Int, 0 ≤ j → j < k + 1 → spOk n l j = true := fun h1 h2 h3 => ok0 (by
      rw [e1, show hasB (diagL n) (gi l k) = true by simpa using h1, show apartB (subL l 0 k) (gi l k) = true by simpa using h3]
      rcases h2 with h2 | h2
      · rw [decide_eq_true (show k ≤ 0 by omega)]; rfl
      · rw [decide_eq_true (show gi l (k - 1) < gi l k from Int.not_le.1 h2), Bool.or_true]; rfl)
    clear hk g2 bad ok0 e1 hts
    cbv
    ((try simp only [IfP_iff, and_true, true_and, decide_eq_true_eq, decide_eq_false_iff_not]); (try simp only [natc, getI_gi, at2_0, at2_1]); (try dsimp only [Ty.den]); (try simp only [natc] at *); (repeat' (first | apply And.intro | intro _)))
    all_goals (repeat' (first | ((first | refine call_q (sp_has (diagL n) (gi l k) hdl2) (by cbv) ?_ | refine call_pure (sp_has (diagL n) (gi l k) hdl2) (by cbv) ?_); cbv; ((try simp only [IfP_iff, and_true, true_and, decide_eq_true_eq, decide_eq_false_iff_not]); (try simp only [natc, getI_gi, at2_0, at2_1]); (try dsimp only [Ty.den]); (try simp only [natc] at *); (repeat' (first | apply And.intro | intro _))))))
    all_goals (try ((try simp only [IfP_iff, and_true, true_and, decide_eq_true_eq, decide_eq_false_iff_not]); (try simp only [natc, getI_gi, at2_0, at2_1]); (try dsimp only [Ty.den]); (try simp only [natc] at *); (repeat' (first | apply And.intro | intro _))))
    all_goals (repeat' (first | ((first | refine call_q (sp_dapart (subL l 0 k) (gi l k) g4 g3 (g9 (by assumption)).1 (g9 (by assumption)).2) (by cbv) ?_ | refine call_pure (sp_dapart (subL l 0 k) (gi l k) g4 g3 (g9 (by assumption)).1 (g9 (by assumption)).2) (by cbv) ?_); cbv; ((try simp only [IfP_iff, and_true, true_and, decide_eq_true_eq, decide_eq_false_iff_not]); (try simp only [natc, getI_gi, at2_0, at2_1]); (try dsimp only [Ty.den]); (try simp only [natc] at *); (repeat' (first | apply And.intro | intro _))))))
    all_goals (try ((try simp only [IfP_iff, and_true, true_and, decide_eq_true_eq, decide_eq_false_iff_not]); (try simp only [natc, getI_gi, at2_0, at2_1]); (try dsimp only [Ty.den]); (try simp only [natc] at *); (repeat' (first | apply And.intro | intro _))))
    all_goals (try (simp only [IfP_iff, EqU_iff, Obl_iff, and_true, true_and, inI_iff, decide_eq_true_eq, decide_eq_false_iff_not]; (try simp only [natc, getI_gi, at2_0, at2_1]); (try dsimp only [Ty.den]); try simp only [natc] at *))
    all_goals ((repeat' (first | apply And.intro | intro _)) <;> first | omega | (exact b1 (by assumption) (by assumption)) | (exact b2 (by assumption) (by assumption) (by assumption)) | (exact b3 (by assumption) (by assumption)) | (exact ok (by assumption) (.inl (by assumption)) (by assumption) _ (by omega) (by omega)) | (exact ok (by assumption) (.inr (by assumption)) (by assumption) _ (by omega) (by omega)) | (exact fin (by assumption)) | trace_state)
theorem sp_isTri (n : Int) (l : List Int) (hl : l.length ≤ 1048576) : Spec2 Try.prog 13 [.int fun _ => n, .sl .int fun _ => l] [] [.bool fun _ => triV n l, .bool fun _ => polyB n] [] := by
  by_cases hp : polyB n = true
  case neg =>
    rw [Bool.not_eq_true] at hp
    have h8 : triV n l = false := by unfold triV; rw [hp]; rfl
    rw [hp, h8]
    refine fnS [] [4, 5] Try.func13 rfl (by decide) rfl (by decide) (by kernel_rfl) rfl (by simp [Try.ntmps13]) ?_
    cbv
    repeat' (first | ((first | refine call_q (sp_corners n) (by cbv) ?_ | refine call_pure (sp_corners n) (by cbv) ?_); cbv; ((try simp only [IfP_iff, and_true, true_and, decide_eq_true_eq, decide_eq_false_iff_not]); (try simp only [natc, getI_gi, at2_0, at2_1]); (try dsimp only [Ty.den]); (try simp only [natc] at *); (repeat' (first | apply And.intro | intro _)))))
    all_goals (try (simp only [IfP_iff, EqU_iff, Obl_iff, and_true, true_and, inI_iff, decide_eq_true_eq, decide_eq_false_iff_not]; (try simp only [natc, getI_gi, at2_0, at2_1]); (try dsimp only [Ty.den]); try simp only [natc] at *))
    ((try simp only [IfP_iff, and_true, true_and, decide_eq_true_eq, decide_eq_false_iff_not]); (try simp only [natc, getI_gi, at2_0, at2_1]); (try dsimp only [Ty.den]); (try simp only [natc] at *); (repeat' (first | apply And.intro | intro _)))
    all_goals (try (exact absurd (by assumption : (!polyB n) = false) (by rw [hp]; decide)))
    all_goals (try (simp only [IfP_iff, EqU_iff, Obl_iff, and_true, true_and, inI_iff, decide_eq_true_eq, decide_eq_false_iff_not]; (try simp only [natc, getI_gi, at2_0, at2_1]); (try dsimp only [Ty.den]); try simp only [natc] at *))
  have h9 := hp
  unfold polyB at h9
  simp only [Bool.and_eq_true, decide_eq_true_eq] at h9
  have h8 : triV n l = triB n l := by unfold triV; rw [hp]; rfl
  rw [hp, h8]
  refine fnS [] [4, 5] Try.func13 rfl (by decide) rfl (by decide) (by kernel_rfl) rfl (by simp [Try.ntmps13]) ?_
  cbv
  repeat' (first | ((first | refine call_q (sp_corners n) (by cbv) ?_ | refine call_pure (sp_corners n) (by cbv) ?_); cbv; ((try simp only [IfP_iff, and_true, true_and, decide_eq_true_eq, decide_eq_false_iff_not]); (try simp only [natc, getI_gi, at2_0, at2_1]); (try dsimp only [Ty.den]); (try simp only [natc] at *); (repeat' (first | apply And.intro | intro _)))))
  all_goals (try (simp only [IfP_iff, EqU_iff, Obl_iff, and_true, true_and, inI_iff, decide_eq_true_eq, decide_eq_false_iff_not]; (try simp only [natc, getI_gi, at2_0, at2_1]); (try dsimp only [Ty.den]); try simp only [natc] at *))
  ((try simp only [IfP_iff, and_true, true_and, decide_eq_true_eq, decide_eq_false_iff_not]); (try simp only [natc, getI_gi, at2_0, at2_1]); (try dsimp only [Ty.den]); (try simp only [natc] at *); (repeat' (first | apply And.intro | intro _)))
  all_goals (try (exact absurd (by assumption : (!polyB n) = true) (by rw [hp]; decide)))
  all_goals (repeat' (first | ((first | refine call_q (sp_triangulates n l h9.1 h9.2 hl) (by cbv) ?_ | refine call_pure (sp_triangulates n l h9.1 h9.2 hl) (by cbv) ?_); cbv; ((try simp only [IfP_iff, and_true, true_and, decide_eq_true_eq, decide_eq_false_iff_not]); (try simp only [natc, getI_gi, at2_0, at2_1]); (try dsimp only [Ty.den]); (try simp only [natc] at *); (repeat' (first | apply And.intro | intro _))))))
  all_goals (try ((try simp only [IfP_iff, and_true, true_and, decide_eq_true_eq, decide_eq_false_iff_not]); (try simp only [natc, getI_gi, at2_0, at2_1]); (try dsimp only [Ty.den]); (try simp only [natc] at *); (repeat' (first | apply And.intro | intro _))))
  all_goals (try (simp only [IfP_iff, EqU_iff, Obl_iff, and_true, true_and, inI_iff, decide_eq_true_eq, decide_eq_false_iff_not]; (try simp only [natc, getI_gi, at2_0, at2_1]); (try dsimp only [Ty.den]); try simp only [natc] at *))
end Go.Proofs.Ytbpheblbbdiapaa.M

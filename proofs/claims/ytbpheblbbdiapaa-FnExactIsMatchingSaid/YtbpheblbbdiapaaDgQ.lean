/- Triangulations: the tests on both sides. -/
import Derived.Test.YtbpheblbbdiapaaDdQ
import Derived.Test.YtbpheblbbdiapaaTuQ
import Derived.Test.YtbpheblbbdiapaaQg
namespace Go.Proofs.Ytbpheblbbdiapaa.M
open Go.RowKit Abs
set_option linter.unusedSimpArgs false
set_option linter.unusedVariables false
set_option maxRecDepth 100000
set_option maxHeartbeats 4000000
theorem fit_in {n : Int} (n0 : 3 ≤ n) (n1 : n ≤ 8) {l : List Int} {k : Int} (k0 : 0 ≤ k) (k1 : k ≤ l.length) (h : ∀ j : Int, 0 ≤ j → j < k → hasB (diagL n) (gi l j) = true) : ∀ x ∈ subL l 0 k, 0 ≤ x ∧ x < 100 := fun x hx => by
  rw [subL_take] at hx
  obtain ⟨j, j0, j1, e⟩ := mem_at hx
  rw [List.length_take] at j1
  have h1 := h j j0 (by omega)
  have e1 : gi l j = x := by
    rw [← e]
    show gi l j = gi (l.take k.toNat) j
    unfold gi
    rw [List.getD_eq_getElem?_getD, List.getD_eq_getElem?_getD, List.getElem?_take, if_pos (by omega)]
  rw [e1] at h1
  exact diag_in n0 n1 x (hasB_iff.1 h1)
theorem im_isFitting (n : Int) (l : List Int) (n0 : 3 ≤ n) (n1 : n ≤ 8) (hl : l.length ≤ 1048576) : Spec2 Try.prog 43 [.ifr 55 fun _ => ofBound [.cells [.int fun _ => n]], .sl .int fun _ => l] [] [.bool fun _ => fitB (diagL n) crossB l] [] := by
  have hdl := diag_len (n := n) (by omega) n1
  refine fnS [] [4] Try.func43 rfl (by decide) rfl (by decide) (by kernel_rfl) rfl (by simp [Try.ntmps43]) ?_
  cbv
  refine loopP (by kernel_rfl) (fun k : Int => 0 ≤ k ∧ k ≤ l.length ∧ ∀ j : Int, 0 ≤ j → j < k → fitOk (diagL n) crossB l j = true) (fun k => [(9, .int fun _ => k), (5, .junk), (6, .junk)]) (fun k => []) (fun k => (l.length - k).toNat) (· + 1) 0 (by refine ⟨by omega, by omega, fun j a b => absurd b (by omega)⟩) ?_ ?_
  · cbv
    (simp only [IfP_iff, EqU_iff, Obl_iff, and_true, true_and, inI_iff, decide_eq_true_eq, decide_eq_false_iff_not]; (try simp only [natc, getI_gi, at2_0, at2_1]); (try dsimp only [Ty.den]); try simp only [natc] at *)
  · intro k hk
    have g0 := hk.1
    have g1 := hk.2.1
    have g2 : ∀ j : Int, 0 ≤ j → j < k → hasB (diagL n) (gi l j) = true := fun j j0 j1 => by
      have := hk.2.2 j j0 j1
      unfold fitOk at this
      exact hasB_iff.2 (fit_mem.1 (hasB_iff.1 this)).1
    have g3 := fit_in n0 n1 hk.1 g1 g2
    have g4 : (subL l 0 k).length ≤ 1048576 := by rw [subL_take, List.length_take]; omega
    have g5 : (fitL (diagL n) crossB (subL l 0 k)).length ≤ 1048576 := Nat.le_trans (fit_len _ _ _) (by omega)
    have e1 : hasB (fitL (diagL n) crossB (subL l 0 k)) (gi l k) = fitOk (diagL n) crossB l k := by rw [subL_take]; rfl
    have g6 : k < (l.length : Int) → (!hasB (fitL (diagL n) crossB (subL l 0 k)) (gi l k)) = true → false = fitB (diagL n) crossB l := fun h hb => by
      rw [e1] at hb
      have := allI_bad (p := fitOk (diagL n) crossB l) hk.1 h (by simpa using hb)
      unfold fitB
      rw [this]; rfl
    have g7 : (!hasB (fitL (diagL n) crossB (subL l 0 k)) (gi l k)) = false → ∀ j : Int, 0 ≤ j → j < k + 1 → fitOk (diagL n) crossB l j = true := fun hb => upTo hk.2.2 (by rw [e1] at hb; simpa using hb)
    have g8 : ¬ k < (l.length : Int) → incB l = fitB (diagL n) crossB l := fun h => by
      unfold fitB
      rw [allI_good fun j j0 j1 => hk.2.2 j j0 (by omega)]; rfl
    clear hk g2 e1
    cbv
    ((try simp only [IfP_iff, and_true, true_and, decide_eq_true_eq, decide_eq_false_iff_not]); (try simp only [natc, getI_gi, at2_0, at2_1]); (try dsimp only [Ty.den]); (try simp only [natc] at *); (repeat' (first | apply And.intro | intro _)))
    all_goals (repeat' (first | ((first | refine call_q (im_fitting n (subL l 0 k) n0 n1 g4 g3) (by cbv) ?_ | refine call_pure (im_fitting n (subL l 0 k) n0 n1 g4 g3) (by cbv) ?_); cbv; ((try simp only [IfP_iff, and_true, true_and, decide_eq_true_eq, decide_eq_false_iff_not]); (try simp only [natc, getI_gi, at2_0, at2_1]); (try dsimp only [Ty.den]); (try simp only [natc] at *); (repeat' (first | apply And.intro | intro _)))) | ((first | refine call_q (go_contains (fitL (diagL n) crossB (subL l 0 k)) (gi l k) g5) (by cbv) ?_ | refine call_pure (go_contains (fitL (diagL n) crossB (subL l 0 k)) (gi l k) g5) (by cbv) ?_); cbv; ((try simp only [IfP_iff, and_true, true_and, decide_eq_true_eq, decide_eq_false_iff_not]); (try simp only [natc, getI_gi, at2_0, at2_1]); (try dsimp only [Ty.den]); (try simp only [natc] at *); (repeat' (first | apply And.intro | intro _)))) | ((first | refine call_q (im_isAscending l hl) (by cbv) ?_ | refine call_pure (im_isAscending l hl) (by cbv) ?_); cbv; ((try simp only [IfP_iff, and_true, true_and, decide_eq_true_eq, decide_eq_false_iff_not]); (try simp only [natc, getI_gi, at2_0, at2_1]); (try dsimp only [Ty.den]); (try simp only [natc] at *); (repeat' (first | apply And.intro | intro _))))))
    all_goals (try ((try simp only [IfP_iff, and_true, true_and, decide_eq_true_eq, decide_eq_false_iff_not]); (try simp only [natc, getI_gi, at2_0, at2_1]); (try dsimp only [Ty.den]); (try simp only [natc] at *); (repeat' (first | apply And.intro | intro _))))
    all_goals (try (simp only [IfP_iff, EqU_iff, Obl_iff, and_true, true_and, inI_iff, decide_eq_true_eq, decide_eq_false_iff_not]; (try simp only [natc, getI_gi, at2_0, at2_1]); (try dsimp only [Ty.den]); try simp only [natc] at *))
    all_goals ((repeat' (first | apply And.intro | intro _)) <;> first | omega | (exact g6 (by assumption) (by assumption)) | (exact g7 (by assumption) _ (by omega) (by omega)) | (exact g8 (by assumption)) | trace_state)
theorem im_isTri (n : Int) (l : List Int) (hl : l.length ≤ 1048576) : Spec2 Try.prog 15 [.int fun _ => n, .sl .int fun _ => l] [] [.bool fun _ => triV n l, .bool fun _ => polyB n] [] := by
  by_cases hp : polyB n = true
  case neg =>
    rw [Bool.not_eq_true] at hp
    have h8 : triV n l = false := by unfold triV; rw [hp]; rfl
    rw [hp, h8]
    refine fnS [] [4, 5] Try.func15 rfl (by decide) rfl (by decide) (by kernel_rfl) rfl (by simp [Try.ntmps15]) ?_
    cbv
    repeat' (first | ((first | refine call_q (im_polygon n) (by cbv) ?_ | refine call_pure (im_polygon n) (by cbv) ?_); cbv; ((try simp only [IfP_iff, and_true, true_and, decide_eq_true_eq, decide_eq_false_iff_not]); (try simp only [natc, getI_gi, at2_0, at2_1]); (try dsimp only [Ty.den]); (try simp only [natc] at *); (repeat' (first | apply And.intro | intro _)))))
    all_goals (try (simp only [IfP_iff, EqU_iff, Obl_iff, and_true, true_and, inI_iff, decide_eq_true_eq, decide_eq_false_iff_not]; (try simp only [natc, getI_gi, at2_0, at2_1]); (try dsimp only [Ty.den]); try simp only [natc] at *))
    ((try simp only [IfP_iff, and_true, true_and, decide_eq_true_eq, decide_eq_false_iff_not]); (try simp only [natc, getI_gi, at2_0, at2_1]); (try dsimp only [Ty.den]); (try simp only [natc] at *); (repeat' (first | apply And.intro | intro _)))
    all_goals (try (exact absurd (by assumption : (!polyB n) = false) (by rw [hp]; decide)))
    all_goals (try (simp only [IfP_iff, EqU_iff, Obl_iff, and_true, true_and, inI_iff, decide_eq_true_eq, decide_eq_false_iff_not]; (try simp only [natc, getI_gi, at2_0, at2_1]); (try dsimp only [Ty.den]); try simp only [natc] at *))
  have h9 := hp
  unfold polyB at h9
  simp only [Bool.and_eq_true, decide_eq_true_eq] at h9
  have h8 : triV n l = triB n l := by unfold triV; rw [hp]; rfl
  rw [hp, h8]
  have e1 : (l.length : Int) = n - 3 → fitB (diagL n) crossB l = triB n l := fun h => by unfold triB; rw [decide_eq_true h]; rfl
  have e2 : ¬ (l.length : Int) = n - 3 → false = triB n l := fun h => by unfold triB; rw [decide_eq_false h]; rfl
  refine fnS [] [4, 5] Try.func15 rfl (by decide) rfl (by decide) (by kernel_rfl) rfl (by simp [Try.ntmps15]) ?_
  cbv
  repeat' (first | ((first | refine call_q (im_polygon n) (by cbv) ?_ | refine call_pure (im_polygon n) (by cbv) ?_); cbv; ((try simp only [IfP_iff, and_true, true_and, decide_eq_true_eq, decide_eq_false_iff_not]); (try simp only [natc, getI_gi, at2_0, at2_1]); (try dsimp only [Ty.den]); (try simp only [natc] at *); (repeat' (first | apply And.intro | intro _)))))
  all_goals (try (simp only [IfP_iff, EqU_iff, Obl_iff, and_true, true_and, inI_iff, decide_eq_true_eq, decide_eq_false_iff_not]; (try simp only [natc, getI_gi, at2_0, at2_1]); (try dsimp only [Ty.den]); try simp only [natc] at *))
  ((try simp only [IfP_iff, and_true, true_and, decide_eq_true_eq, decide_eq_false_iff_not]); (try simp only [natc, getI_gi, at2_0, at2_1]); (try dsimp only [Ty.den]); (try simp only [natc] at *); (repeat' (first | apply And.intro | intro _)))
  all_goals (try (exact absurd (by assumption : (!polyB n) = true) (by rw [hp]; decide)))
  all_goals (repeat' (first | ((first | refine call_q (im_isFitting n l h9.1 h9.2 hl) (by cbv) ?_ | refine call_pure (im_isFitting n l h9.1 h9.2 hl) (by cbv) ?_); cbv; ((try simp only [IfP_iff, and_true, true_and, decide_eq_true_eq, decide_eq_false_iff_not]); (try simp only [natc, getI_gi, at2_0, at2_1]); (try dsimp only [Ty.den]); (try simp only [natc] at *); (repeat' (first | apply And.intro | intro _))))))
  all_goals (try ((try simp only [IfP_iff, and_true, true_and, decide_eq_true_eq, decide_eq_false_iff_not]); (try simp only [natc, getI_gi, at2_0, at2_1]); (try dsimp only [Ty.den]); (try simp only [natc] at *); (repeat' (first | apply And.intro | intro _))))
  all_goals (try (simp only [IfP_iff, EqU_iff, Obl_iff, and_true, true_and, inI_iff, decide_eq_true_eq, decide_eq_false_iff_not]; (try simp only [natc, getI_gi, at2_0, at2_1]); (try dsimp only [Ty.den]); try simp only [natc] at *))
  all_goals ((repeat' (first | apply And.intro | intro _)) <;> first | omega | (exact e1 (by assumption)) | (exact e2 (by assumption)) | trace_state)
theorem sp_dapart (l : List Int) (x : Int) (hl : l.length ≤ 1048576) (hx : ∀ y ∈ l, 0 ≤ y ∧ y < 100) (x0 : 0 ≤ x) (x1 : x < 100) : Spec2 Try.prog 71 [.sl .int fun _ => l, .int fun _ => x] [] [.bool fun _ => apartB l x] [] := by
  refine fnS [] [4] Try.func71 rfl (by decide) rfl (by decide) (by kernel_rfl) rfl (by simp [Try.ntmps71]) ?_
  cbv
  refine loopP (by kernel_rfl) (fun j : Int => 0 ≤ j ∧ j ≤ l.length ∧ apartB (l.take j.toNat) x = true) (fun j => [(5, .int fun _ => j)]) (fun j => []) (fun j => (l.length - j).toNat) (· + 1) 0 (by simp [apartB]) ?_ ?_
  · cbv
    (simp only [IfP_iff, EqU_iff, Obl_iff, and_true, true_and, inI_iff, decide_eq_true_eq, decide_eq_false_iff_not]; (try simp only [natc, getI_gi, at2_0, at2_1]); (try dsimp only [Ty.den]); try simp only [natc] at *)
  · intro j hj
    have g0 := hj.1
    have g1 := hj.2.1
    have g3 : j < (l.length : Int) → 0 ≤ gi l j ∧ gi l j < 100 := fun h => hx _ (gi_mem hj.1 h)
    have g5 : j < (l.length : Int) → crossB (gi l j) x = true → false = apartB l x := fun h e => by
      symm
      unfold apartB
      rw [List.all_eq_false]
      exact ⟨_, gi_mem hj.1 h, by simp [e]⟩
    have g6 : j < (l.length : Int) → crossB (gi l j) x = false → apartB (l.take (j + 1).toNat) x = true := fun h e2 => by
      have h7 := hj.2.2
      unfold apartB at h7 ⊢
      rw [take_gi hj.1 h, List.all_append, h7]
      simp [e2]
    have g7 : ¬ j < (l.length : Int) → true = apartB l x := fun h => by
      have h7 := hj.2.2
      rw [List.take_of_length_le (by omega)] at h7
      exact h7.symm
    clear hj hx
    cbv
    ((try simp only [IfP_iff, and_true, true_and, decide_eq_true_eq, decide_eq_false_iff_not]); (try simp only [natc, getI_gi, at2_0, at2_1]); (try dsimp only [Ty.den]); (try simp only [natc] at *); (repeat' (first | apply And.intro | intro _)))
    all_goals (repeat' (first | ((first | refine call_q (sp_cross (gi l j) x (g3 (by assumption)).1 (g3 (by assumption)).2 x0 x1) (by cbv) ?_ | refine call_pure (sp_cross (gi l j) x (g3 (by assumption)).1 (g3 (by assumption)).2 x0 x1) (by cbv) ?_); cbv; ((try simp only [IfP_iff, and_true, true_and, decide_eq_true_eq, decide_eq_false_iff_not]); (try simp only [natc, getI_gi, at2_0, at2_1]); (try dsimp only [Ty.den]); (try simp only [natc] at *); (repeat' (first | apply And.intro | intro _))))))
    all_goals (try ((try simp only [IfP_iff, and_true, true_and, decide_eq_true_eq, decide_eq_false_iff_not]); (try simp only [natc, getI_gi, at2_0, at2_1]); (try dsimp only [Ty.den]); (try simp only [natc] at *); (repeat' (first | apply And.intro | intro _))))
    all_goals (try (simp only [IfP_iff, EqU_iff, Obl_iff, and_true, true_and, inI_iff, decide_eq_true_eq, decide_eq_false_iff_not]; (try simp only [natc, getI_gi, at2_0, at2_1]); (try dsimp only [Ty.den]); try simp only [natc] at *))
    all_goals ((repeat' (first | apply And.intro | intro _)) <;> first | omega | (exact g6 (by assumption) (by assumption)) | (exact g5 (by assumption) (by assumption)) | (exact g7 (by assumption)) | trace_state)
end Go.Proofs.Ytbpheblbbdiapaa.M

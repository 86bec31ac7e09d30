/- Whether a set has a kind: both sides say the same. -/
import Derived.Test.YthogfineaeklpaaKsQ
import Derived.Test.YthogfineaeklpaaQg
namespace Go.Proofs.Ythogfineaeklpaa.M
open Go.RowKit Abs
set_option linter.unusedSimpArgs false
set_option linter.unusedVariables false
set_option maxRecDepth 100000
set_option maxHeartbeats 4000000
theorem okK_in {n kind : Int} {l : List (Int × Int)} (h : okK n l kind = true) : (0 ≤ n ∧ n ≤ 8) ∧ (1 ≤ kind ∧ kind ≤ 3) ∧ graphOk n l = true ∧ ∀ e ∈ l, 0 ≤ e.1 ∧ e.1 < e.2 ∧ e.2 < n := by
  unfold okK at h
  simp only [Bool.and_eq_true, decide_eq_true_eq] at h
  obtain ⟨g01, g2, _⟩ := graph_edges h.1
  exact ⟨g01, h.2, h.1, g2⟩
theorem nset_in {n : Int} {s : List Int} (g1 : n ≤ 8) (h : ascB n s = true) : 0 ≤ nset s ∧ nset s ≤ 255 ∧ ∀ v : Int, 0 ≤ v → bitB (nset s) v = hasB s v := nset_bits fun x hx => by have := asc_mem h x hx; omega
theorem has_eq {n kind : Int} {l : List (Int × Int)} {s : List Int} (h : okK n l kind = true) (ha : ascB n s = true) : holdsK kind (nearS n l) (nset s) = hasK n l kind s := by
  obtain ⟨⟨g0, g1⟩, _, _, g2⟩ := okK_in h
  obtain ⟨a, b, c⟩ := nset_in g1 ha
  rw [holds_eq g0 g1 g2 a b, hasK_eq g1 g2 ha]
  exact kindP_congr g1 fun y y0 _ => c y y0
theorem im_hasKind (n : Int) (l : List (Int × Int)) (kind : Int) (s : List Int) (hl : l.length ≤ 1048576) (hs : s.length ≤ 1048576) : Spec2 Try.prog 23 [.agg (.pr .int (.sl (.pr .int .int))) fun _ => (n, l), .int fun _ => kind, .sl .int fun _ => s] [] [.bool fun _ => (okK n l kind && ascB n s) && hasK n l kind s, .bool fun _ => okK n l kind && ascB n s] [] := by
  cases hb : okK n l kind with
  | false =>
    refine fnS [] [6, 7] Try.func23 rfl (by decide) rfl (by decide) (by kernel_rfl) rfl (by simp [Try.ntmps23]) ?_
    cbv
    repeat' (first | ((first | refine call_q (im_rule_bad n kind l hl hb) (by cbv) ?_ | refine call_pure (im_rule_bad n kind l hl hb) (by cbv) ?_); cbv; ((try simp only [IfP_iff, and_true, true_and, decide_eq_true_eq, decide_eq_false_iff_not]); (try simp only [natc, getI_gi, at2_0, at2_1]); (try dsimp only [Ty.den]); (try simp only [natc] at *); (repeat' (first | apply And.intro | intro _)))) | ((first | refine call_q (im_areNodes n l s hs) (by cbv) ?_ | refine call_pure (im_areNodes n l s hs) (by cbv) ?_); cbv; ((try simp only [IfP_iff, and_true, true_and, decide_eq_true_eq, decide_eq_false_iff_not]); (try simp only [natc, getI_gi, at2_0, at2_1]); (try dsimp only [Ty.den]); (try simp only [natc] at *); (repeat' (first | apply And.intro | intro _)))))
    all_goals (try (simp only [IfP_iff, EqU_iff, Obl_iff, and_true, true_and, inI_iff, decide_eq_true_eq, decide_eq_false_iff_not]; (try simp only [natc, getI_gi, at2_0, at2_1]); (try dsimp only [Ty.den]); try simp only [natc] at *))
    all_goals (try (exact absurd (by assumption : (!false) = false) (by decide)))
    all_goals (try rfl)
  | true =>
    obtain ⟨⟨g0, g1⟩, _, _, g2⟩ := okK_in hb
    have k1 : (nearS n l).length ≤ 8 := by rw [nearS_len]; omega
    have k2 : ∀ x : Int, 0 ≤ x → x < (nearS n l).length → 0 ≤ (getI .u64 (nearS n l) x : Int) ∧ (getI .u64 (nearS n l) x : Int) ≤ 255 := fun x x0 x1 => by
      rw [nearS_len] at x1
      obtain ⟨a, b, _⟩ := nearS_bits (x := x) g1 g2 x0 (by omega)
      exact ⟨a, b⟩
    by_cases ha : ascB n s = true
    case neg =>
      rw [Bool.not_eq_true] at ha
      refine fnS [] [6, 7] Try.func23 rfl (by decide) rfl (by decide) (by kernel_rfl) rfl (by simp [Try.ntmps23]) ?_
      cbv
      repeat' (first | ((first | refine call_q (im_rule_ok n kind l hl hb) (by cbv) ?_ | refine call_pure (im_rule_ok n kind l hl hb) (by cbv) ?_); cbv; ((try simp only [IfP_iff, and_true, true_and, decide_eq_true_eq, decide_eq_false_iff_not]); (try simp only [natc, getI_gi, at2_0, at2_1]); (try dsimp only [Ty.den]); (try simp only [natc] at *); (repeat' (first | apply And.intro | intro _)))) | ((first | refine call_q (im_areNodes n l s hs) (by cbv) ?_ | refine call_pure (im_areNodes n l s hs) (by cbv) ?_); cbv; ((try simp only [IfP_iff, and_true, true_and, decide_eq_true_eq, decide_eq_false_iff_not]); (try simp only [natc, getI_gi, at2_0, at2_1]); (try dsimp only [Ty.den]); (try simp only [natc] at *); (repeat' (first | apply And.intro | intro _)))))
      all_goals (try (simp only [IfP_iff, EqU_iff, Obl_iff, and_true, true_and, inI_iff, decide_eq_true_eq, decide_eq_false_iff_not]; (try simp only [natc, getI_gi, at2_0, at2_1]); (try dsimp only [Ty.den]); try simp only [natc] at *))
      all_goals (try (exact absurd (by assumption : (!true) = true) (by decide)))
      all_goals (try (exact absurd (by assumption : (!ascB n s) = false) (by rw [ha]; decide)))
      all_goals (try (rw [ha]; rfl))
      all_goals (try simp [ha])
    have h4 := has_eq hb ha
    obtain ⟨a, b, _⟩ := nset_in g1 ha
    refine fnS [] [6, 7] Try.func23 rfl (by decide) rfl (by decide) (by kernel_rfl) rfl (by simp [Try.ntmps23]) ?_
    cbv
    repeat' (first | ((first | refine call_q (im_rule_ok n kind l hl hb) (by cbv) ?_ | refine call_pure (im_rule_ok n kind l hl hb) (by cbv) ?_); cbv; ((try simp only [IfP_iff, and_true, true_and, decide_eq_true_eq, decide_eq_false_iff_not]); (try simp only [natc, getI_gi, at2_0, at2_1]); (try dsimp only [Ty.den]); (try simp only [natc] at *); (repeat' (first | apply And.intro | intro _)))) | ((first | refine call_q (im_areNodes n l s hs) (by cbv) ?_ | refine call_pure (im_areNodes n l s hs) (by cbv) ?_); cbv; ((try simp only [IfP_iff, and_true, true_and, decide_eq_true_eq, decide_eq_false_iff_not]); (try simp only [natc, getI_gi, at2_0, at2_1]); (try dsimp only [Ty.den]); (try simp only [natc] at *); (repeat' (first | apply And.intro | intro _)))))
    all_goals (try (simp only [IfP_iff, EqU_iff, Obl_iff, and_true, true_and, inI_iff, decide_eq_true_eq, decide_eq_false_iff_not]; (try simp only [natc, getI_gi, at2_0, at2_1]); (try dsimp only [Ty.den]); try simp only [natc] at *))
    all_goals (try (exact absurd (by assumption : (!true) = true) (by decide)))
    all_goals (try (exact absurd (by assumption : (!ascB n s) = true) (by rw [ha]; decide)))
    repeat' (first | ((first | refine call_q (im_setOf s hs (fun x hx => by have := asc_mem ha x hx; omega)) (by cbv) ?_ | refine call_pure (im_setOf s hs (fun x hx => by have := asc_mem ha x hx; omega)) (by cbv) ?_); cbv; ((try simp only [IfP_iff, and_true, true_and, decide_eq_true_eq, decide_eq_false_iff_not]); (try simp only [natc, getI_gi, at2_0, at2_1]); (try dsimp only [Ty.den]); (try simp only [natc] at *); (repeat' (first | apply And.intro | intro _)))) | ((first | refine call_q (Spec2.agg (t := .pr .int (.sl .u64)) (x := fun _ => (kind, nearS n l)) (im_holdsK kind (nearS n l) (nset s) k1 k2 a b)) (by cbv) ?_ | refine call_pure (Spec2.agg (t := .pr .int (.sl .u64)) (x := fun _ => (kind, nearS n l)) (im_holdsK kind (nearS n l) (nset s) k1 k2 a b)) (by cbv) ?_); cbv; ((try simp only [IfP_iff, and_true, true_and, decide_eq_true_eq, decide_eq_false_iff_not]); (try simp only [natc, getI_gi, at2_0, at2_1]); (try dsimp only [Ty.den]); (try simp only [natc] at *); (repeat' (first | apply And.intro | intro _)))))
    all_goals (try (simp only [IfP_iff, EqU_iff, Obl_iff, and_true, true_and, inI_iff, decide_eq_true_eq, decide_eq_false_iff_not]; (try simp only [natc, getI_gi, at2_0, at2_1]); (try dsimp only [Ty.den]); try simp only [natc] at *))
    all_goals (try (rw [ha, h4]; simp))
    all_goals (try simp [ha])
    trace_state
end Go.Proofs.Ythogfineaeklpaa.M

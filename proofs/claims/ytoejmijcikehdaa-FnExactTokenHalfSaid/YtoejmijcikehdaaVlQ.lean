/- Tokens and boards of Graphs: SlideTokens, pure; what is asked of them. -/
import Derived.Test.YtoejmijcikehdaaVkQ
import Derived.Test.YtoejmijcikehdaaCqQ
import Derived.Test.YtoejmijcikehdaaQe
import Derived.Test.YtoejmijcikehdaaQg
namespace Go.Proofs.Ytoejmijcikehdaa.M
open Go.RowKit Abs
set_option linter.unusedSimpArgs false
set_option linter.unusedVariables false
set_option maxRecDepth 100000
set_option maxHeartbeats 4000000
theorem near_comV {l : List (Int × Int)} {a b : Int} : nearB l a b = nearB l b a := by
  unfold nearB hit
  congr 1
  funext e
  rw [Bool.or_comm]
theorem near_rng {n a b : Int} {l : List (Int × Int)} (hg : graphOk n l = true) (h : nearB l a b = true) : (0 ≤ a ∧ a < n) ∧ 0 ≤ b ∧ b < n := by
  unfold nearB hit at h
  obtain ⟨e, he, h2⟩ := List.any_eq_true.1 h
  have := (graph_edges hg).2.1 e he
  simp only [Bool.or_eq_true, Bool.and_eq_true, beq_iff_eq] at h2
  omega
def tokB (n : Int) (l : List (Int × Int)) (p : List Int) : Bool := graphOk n l && decide ((p.length : Int) = n) && permB p
def tokV (n : Int) (l : List (Int × Int)) (p : List Int) : Int × List Int := if tokB n l p = true then ((p.length : Int), padO p) else (0, List.replicate 8 0)
def bdB (n : Int) (l : List (Int × Int)) (p : List Int) : Bool := decide (1 ≤ n) && decide (n ≤ 6) && tokB n l p
def bdV (n : Int) (l : List (Int × Int)) (p : List Int) : Int × List Int := if bdB n l p = true then ((p.length : Int), padO p) else (0, List.replicate 8 0)
theorem tok_in {n : Int} {l : List (Int × Int)} {p : List Int} (h : tokB n l p = true) : graphOk n l = true ∧ (p.length : Int) = n ∧ permB p = true := by
  unfold tokB at h
  simp only [Bool.and_eq_true, decide_eq_true_eq] at h
  exact ⟨h.1.1, h.1.2, h.2⟩
theorem bd_in {n : Int} {l : List (Int × Int)} {p : List Int} (h : bdB n l p = true) : 1 ≤ n ∧ n ≤ 6 ∧ graphOk n l = true ∧ (p.length : Int) = n ∧ permB p = true := by
  unfold bdB at h
  simp only [Bool.and_eq_true, decide_eq_true_eq] at h
  exact ⟨h.1.1, h.1.2, tok_in h.2⟩
theorem im_tokensOn (n : Int) (l : List (Int × Int)) (p : List Int) (hl : l.length ≤ 1048576) (hp : p.length ≤ 1048576) : Spec2 Try.prog 67 [.agg (.pr .int (.sl (.pr .int .int))) fun _ => (n, l), .sl .int fun _ => p] [] [.agg (.pr .int (.ar 7 .int)) fun _ => tokV n l p, .bool fun _ => tokB n l p] [] := by
  have hg := im_graph n l hl
  have hq := im_permOf p hp
  have z1 : graphOk n l = false → tokV n l p = (0, List.replicate 8 0) ∧ tokB n l p = false := fun h => by
    have : tokB n l p = false := by unfold tokB; rw [h]; rfl
    exact ⟨by unfold tokV; rw [this, if_neg (by decide)], this⟩
  have z2 : (!decide ((p.length : Int) = n)) = true → tokV n l p = (0, List.replicate 8 0) ∧ tokB n l p = false := fun h => by
    have : tokB n l p = false := by unfold tokB; rw [show decide ((p.length : Int) = n) = false by simpa using h]; simp
    exact ⟨by unfold tokV; rw [this, if_neg (by decide)], this⟩
  have z3 : graphOk n l = true → (!decide ((p.length : Int) = n)) = false → tokV n l p = permV p ∧ tokB n l p = permB p := fun h h2 => by
    have : tokB n l p = permB p := by unfold tokB; rw [h, show decide ((p.length : Int) = n) = true by simpa using h2]; rfl
    exact ⟨by unfold tokV permV; rw [this], this⟩
  generalize tokV n l p = A at *
  generalize tokB n l p = B at *
  generalize permV p = C at *
  refine fnG [.csq 4 7 70, .tmp 5] Try.func67 rfl (by decide) rfl (by kernel_rfl) (.inr (.inl rfl)) (by kernel_rfl) (Nat.zero_le _) (by simp [Try.ntmps67]) ?_
  cbv
  ((try simp only [IfP_iff, and_true, true_and, decide_eq_true_eq, decide_eq_false_iff_not]); (try simp only [natc, getI_gi, at2_0, at2_1]); (try dsimp only [Ty.den]); (try simp only [natc] at *); (repeat' (first | apply And.intro | intro _)))
  all_goals (repeat' (first | ((first | refine call_q hg (by cbv) ?_ | refine call_pure hg (by cbv) ?_); cbv; ((try simp only [IfP_iff, and_true, true_and, decide_eq_true_eq, decide_eq_false_iff_not]); (try simp only [natc, getI_gi, at2_0, at2_1]); (try dsimp only [Ty.den]); (try simp only [natc] at *); (repeat' (first | apply And.intro | intro _)))) | ((first | refine call_q hq (by cbv) ?_ | refine call_pure hq (by cbv) ?_); cbv; ((try simp only [IfP_iff, and_true, true_and, decide_eq_true_eq, decide_eq_false_iff_not]); (try simp only [natc, getI_gi, at2_0, at2_1]); (try dsimp only [Ty.den]); (try simp only [natc] at *); (repeat' (first | apply And.intro | intro _))))))
  · refine EndG.plain [] ?_
    cbv
    (simp only [IfP_iff, EqU_iff, Obl_iff, and_true, true_and, inI_iff, decide_eq_true_eq, decide_eq_false_iff_not]; (try simp only [natc, getI_gi, at2_0, at2_1]); (try dsimp only [Ty.den]); try simp only [natc] at *)
    have := z1 (by simpa using (by assumption : (!graphOk n l) = true))
    rw [this.1, this.2]
    first | exact ⟨rfl, rfl⟩ | rfl
  · refine EndG.plain [] ?_
    cbv
    (simp only [IfP_iff, EqU_iff, Obl_iff, and_true, true_and, inI_iff, decide_eq_true_eq, decide_eq_false_iff_not]; (try simp only [natc, getI_gi, at2_0, at2_1]); (try dsimp only [Ty.den]); try simp only [natc] at *)
    have := z2 (by assumption)
    rw [this.1, this.2]
    first | exact ⟨rfl, rfl⟩ | rfl
  · refine EndG.plain [] ?_
    cbv
    (simp only [IfP_iff, EqU_iff, Obl_iff, and_true, true_and, inI_iff, decide_eq_true_eq, decide_eq_false_iff_not]; (try simp only [natc, getI_gi, at2_0, at2_1]); (try dsimp only [Ty.den]); try simp only [natc] at *)
    have := z3 (by simpa using (by assumption : (!graphOk n l) = false)) (by assumption)
    rw [this.1, this.2]
    first | exact ⟨rfl, rfl⟩ | rfl
theorem im_boardOn (n : Int) (l : List (Int × Int)) (p : List Int) (hl : l.length ≤ 1048576) (hp : p.length ≤ 1048576) : Spec2 Try.prog 73 [.agg (.pr .int (.sl (.pr .int .int))) fun _ => (n, l), .sl .int fun _ => p] [] [.agg (.pr .int (.ar 7 .int)) fun _ => bdV n l p, .bool fun _ => bdB n l p] [] := by
  have hq := im_tokensOn n l p hl hp
  have z1 : n < 1 ∨ 6 < n → bdV n l p = (0, List.replicate 8 0) ∧ bdB n l p = false := fun h => by
    have : bdB n l p = false := by
      cases hb : bdB n l p with
      | false => rfl
      | true =>
        have := bd_in hb
        omega
    exact ⟨by unfold bdV; rw [this, if_neg (by decide)], this⟩
  have z3 : ¬ n < 1 → ¬ 6 < n → bdV n l p = tokV n l p ∧ bdB n l p = tokB n l p := fun h h2 => by
    have : bdB n l p = tokB n l p := by unfold bdB; rw [show decide (1 ≤ n) = true by rw [decide_eq_true_eq]; omega, show decide (n ≤ 6) = true by rw [decide_eq_true_eq]; omega]; rfl
    exact ⟨by unfold bdV tokV; rw [this], this⟩
  generalize bdV n l p = A at *
  generalize bdB n l p = B at *
  generalize tokV n l p = C at *
  refine fnG [.csq 4 7 70, .tmp 5] Try.func73 rfl (by decide) rfl (by kernel_rfl) (.inr (.inl rfl)) (by kernel_rfl) (Nat.zero_le _) (by simp [Try.ntmps73]) ?_
  cbv
  ((try simp only [IfP_iff, and_true, true_and, decide_eq_true_eq, decide_eq_false_iff_not]); (try simp only [natc, getI_gi, at2_0, at2_1]); (try dsimp only [Ty.den]); (try simp only [natc] at *); (repeat' (first | apply And.intro | intro _)))
  all_goals (repeat' (first | ((first | refine call_q hq (by cbv) ?_ | refine call_pure hq (by cbv) ?_); cbv; ((try simp only [IfP_iff, and_true, true_and, decide_eq_true_eq, decide_eq_false_iff_not]); (try simp only [natc, getI_gi, at2_0, at2_1]); (try dsimp only [Ty.den]); (try simp only [natc] at *); (repeat' (first | apply And.intro | intro _))))))
  all_goals (refine EndG.plain [] ?_; cbv; (simp only [IfP_iff, EqU_iff, Obl_iff, and_true, true_and, inI_iff, decide_eq_true_eq, decide_eq_false_iff_not]; (try simp only [natc, getI_gi, at2_0, at2_1]); (try dsimp only [Ty.den]); try simp only [natc] at *))
  · have := z1 (.inl (by assumption))
    rw [this.1, this.2]
    first | exact ⟨rfl, rfl⟩ | rfl
  · have := z1 (.inr (by assumption))
    rw [this.1, this.2]
    first | exact ⟨rfl, rfl⟩ | rfl
  · have := z3 (by assumption) (by assumption)
    rw [this.1, this.2]
    first | exact ⟨rfl, rfl⟩ | rfl
theorem sp_field (n : Int) (l : List (Int × Int)) (p : List Int) (hl : l.length ≤ 1048576) (hp : p.length ≤ 1048576) : Spec2 Try.prog 94 [.agg (.pr .int (.sl (.pr .int .int))) fun _ => (n, l), .sl .int fun _ => p] [] [.bool fun _ => decide (n ≤ 6) && tokB n l p] [] := by
  have h9 : tokB n l p = (graphOk n l && decide ((p.length : Int) = n) && permB p) := rfl
  refine fnS [] [4] Try.func94 rfl (by decide) rfl (by decide) (by kernel_rfl) rfl (by simp [Try.ntmps94]) ?_
  cbv
  ((try simp only [IfP_iff, and_true, true_and, decide_eq_true_eq, decide_eq_false_iff_not]); (try simp only [natc, getI_gi, at2_0, at2_1]); (try dsimp only [Ty.den]); (try simp only [natc] at *); (repeat' (first | apply And.intro | intro _)))
  all_goals (repeat' (first | ((first | refine call_q (sp_good n l hl) (by cbv) ?_ | refine call_pure (sp_good n l hl) (by cbv) ?_); cbv; ((try simp only [IfP_iff, and_true, true_and, decide_eq_true_eq, decide_eq_false_iff_not]); (try simp only [natc, getI_gi, at2_0, at2_1]); (try dsimp only [Ty.den]); (try simp only [natc] at *); (repeat' (first | apply And.intro | intro _)))) | ((first | refine call_q (sp_perm p hp) (by cbv) ?_ | refine call_pure (sp_perm p hp) (by cbv) ?_); cbv; ((try simp only [IfP_iff, and_true, true_and, decide_eq_true_eq, decide_eq_false_iff_not]); (try simp only [natc, getI_gi, at2_0, at2_1]); (try dsimp only [Ty.den]); (try simp only [natc] at *); (repeat' (first | apply And.intro | intro _))))))
  all_goals (try (simp only [IfP_iff, EqU_iff, Obl_iff, and_true, true_and, inI_iff, decide_eq_true_eq, decide_eq_false_iff_not]; (try simp only [natc, getI_gi, at2_0, at2_1]); (try dsimp only [Ty.den]); try simp only [natc] at *))
  all_goals ((repeat' (first | apply And.intro | intro _)) <;> first | omega | (simp only [List.length_append, List.length_cons, List.length_nil]; omega) | grind | trace_state)
theorem sp_board (n : Int) (l : List (Int × Int)) (p : List Int) (hl : l.length ≤ 1048576) (hp : p.length ≤ 1048576) : Spec2 Try.prog 71 [.agg (.pr .int (.sl (.pr .int .int))) fun _ => (n, l), .sl .int fun _ => p] [] [.bool fun _ => bdB n l p] [] := by
  have h9 : bdB n l p = (decide (1 ≤ n) && decide (n ≤ 6) && tokB n l p) := rfl
  have h8 : decide (0 < n) = decide (1 ≤ n) := by rw [decide_eq_decide]; omega
  refine fnS [] [4] Try.func71 rfl (by decide) rfl (by decide) (by kernel_rfl) rfl (by simp [Try.ntmps71]) ?_
  cbv
  ((try simp only [IfP_iff, and_true, true_and, decide_eq_true_eq, decide_eq_false_iff_not]); (try simp only [natc, getI_gi, at2_0, at2_1]); (try dsimp only [Ty.den]); (try simp only [natc] at *); (repeat' (first | apply And.intro | intro _)))
  all_goals (repeat' (first | ((first | refine call_q (sp_field n l p hl hp) (by cbv) ?_ | refine call_pure (sp_field n l p hl hp) (by cbv) ?_); cbv; ((try simp only [IfP_iff, and_true, true_and, decide_eq_true_eq, decide_eq_false_iff_not]); (try simp only [natc, getI_gi, at2_0, at2_1]); (try dsimp only [Ty.den]); (try simp only [natc] at *); (repeat' (first | apply And.intro | intro _))))))
  all_goals (try (simp only [IfP_iff, EqU_iff, Obl_iff, and_true, true_and, inI_iff, decide_eq_true_eq, decide_eq_false_iff_not]; (try simp only [natc, getI_gi, at2_0, at2_1]); (try dsimp only [Ty.den]); try simp only [natc] at *))
  all_goals ((repeat' (first | apply And.intro | intro _)) <;> first | omega | (simp only [List.length_append, List.length_cons, List.length_nil]; omega) | grind | trace_state)
end Go.Proofs.Ytoejmijcikehdaa.M

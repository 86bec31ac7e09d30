/- The Graph of the pairs that are no neighbours, on both sides. -/
import Derived.Test.YthogfineaeklpaaQe
import Derived.Test.YthogfineaeklpaaCtQ
import Derived.Test.YthogfineaeklpaaQg
namespace Go.Proofs.Ythogfineaeklpaa.M
open Go.RowKit Abs
set_option linter.unusedSimpArgs false
set_option linter.unusedVariables false
set_option maxRecDepth 100000
set_option maxHeartbeats 4000000
theorem go_index2 (l : List (Int × Int)) (v : Int × Int) (hl : l.length ≤ 1048576) :
    Spec2 Try.prog 122 [.sl (.pr .int .int) fun _ => l, .agg (.pr .int .int) fun _ => v] [] [.int fun _ => findP l fun x => decide (v = x)] [] := by
  refine fnS [] [4] Try.func122 rfl (by decide) rfl (by decide) (by kernel_rfl) rfl (by simp [Try.ntmps122]) ?_
  cbv
  refine loopP (by kernel_rfl) (fun k : Int => 0 ≤ k ∧ k ≤ l.length ∧ ∀ j : Int, 0 ≤ j → j < k → decide (v = getI (.pr .int .int) l j) = false) (fun k => [(8, .int fun _ => k)]) (fun _ => []) (fun k => (l.length - k).toNat) (· + 1) 0 (by grind) ?_ ?_
  · cbv
    (simp only [IfP_iff, EqU_iff, Obl_iff, and_true, true_and, inI_iff, decide_eq_true_eq, decide_eq_false_iff_not]; (try simp only [natc, at2_0, at2_1]); (try dsimp only [Ty.den]); try simp only [natc] at *)
  · intro k hk
    have h1 := findP_hit (l := l) (q := fun x => decide (v = x)) (k := k)
    have h2 := findP_none (l := l) (q := fun x => decide (v = x))
    have h3 := upTo (p := fun j => !decide (v = getI (.pr .int .int) l j)) (k := k) (by simpa using hk.2.2)
    simp only [Bool.not_eq_true'] at h3
    cbv
    ((try simp only [IfP_iff, and_true, true_and, decide_eq_true_eq, decide_eq_false_iff_not]); (try simp only [natc, at2_0, at2_1]); (try dsimp only [Ty.den]); (try simp only [natc] at *); (repeat' (first | apply And.intro | intro _)))
    all_goals (try (simp only [IfP_iff, EqU_iff, Obl_iff, and_true, true_and, inI_iff, decide_eq_true_eq, decide_eq_false_iff_not]; (try simp only [natc, at2_0, at2_1]); (try dsimp only [Ty.den]); try simp only [natc] at *))
    all_goals ((repeat' (first | apply And.intro | intro _)) <;> first | omega | (simp only [List.length_append, List.length_cons, List.length_nil]; omega) | grind)
theorem go_contains2 (l : List (Int × Int)) (v : Int × Int) (hl : l.length ≤ 1048576) :
    Spec2 Try.prog 105 [.sl (.pr .int .int) fun _ => l, .agg (.pr .int .int) fun _ => v] [] [.bool fun _ => l.any fun x => decide (v = x)] [] := by
  have h1 := findP_any l fun x => decide (v = x)
  refine fnS [] [4] Try.func105 rfl (by decide) rfl (by decide) (by kernel_rfl) rfl (by simp [Try.ntmps105]) ?_
  cbv
  ((first | refine call_q (go_index2 l v hl) (by cbv) ?_ | refine call_pure (go_index2 l v hl) (by cbv) ?_); cbv; ((try simp only [IfP_iff, and_true, true_and, decide_eq_true_eq, decide_eq_false_iff_not]); (try simp only [natc, at2_0, at2_1]); (try dsimp only [Ty.den]); (try simp only [natc] at *); (repeat' (first | apply And.intro | intro _))))
  (simp only [IfP_iff, EqU_iff, Obl_iff, and_true, true_and, inI_iff, decide_eq_true_eq, decide_eq_false_iff_not]; (try simp only [natc, at2_0, at2_1]); (try dsimp only [Ty.den]); try simp only [natc] at *)
  grind
theorem any_near {n a b : Int} {l : List (Int × Int)} (hg : graphOk n l = true) : (l.any fun x => decide ((min a b, max a b) = x)) = nearB l a b := by
  obtain ⟨_, he, _⟩ := graph_edges hg
  unfold nearB
  rw [Bool.eq_iff_iff, List.any_eq_true, List.any_eq_true]
  constructor
  · rintro ⟨e, hm, h⟩
    simp only [decide_eq_true_eq] at h
    refine ⟨e, hm, ?_⟩
    subst h
    have := he _ hm
    simp only at this
    simp only [hit, Bool.or_eq_true, Bool.and_eq_true, beq_iff_eq]
    omega
  · rintro ⟨e, hm, h⟩
    simp only [hit, Bool.or_eq_true, Bool.and_eq_true, beq_iff_eq] at h
    have := he _ hm
    refine ⟨e, hm, ?_⟩
    simp only [decide_eq_true_eq]
    obtain ⟨c, d⟩ := e
    simp only at h this
    rw [Prod.mk.injEq]
    omega
theorem im_areNeighbors (n : Int) (l : List (Int × Int)) (a b : Int) (hl : l.length ≤ 1048576) (hg : graphOk n l = true) : Spec2 Try.prog 70 [.agg (.pr .int (.sl (.pr .int .int))) fun _ => (n, l), .int fun _ => a, .int fun _ => b] [] [.bool fun _ => nearB l a b] [] := by
  have h1 := any_near (a := a) (b := b) hg
  have h2 := go_contains2 l (min a b, max a b) hl
  rw [h1] at h2
  have h3 : ∀ x y : Int, (if y < x then y else x) = min x y := fun x y => by split <;> omega
  have h4 : ∀ x y : Int, (if x < y then y else x) = max x y := fun x y => by split <;> omega
  rw [← h3, ← h4] at h2
  refine fnS [] [6] Try.func70 rfl (by decide) rfl (by decide) (by kernel_rfl) rfl (by simp [Try.ntmps70]) ?_
  cbv
  ((first | refine call_q h2 (by cbv) ?_ | refine call_pure h2 (by cbv) ?_); cbv; ((try simp only [IfP_iff, and_true, true_and, decide_eq_true_eq, decide_eq_false_iff_not]); (try simp only [natc, at2_0, at2_1]); (try dsimp only [Ty.den]); (try simp only [natc] at *); (repeat' (first | apply And.intro | intro _))))
  all_goals (try (simp only [IfP_iff, EqU_iff, Obl_iff, and_true, true_and, inI_iff, decide_eq_true_eq, decide_eq_false_iff_not]; (try simp only [natc, at2_0, at2_1]); (try dsimp only [Ty.den]); try simp only [natc] at *))
end Go.Proofs.Ythogfineaeklpaa.M

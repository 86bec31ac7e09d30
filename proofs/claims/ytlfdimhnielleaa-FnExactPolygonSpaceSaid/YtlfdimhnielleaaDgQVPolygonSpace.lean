/- Triangulations: the tests on both sides. -/
import Derived.Test.YtlfdimhnielleaaDdQVPolygonSpace
import Derived.Test.YtlfdimhnielleaaTuQVPolygonSpace
import Derived.Test.YtlfdimhnielleaaQgVPolygonSpace
namespace Go.Proofs.Ytlfdimhnielleaa.M
open Go.RowKit Abs
set_option linter.unusedSimpArgs false
set_option linter.unusedVariables false
set_option maxRecDepth 100000
set_option maxHeartbeats 4000000
theorem sp_dapart (l : List Int) (x : Int) (hl : l.length ≤ 1048576) (hx : ∀ y ∈ l, 0 ≤ y ∧ y < 100) (x0 : 0 ≤ x) (x1 : x < 100) : Spec2 Try.prog 95 [.sl .int fun _ => l, .int fun _ => x] [] [.bool fun _ => apartB l x] [] := by
  refine fnS [] [4] Try.func95 rfl (by decide) rfl (by decide) (by kernel_rfl) rfl (by simp [Try.ntmps95]) ?_
  cbv
  refine loopP (by kernel_rfl) (fun j : Int => 0 ≤ j ∧ j ≤ l.length ∧ apartB (l.take j.toNat) x = true) (fun j => [(5, .int fun _ => j)]) (fun j => []) (fun j => (l.length - j).toNat) (· + 1) 0 (by simp [apartB]) ?_ ?_
  · cbv
    (simp only [IfP_iff, EqU_iff, Obl_iff, and_true, true_and, inI_iff, decide_eq_true_eq, decide_eq_false_iff_not]; (try simp only [natc, getI_gi, at2_0, at2_1]); (try dsimp only [Ty.den]); try simp only [natc] at *)
  · intro j hj
    have g0 := hj.1
    have g1 := hj.2.1
    have g3 : j < (l.length : Int) → 0 ≤ gi l j ∧ gi l j < 100 := fun h => hx _ (gi_mem hj.1 h)
    have g5 : j < (l.length : Int) → crossB (gi l j) x = true → false = apartB l x := fun h e => by
      symm
      unfold apartB
      rw [List.all_eq_false]
      exact ⟨_, gi_mem hj.1 h, by simp [e]⟩
    have g6 : j < (l.length : Int) → crossB (gi l j) x = false → apartB (l.take (j + 1).toNat) x = true := fun h e2 => by
      have h7 := hj.2.2
      unfold apartB at h7 ⊢
      rw [take_gi hj.1 h, List.all_append, h7]
      simp [e2]
    have g7 : ¬ j < (l.length : Int) → true = apartB l x := fun h => by
      have h7 := hj.2.2
      rw [List.take_of_length_le (by omega)] at h7
      exact h7.symm
    clear hj hx
    cbv
    ((try simp only [IfP_iff, and_true, true_and, decide_eq_true_eq, decide_eq_false_iff_not]); (try simp only [natc, getI_gi, at2_0, at2_1]); (try dsimp only [Ty.den]); (try simp only [natc] at *); (repeat' (first | apply And.intro | intro _)))
    all_goals (repeat' (first | ((first | refine call_q (sp_cross (gi l j) x (g3 (by assumption)).1 (g3 (by assumption)).2 x0 x1) (by cbv) ?_ | refine call_pure (sp_cross (gi l j) x (g3 (by assumption)).1 (g3 (by assumption)).2 x0 x1) (by cbv) ?_); cbv; ((try simp only [IfP_iff, and_true, true_and, decide_eq_true_eq, decide_eq_false_iff_not]); (try simp only [natc, getI_gi, at2_0, at2_1]); (try dsimp only [Ty.den]); (try simp only [natc] at *); (repeat' (first | apply And.intro | intro _))))))
    all_goals (try ((try simp only [IfP_iff, and_true, true_and, decide_eq_true_eq, decide_eq_false_iff_not]); (try simp only [natc, getI_gi, at2_0, at2_1]); (try dsimp only [Ty.den]); (try simp only [natc] at *); (repeat' (first | apply And.intro | intro _))))
    all_goals (try (simp only [IfP_iff, EqU_iff, Obl_iff, and_true, true_and, inI_iff, decide_eq_true_eq, decide_eq_false_iff_not]; (try simp only [natc, getI_gi, at2_0, at2_1]); (try dsimp only [Ty.den]); try simp only [natc] at *))
    all_goals ((repeat' (first | apply And.intro | intro _)) <;> first | omega | (exact g6 (by assumption) (by assumption)) | (exact g5 (by assumption) (by assumption)) | (exact g7 (by assumption)) | trace_state)
end Go.Proofs.Ytlfdimhnielleaa.M

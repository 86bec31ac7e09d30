/- Whether a list has a number, on the side of the specification. -/
import Derived.Test.YthogfineaeklpaaCtQ
namespace Go.Proofs.Ythogfineaeklpaa.M
open Go.RowKit Abs
set_option linter.unusedSimpArgs false
set_option linter.unusedVariables false
set_option maxRecDepth 100000
set_option maxHeartbeats 4000000
theorem sp_has (l : List Int) (v : Int) (hl : l.length ≤ 1048576) : Spec2 Try.prog 73 [.sl .int fun _ => l, .int fun _ => v] [] [.bool fun _ => hasB l v] [] := by
  refine fnS [] [4] Try.func73 rfl (by decide) rfl (by decide) (by kernel_rfl) rfl (by simp [Try.ntmps73]) ?_
  cbv
  refine loopP (by kernel_rfl) (fun k : Int => 0 ≤ k ∧ k ≤ l.length ∧ ∀ j : Int, 0 ≤ j → j < k → (!decide (v = getI .int l j)) = true) (fun k => [(5, .int fun _ => k)]) (fun _ => []) (fun k => (l.length - k).toNat) (· + 1) 0 (by grind) ?_ ?_
  · cbv
    (simp only [IfP_iff, EqU_iff, Obl_iff, and_true, true_and, inI_iff, decide_eq_true_eq, decide_eq_false_iff_not]; (try simp only [natc, at2_0, at2_1]); (try dsimp only [Ty.den]); try simp only [natc] at *)
  · intro k hk
    have h1 : 0 ≤ k → k < (l.length : Int) → getI .int l k = v → hasB l v = true := fun a b c => hasB_iff.2 (c ▸ List.mem_of_getElem? (getI_get (t := .int) a b))
    have h2 : ¬ k < (l.length : Int) → hasB l v = false := fun a => by
      cases h : hasB l v with
      | false => rfl
      | true =>
        obtain ⟨j, j0, j1, j2⟩ := mem_at (hasB_iff.1 h)
        have := hk.2.2 j j0 (by omega)
        rw [j2] at this
        simp at this
    have h3 := upTo (p := fun j => !decide (v = getI .int l j)) hk.2.2
    cbv
    ((try simp only [IfP_iff, and_true, true_and, decide_eq_true_eq, decide_eq_false_iff_not]); (try simp only [natc, at2_0, at2_1]); (try dsimp only [Ty.den]); (try simp only [natc] at *); (repeat' (first | apply And.intro | intro _)))
    all_goals (try (simp only [IfP_iff, EqU_iff, Obl_iff, and_true, true_and, inI_iff, decide_eq_true_eq, decide_eq_false_iff_not]; (try simp only [natc, at2_0, at2_1]); (try dsimp only [Ty.den]); try simp only [natc] at *))
    all_goals ((repeat' (first | apply And.intro | intro _)) <;> first | omega | (simp only [List.length_append, List.length_cons, List.length_nil]; omega) | grind)
def notB (s : List Int) (x : Int) : Bool := !hasB s x
end Go.Proofs.Ythogfineaeklpaa.M

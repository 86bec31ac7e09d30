/- slices.IndexFunc and ContainsFunc over numbers, with a method's value. -/
import Derived.Test.YtoejmijcikehdaaSiQ
namespace Go.Proofs.Ytoejmijcikehdaa.M
open Go.RowKit Abs
set_option linter.unusedSimpArgs false
set_option linter.unusedVariables false
set_option maxRecDepth 100000
set_option maxHeartbeats 4000000
theorem go_indexFB (f : FuncId) (c : Unit → CapR) (q : Int → Bool) (l : List Int) (hl : l.length ≤ 1048576) (hf : ∀ x ∈ l, FnB Try.prog tab f c [.int fun _ => x] [.bool fun _ => q x]) :
    Spec2 Try.prog 141 [.sl .int fun _ => l, .fnr f c] [] [.int fun _ => findI l q] [] := by
  refine fnS [] [4] Try.func141 rfl (by decide) rfl (by decide) (by kernel_rfl) rfl (by simp [Try.ntmps141]) ?_
  cbv
  refine loopP (by kernel_rfl) (fun k : Int => 0 ≤ k ∧ k ≤ l.length ∧ ∀ j : Int, 0 ≤ j → j < k → q (getI .int l j) = false) (fun k => [(8, .int fun _ => k)]) (fun _ => []) (fun k => (l.length - k).toNat) (· + 1) 0 (by grind) ?_ ?_
  · cbv
    (simp only [IfP_iff, EqU_iff, Obl_iff, and_true, true_and, inI_iff, decide_eq_true_eq, decide_eq_false_iff_not]; (try simp only [natc, at2_0, at2_1]); (try dsimp only [Ty.den]); try simp only [natc] at *)
  · intro k hk
    have h1 := findI_hit (l := l) (q := q) (k := k)
    have h2 := findI_none (l := l) (q := q)
    have h3 := upTo (p := fun j => !q (getI .int l j)) (k := k) (by simpa using hk.2.2)
    simp only [Bool.not_eq_true'] at h3
    have h4 : 0 ≤ k → k < (l.length : Int) → getI .int l k ∈ l := fun a b => List.mem_of_getElem? (getI_get (t := .int) a b)
    cbv
    ((try simp only [IfP_iff, and_true, true_and, decide_eq_true_eq, decide_eq_false_iff_not]); (try simp only [natc, at2_0, at2_1]); (try dsimp only [Ty.den]); (try simp only [natc] at *); (repeat' (first | apply And.intro | intro _)))
    repeat' (first | ((refine call_fnB (hf _ (h4 hk.1 (by assumption))) (by cbv) ?_); cbv; ((try simp only [IfP_iff, and_true, true_and, decide_eq_true_eq, decide_eq_false_iff_not]); (try simp only [natc, at2_0, at2_1]); (try dsimp only [Ty.den]); (try simp only [natc] at *); (repeat' (first | apply And.intro | intro _)))))
    all_goals (try clear hf)
    all_goals (try (simp only [IfP_iff, EqU_iff, Obl_iff, and_true, true_and, inI_iff, decide_eq_true_eq, decide_eq_false_iff_not]; (try simp only [natc, at2_0, at2_1]); (try dsimp only [Ty.den]); try simp only [natc] at *))
    all_goals ((repeat' (first | apply And.intro | intro _)) <;> first | omega | (simp only [List.length_append, List.length_cons, List.length_nil]; omega) | grind)
theorem go_containsFB (f : FuncId) (c : Unit → CapR) (q : Int → Bool) (l : List Int) (hl : l.length ≤ 1048576) (hf : ∀ x ∈ l, FnB Try.prog tab f c [.int fun _ => x] [.bool fun _ => q x]) :
    Spec2 Try.prog 134 [.sl .int fun _ => l, .fnr f c] [] [.bool fun _ => l.any q] [] := by
  have h1 := findI_any l q
  refine fnS [] [4] Try.func134 rfl (by decide) rfl (by decide) (by kernel_rfl) rfl (by simp [Try.ntmps134]) ?_
  cbv
  ((first | refine call_q (go_indexFB f c q l hl hf) (by cbv) ?_ | refine call_pure (go_indexFB f c q l hl hf) (by cbv) ?_); cbv; ((try simp only [IfP_iff, and_true, true_and, decide_eq_true_eq, decide_eq_false_iff_not]); (try simp only [natc, at2_0, at2_1]); (try dsimp only [Ty.den]); (try simp only [natc] at *); (repeat' (first | apply And.intro | intro _))))
  (simp only [IfP_iff, EqU_iff, Obl_iff, and_true, true_and, inI_iff, decide_eq_true_eq, decide_eq_false_iff_not]; (try simp only [natc, at2_0, at2_1]); (try dsimp only [Ty.den]); try simp only [natc] at *)
  grind
end Go.Proofs.Ytoejmijcikehdaa.M

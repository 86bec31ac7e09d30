/- A list of numbers is copied. -/
import Derived.Test.YthogfineaeklpaaQg
import Derived.Test.YthogfineaeklpaaQe
namespace Go.Proofs.Ythogfineaeklpaa.M
open Go.RowKit Abs
set_option linter.unusedSimpArgs false
set_option linter.unusedVariables false
set_option maxRecDepth 100000
set_option maxHeartbeats 4000000
theorem copy_set {l : List Int} {k : Int} (h0 : 0 ≤ k) (h1 : k < (l.length : Int)) : setI (l.take k.toNat ++ List.replicate (l.length - k.toNat) 0) k (getI .int l k) = l.take (k + 1).toNat ++ List.replicate (l.length - (k + 1).toNat) 0 := by
  rw [take_getI (t := .int) h0 h1]
  have e : l.length - k.toNat = (l.length - (k + 1).toNat) + 1 := by omega
  rw [e, List.replicate_succ]
  unfold setI
  rw [List.set_append_right _ _ (by rw [List.length_take]; omega)]
  have e2 : k.toNat - (l.take k.toNat).length = 0 := by rw [List.length_take]; omega
  rw [e2, List.set_cons_zero, List.append_assoc]
  rfl
theorem la_toInts (l : List Int) (hl : l.length ≤ 1048576) : Spec2 Try.prog 18 [.sl .int fun _ => l] [] [.ref 0] [some (.row 3 .int fun _ => l)] := by
  refine fnS [0] [2] Try.func18 rfl (by decide) rfl (by decide) (by kernel_rfl) rfl (by simp [Try.ntmps18]) ?_
  cbv
  ((try simp only [IfP_iff, and_true, true_and, decide_eq_true_eq, decide_eq_false_iff_not]); (try simp only [natc, at2_0, at2_1]); (try dsimp only [Ty.den]); (try simp only [natc] at *); (repeat' (first | apply And.intro | intro _)))
  · (simp only [IfP_iff, EqU_iff, Obl_iff, and_true, true_and, inI_iff, decide_eq_true_eq, decide_eq_false_iff_not]; (try simp only [natc, at2_0, at2_1]); (try dsimp only [Ty.den]); try simp only [natc] at *)
    omega
  refine loopP (by kernel_rfl) (fun k : Int => 0 ≤ k ∧ k ≤ l.length) (fun k => [(4, .int fun _ => k)]) (fun k => [(0, some (.row 3 .int fun _ => l.take k.toNat ++ List.replicate (l.length - k.toNat) 0))]) (fun k => (l.length - k).toNat) (· + 1) 0 (by simp) ?_ ?_
  · cbv
    (simp only [IfP_iff, EqU_iff, Obl_iff, and_true, true_and, inI_iff, decide_eq_true_eq, decide_eq_false_iff_not]; (try simp only [natc, at2_0, at2_1]); (try dsimp only [Ty.den]); try simp only [natc] at *)
    simp
    exact .inr rfl
  · intro k hk
    have h1 := copy_set (l := l) (k := k)
    have h2 := take_all (l := l) (i := k)
    have h3 : ¬ k < (l.length : Int) → List.replicate (l.length - k.toNat) (0 : Int) = [] := fun h => by rw [show l.length - k.toNat = 0 by omega]; rfl
    have h4 : (l.take k.toNat ++ List.replicate (l.length - k.toNat) (0 : Int)).length = l.length := by simp; omega
    cbv
    ((try simp only [IfP_iff, and_true, true_and, decide_eq_true_eq, decide_eq_false_iff_not]); (try simp only [natc, at2_0, at2_1]); (try dsimp only [Ty.den]); (try simp only [natc] at *); (repeat' (first | apply And.intro | intro _)))
    all_goals (try (simp only [IfP_iff, EqU_iff, Obl_iff, and_true, true_and, inI_iff, decide_eq_true_eq, decide_eq_false_iff_not]; (try simp only [natc, at2_0, at2_1]); (try dsimp only [Ty.den]); try simp only [natc] at *))
    all_goals ((repeat' (first | apply And.intro | intro _)) <;> first | omega | (simp only [List.length_append, List.length_cons, List.length_nil]; omega) | grind)
end Go.Proofs.Ythogfineaeklpaa.M

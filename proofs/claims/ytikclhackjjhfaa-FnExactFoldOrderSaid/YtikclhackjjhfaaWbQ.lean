/- The numbers below n. -/
import Derived.Test.YtikclhackjjhfaaPfQ
import Derived.Test.YtikclhackjjhfaaQg
namespace Go.Proofs.Ytikclhackjjhfaa.M
open Go.RowKit Abs
set_option linter.unusedSimpArgs false
set_option linter.unusedVariables false
set_option maxRecDepth 100000
set_option maxHeartbeats 4000000
theorem im_below (n : Int) (h0 : 0 ≤ n) (h1 : n ≤ 1048576) : Spec2 Try.prog 58 [.int fun _ => n] [] [.ref 0] [some (.row 3 .int fun _ => pref (fun _ => true) n.toNat)] := by
  refine fnS [0] [2] Try.func58 rfl (by decide) rfl (by decide) (by kernel_rfl) rfl (by simp [Try.ntmps58]) ?_
  cbv
  refine loopP (by kernel_rfl) (fun k : Int => 0 ≤ k ∧ k ≤ n) (fun k => [(7, .int fun _ => k), (3, .ref 0), (5, .junk), (4, .junk)]) (fun k => [(0, some (.row 3 .int fun _ => pref (fun _ => true) k.toNat))]) (fun k => (n - k).toNat) (· + 1) 0 (by omega) ?_ ?_
  · cbv
    (simp only [IfP_iff, EqU_iff, Obl_iff, and_true, true_and, inI_iff, decide_eq_true_eq, decide_eq_false_iff_not]; (try simp only [natc, getI_gi, at2_0, at2_1]); (try dsimp only [Ty.den]); try simp only [natc] at *)
    simp [pref]
  · intro k hk
    have b1 := pref_next (p := fun _ => true) hk.1
    have b2 := pref_len (p := fun _ => true) hk.1
    have b3 : ¬ k < n → pref (fun _ => true) k.toNat = pref (fun _ => true) n.toNat := fun h => by rw [show k = n by omega]
    simp only [if_true] at b1
    cbv
    ((try simp only [IfP_iff, and_true, true_and, decide_eq_true_eq, decide_eq_false_iff_not]); (try simp only [natc, getI_gi, at2_0, at2_1]); (try dsimp only [Ty.den]); (try simp only [natc] at *); (repeat' (first | apply And.intro | intro _)))
    all_goals (try (simp only [IfP_iff, EqU_iff, Obl_iff, and_true, true_and, inI_iff, decide_eq_true_eq, decide_eq_false_iff_not]; (try simp only [natc, getI_gi, at2_0, at2_1]); (try dsimp only [Ty.den]); try simp only [natc] at *))
    all_goals ((repeat' (first | apply And.intro | intro _)) <;> first | omega | (exact b3 (by assumption)) | (exact b1.symm) | (rw [List.length_cons, List.length_nil]; omega) | trace_state)
end Go.Proofs.Ytikclhackjjhfaa.M

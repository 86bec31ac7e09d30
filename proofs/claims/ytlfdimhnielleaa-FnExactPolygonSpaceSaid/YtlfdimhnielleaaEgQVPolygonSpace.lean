/- FanBound: both sides. -/
import Derived.Test.YtlfdimhnielleaaEdQVPolygonSpace
import Derived.Test.YtlfdimhnielleaaEbQVPolygonSpace
import Derived.Test.YtlfdimhnielleaaQgVPolygonSpace
namespace Go.Proofs.Ytlfdimhnielleaa.M
open Go.RowKit Abs
set_option linter.unusedSimpArgs false
set_option linter.unusedVariables false
set_option maxRecDepth 100000
set_option maxHeartbeats 4000000
theorem im_cm (a b : List Int) (ha : a.length ≤ 1048576) (hb : b.length ≤ 1048576) : Spec2 Try.prog 64 [.sl .int fun _ => a, .sl .int fun _ => b] [] [.int fun _ => cntB a (fun x => !hasB b x) a.length] [] := by
  refine fnS [] [4] Try.func64 rfl (by decide) rfl (by decide) (by kernel_rfl) rfl (by simp [Try.ntmps64]) ?_
  cbv
  refine loopP (by kernel_rfl) (fun k : Int => 0 ≤ k ∧ k ≤ a.length) (fun k => [(10, .int fun _ => k), (5, .int fun _ => cntB a (fun x => !hasB b x) k.toNat), (7, .junk)]) (fun _ => []) (fun k => (a.length - k).toNat) (· + 1) 0 (by omega) ?_ ?_
  · cbv
    (simp only [IfP_iff, EqU_iff, Obl_iff, and_true, true_and, inI_iff, decide_eq_true_eq, decide_eq_false_iff_not]; (try simp only [natc, getI_gi, at2_0, at2_1]); (try dsimp only [Ty.den]); try simp only [natc] at *)
    simp [cntB]
  · intro k hk
    have h1 := fun h => cntB_next (l := a) (p := fun x => !hasB b x) (k := k) hk.1 h
    have h2 := cntB_in a (fun x => !hasB b x) k.toNat
    have h3 : ¬ k < (a.length : Int) → cntB a (fun x => !hasB b x) k.toNat = cntB a (fun x => !hasB b x) a.length := fun h => by rw [show k.toNat = a.length by omega]
    have h4 : k < (a.length : Int) → (!hasB b (gi a k)) = true → cntB a (fun x => !hasB b x) (k + 1).toNat = cntB a (fun x => !hasB b x) k.toNat + 1 := fun h e => by rw [h1 h, if_pos e]
    have h5 : k < (a.length : Int) → (!hasB b (gi a k)) = false → cntB a (fun x => !hasB b x) (k + 1).toNat = cntB a (fun x => !hasB b x) k.toNat := fun h e => by rw [h1 h, if_neg (by rw [e]; decide)]; omega
    clear h1
    cbv
    ((try simp only [IfP_iff, and_true, true_and, decide_eq_true_eq, decide_eq_false_iff_not]); (try simp only [natc, getI_gi, at2_0, at2_1]); (try dsimp only [Ty.den]); (try simp only [natc] at *); (repeat' (first | apply And.intro | intro _)))
    all_goals (repeat' (first | ((first | refine call_q (go_contains b (gi a k) hb) (by cbv) ?_ | refine call_pure (go_contains b (gi a k) hb) (by cbv) ?_); cbv; ((try simp only [IfP_iff, and_true, true_and, decide_eq_true_eq, decide_eq_false_iff_not]); (try simp only [natc, getI_gi, at2_0, at2_1]); (try dsimp only [Ty.den]); (try simp only [natc] at *); (repeat' (first | apply And.intro | intro _))))))
    all_goals (try ((try simp only [IfP_iff, and_true, true_and, decide_eq_true_eq, decide_eq_false_iff_not]); (try simp only [natc, getI_gi, at2_0, at2_1]); (try dsimp only [Ty.den]); (try simp only [natc] at *); (repeat' (first | apply And.intro | intro _))))
    all_goals (try (simp only [IfP_iff, EqU_iff, Obl_iff, and_true, true_and, inI_iff, decide_eq_true_eq, decide_eq_false_iff_not]; (try simp only [natc, getI_gi, at2_0, at2_1]); (try dsimp only [Ty.den]); try simp only [natc] at *))
    all_goals ((repeat' (first | apply And.intro | intro _)) <;> first | omega | (exact h3 (by assumption)) | (have q := h4 (by assumption) (by assumption); omega) | (have q := h5 (by assumption) (by assumption); omega) | trace_state)
def fbV (n : Int) (a b : List Int) (c : Int) : Int := 2 * (n - 3) - atN a c - atN b c
def minTo (n : Int) (a b : List Int) (s : Int) : Nat → Int
  | 0 => s
  | k + 1 => min (minTo n a b s k) (fbV n a b k)
def fbR (n : Int) (a b : List Int) : Int := if vv n a b = true then minTo n a b (2 * (n - 3)) n.toNat else 0
end Go.Proofs.Ytlfdimhnielleaa.M

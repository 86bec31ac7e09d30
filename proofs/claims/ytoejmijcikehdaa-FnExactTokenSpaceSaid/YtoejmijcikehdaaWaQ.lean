/- The places at which two lists differ: the program. -/
import Derived.Test.YtoejmijcikehdaaPfQ
import Derived.Test.YtoejmijcikehdaaQg
namespace Go.Proofs.Ytoejmijcikehdaa.M
open Go.RowKit Abs
set_option linter.unusedSimpArgs false
set_option linter.unusedVariables false
set_option maxRecDepth 100000
set_option maxHeartbeats 4000000
def apB (a b : List Int) (k : Int) : Bool := !decide (gi a k = gi b k)
def apL (a b : List Int) : List Int := pref (apB a b) a.length
theorem apL_len (a b : List Int) : (apL a b).length ≤ a.length := by
  unfold apL
  have := pref_len (p := apB a b) (k := (a.length : Int)) (by omega)
  rw [Int.toNat_natCast] at this
  omega
theorem im_apart (a b : List Int) (ha : a.length ≤ 1048576) (hb : b.length = a.length) : Spec2 Try.prog 84 [.sl .int fun _ => a, .sl .int fun _ => b] [] [.ref 0] [some (.row 3 .int fun _ => apL a b)] := by
  refine fnS [0] [4] Try.func84 rfl (by decide) rfl (by decide) (by kernel_rfl) rfl (by simp [Try.ntmps84]) ?_
  cbv
  refine loopP (by kernel_rfl) (fun k : Int => 0 ≤ k ∧ k ≤ a.length) (fun k => [(10, .int fun _ => k), (5, .ref 0), (7, .junk)]) (fun k => [(0, some (.row 3 .int fun _ => pref (apB a b) k.toNat))]) (fun k => (a.length - k).toNat) (· + 1) 0 (by omega) ?_ ?_
  · cbv
    (simp only [IfP_iff, EqU_iff, Obl_iff, and_true, true_and, inI_iff, decide_eq_true_eq, decide_eq_false_iff_not]; (try simp only [natc, getI_gi, at2_0, at2_1]); (try dsimp only [Ty.den]); try simp only [natc] at *)
    simp [pref]
  · intro k hk
    have h1 := pref_next (p := apB a b) hk.1
    have h2 := pref_len (p := apB a b) hk.1
    have h3 : ¬ k < (a.length : Int) → pref (apB a b) k.toNat = apL a b := fun h => by unfold apL; rw [show k.toNat = a.length by omega]
    have h4 : apB a b k = !decide (gi a k = gi b k) := rfl
    cbv
    ((try simp only [IfP_iff, and_true, true_and, decide_eq_true_eq, decide_eq_false_iff_not]); (try simp only [natc, getI_gi, at2_0, at2_1]); (try dsimp only [Ty.den]); (try simp only [natc] at *); (repeat' (first | apply And.intro | intro _)))
    all_goals (try (simp only [IfP_iff, EqU_iff, Obl_iff, and_true, true_and, inI_iff, decide_eq_true_eq, decide_eq_false_iff_not]; (try simp only [natc, getI_gi, at2_0, at2_1]); (try dsimp only [Ty.den]); try simp only [natc] at *))
    all_goals ((repeat' (first | apply And.intro | intro _)) <;> first | omega | (simp only [List.length_append, List.length_cons, List.length_nil]; omega) | grind)
end Go.Proofs.Ytoejmijcikehdaa.M

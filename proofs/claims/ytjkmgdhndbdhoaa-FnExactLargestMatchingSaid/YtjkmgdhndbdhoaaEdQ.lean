/- EarsOf: both sides. -/
import Derived.Test.YtjkmgdhndbdhoaaEaQ
import Derived.Test.YtjkmgdhndbdhoaaPfQ
import Derived.Test.YtjkmgdhndbdhoaaQg
namespace Go.Proofs.Ytjkmgdhndbdhoaa.M
open Go.RowKit Abs
set_option linter.unusedSimpArgs false
set_option linter.unusedVariables false
set_option maxRecDepth 100000
set_option maxHeartbeats 4000000
def someAt (l : List Int) (c : Int) : Bool := l.any fun x => atB x c
theorem im_below (n : Int) (h0 : 0 ≤ n) (h1 : n ≤ 1048576) : Spec2 Try.prog 85 [.int fun _ => n] [] [.ref 0] [some (.row 3 .int fun _ => pref (fun _ => true) n.toNat)] := by
  refine fnS [0] [2] Try.func85 rfl (by decide) rfl (by decide) (by kernel_rfl) rfl (by simp [Try.ntmps85]) ?_
  cbv
  refine loopP (by kernel_rfl) (fun k : Int => 0 ≤ k ∧ k ≤ n) (fun k => [(7, .int fun _ => k), (3, .ref 0), (5, .junk), (4, .junk)]) (fun k => [(0, some (.row 3 .int fun _ => pref (fun _ => true) k.toNat))]) (fun k => (n - k).toNat) (· + 1) 0 (by omega) ?_ ?_
  · cbv
    (simp only [IfP_iff, EqU_iff, Obl_iff, and_true, true_and, inI_iff, decide_eq_true_eq, decide_eq_false_iff_not]; (try simp only [natc, getI_gi, at2_0, at2_1]); (try dsimp only [Ty.den]); try simp only [natc] at *)
    simp [pref]
  · intro k hk
    have b1 := pref_next (p := fun _ => true) hk.1
    have b2 := pref_len (p := fun _ => true) hk.1
    have b3 : ¬ k < n → pref (fun _ => true) k.toNat = pref (fun _ => true) n.toNat := fun h => by rw [show k = n by omega]
    simp only [if_true] at b1
    cbv
    ((try simp only [IfP_iff, and_true, true_and, decide_eq_true_eq, decide_eq_false_iff_not]); (try simp only [natc, getI_gi, at2_0, at2_1]); (try dsimp only [Ty.den]); (try simp only [natc] at *); (repeat' (first | apply And.intro | intro _)))
    all_goals (try (simp only [IfP_iff, EqU_iff, Obl_iff, and_true, true_and, inI_iff, decide_eq_true_eq, decide_eq_false_iff_not]; (try simp only [natc, getI_gi, at2_0, at2_1]); (try dsimp only [Ty.den]); try simp only [natc] at *))
    all_goals ((repeat' (first | apply And.intro | intro _)) <;> first | omega | (exact b3 (by assumption)) | (exact b1.symm) | (rw [List.length_cons, List.length_nil]; omega) | trace_state)
def earL (n : Int) (l : List Int) : List Int := pref (fun c => !someAt l c) n.toNat
def earR (n : Int) (l : List Int) : List Int := if triV n l = true then earL n l else []
theorem ear_below (n : Int) (l : List Int) : ((pref (fun _ => true) n.toNat).filter fun c => !someAt l c) = earL n l := by
  unfold earL pref
  rw [List.filter_filter]
  simp
def atN (l : List Int) (c : Int) : Int := cntB l (fun x => atB x c) l.length
theorem at_zero (l : List Int) (c : Int) : atN l c = 0 ↔ someAt l c = false := by
  unfold atN cntB someAt
  rw [List.take_length, List.any_eq_false]
  have : ((l.filter fun x => atB x c).length : Int) = 0 ↔ l.filter (fun x => atB x c) = [] := by
    rw [← List.length_eq_zero_iff]; omega
  rw [this, List.filter_eq_nil_iff]
theorem ear_le (n : Int) (l : List Int) (hl : l.length ≤ 1048576) : (earR n l).length ≤ 1048576 := by
  unfold earR
  split
  · rename_i h
    have := triV_poly h
    have := pref_len (p := fun c => !someAt l c) (k := n) (by omega)
    unfold earL
    omega
  · simp
end Go.Proofs.Ytjkmgdhndbdhoaa.M

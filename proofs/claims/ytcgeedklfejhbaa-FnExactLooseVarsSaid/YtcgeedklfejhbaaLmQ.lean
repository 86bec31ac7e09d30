/- Formulas in laws: marks. -/
import Derived.Test.YtcgeedklfejhbaaIfQ
import Derived.Test.YtcgeedklfejhbaaQe
import Derived.Test.YtcgeedklfejhbaaQc
namespace Go.Proofs.Ytcgeedklfejhbaa.M
open Go.RowKit Abs
set_option linter.unusedSimpArgs false
set_option linter.unusedVariables false
set_option maxRecDepth 100000
set_option maxHeartbeats 4000000
theorem rowsLeft_all : ∀ (L : List (List Int)) (k : Int), 0 ≤ k → 0 ≤ rowsLeft L k → totR L ≤ k
  | [], k, h, _ => by simpa [totR] using h
  | r :: L, k, h, h2 => by
    unfold rowsLeft at h2
    by_cases hr : (r.length : Int) ≤ k
    · rw [if_pos hr] at h2
      have := rowsLeft_all L (k - r.length) (by omega) h2
      simp only [totR]
      omega
    · rw [if_neg hr] at h2
      omega
theorem la_markFormula (n : Int) (L : List (List Int)) (k0 : Int) (h0 : 0 ≤ k0) (h1 : k0 + totR L ≤ 1000000000) (hl : L.length ≤ 1048576) (hm : ∀ k : Int, 0 ≤ k → k < L.length → (getR .int L k).length ≤ 1048576) : Spec2 Try.prog 19 [.cells [.int fun _ => n, .ref 0], .int fun _ => k0] [some (.rows 25 3 .int fun _ => L)] [.int fun _ => k0 + totR L] [some (.rows 25 3 .int fun _ => mrk k0 L)] := by
  refine fnS [0] [4] Try.func19 rfl (by decide) rfl (by decide) (by kernel_rfl) rfl (by simp [Try.ntmps19]) ?_
  cbv
  (refine call_own 0 (la_markRows L k0 h0 h1 hl hm) (by cbv) (by cbv; simp only [or_true, true_or, and_true]) ?_; cbv; ((try simp only [IfP_iff, and_true, true_and, decide_eq_true_eq, decide_eq_false_iff_not]); (try simp only [natc, getI_gi, at2_0, at2_1]); (try dsimp only [Ty.den]); (try simp only [natc] at *); (repeat' (first | apply And.intro | intro _))))
  all_goals (try (simp only [IfP_iff, EqU_iff, Obl_iff, and_true, true_and, inI_iff, decide_eq_true_eq, decide_eq_false_iff_not]; (try simp only [natc, getI_gi, at2_0, at2_1]); (try dsimp only [Ty.den]); try simp only [natc] at *))
theorem la_heldFormula (n : Int) (X L : List (List Int)) (k0 : Int) (hx : X = mrk k0 L) (h0 : 0 ≤ k0) (h1 : k0 + totR L ≤ 1000000000) (hl : L.length ≤ 1048576) (hm : ∀ k : Int, 0 ≤ k → k < L.length → (getR .int L k).length ≤ 1048576) : Spec2 Try.prog 21 [.cells [.int fun _ => n, .sl (.sl .int) fun _ => X], .int fun _ => k0] [] [.int fun _ => k0 + totR L] [] := by
  have g := totR_nn L
  refine fnS [] [4] Try.func21 rfl (by decide) rfl (by decide) (by kernel_rfl) rfl (by simp [Try.ntmps21]) ?_
  cbv
  repeat' (first | ((first | refine call_q (la_heldRows X L k0 hx h0 h1 hl hm) (by cbv) ?_ | refine call_pure (la_heldRows X L k0 hx h0 h1 hl hm) (by cbv) ?_); cbv; ((try simp only [IfP_iff, and_true, true_and, decide_eq_true_eq, decide_eq_false_iff_not]); (try simp only [natc, getI_gi, at2_0, at2_1]); (try dsimp only [Ty.den]); (try simp only [natc] at *); (repeat' (first | apply And.intro | intro _)))))
  all_goals (try (simp only [IfP_iff, EqU_iff, Obl_iff, and_true, true_and, inI_iff, decide_eq_true_eq, decide_eq_false_iff_not]; (try simp only [natc, getI_gi, at2_0, at2_1]); (try dsimp only [Ty.den]); try simp only [natc] at *))
  all_goals ((repeat' (first | apply And.intro | intro _)) <;> first | omega | (simp only [List.length_append, List.length_cons, List.length_nil]; omega) | grind)
end Go.Proofs.Ytcgeedklfejhbaa.M

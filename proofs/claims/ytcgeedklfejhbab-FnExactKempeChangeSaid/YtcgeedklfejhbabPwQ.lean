/- Palettes with a colouring; the colours that a node can have instead of its own: the program. -/
import Derived.Test.YtcgeedklfejhbabRgQ
import Derived.Test.YtcgeedklfejhbabPjQ
import Derived.Test.YtcgeedklfejhbabPfQ
import Derived.Test.YtcgeedklfejhbabQc
namespace Go.Proofs.Ytcgeedklfejhbab.M
open Go.RowKit Abs
set_option linter.unusedSimpArgs false
set_option linter.unusedVariables false
set_option maxRecDepth 100000
set_option maxHeartbeats 4000000
def givB (n : Int) (l : List (Int × Int)) (k : Int) (cs : List Int) : Bool := palB n l k && properB n k l cs
theorem im_palWith_bad (n : Int) (l : List (Int × Int)) (k : Int) (cs : List Int) (hl : l.length ≤ 1048576) (hc : cs.length ≤ 1048576) (hb : givB n l k cs = false) : Spec2 Try.prog 84 [.agg (.pr .int (.sl (.pr .int .int))) fun _ => (n, l), .int fun _ => k, .sl .int fun _ => cs] [] [.cells [.nilsl, .int fun _ => 0], .agg (.ar 7 .int) fun _ => List.replicate 8 (0 : Int), .bool fun _ => false] [] := by
  refine fnG [.cst 6 2 90, .car 7 8 91, .tmp 8] Try.func84 rfl (by decide) rfl (by kernel_rfl) (.inr (.inr rfl)) (by kernel_rfl) (Nat.zero_le _) (by simp [Try.ntmps84]) ?_
  cbv
  cases hp : palB n l k with
  | false =>
    repeat' (first | ((first | refine call_q (im_pal_bad n k l hl hp) (by cbv) ?_ | refine call_pure (im_pal_bad n k l hl hp) (by cbv) ?_); cbv; ((try simp only [IfP_iff, and_true, true_and, decide_eq_true_eq, decide_eq_false_iff_not]); (try simp only [natc, getI_gi, at2_0, at2_1]); (try dsimp only [Ty.den]); (try simp only [natc] at *); (repeat' (first | apply And.intro | intro _)))))
    all_goals (try (simp only [IfP_iff, EqU_iff, Obl_iff, and_true, true_and, inI_iff, decide_eq_true_eq, decide_eq_false_iff_not]; (try simp only [natc, getI_gi, at2_0, at2_1]); (try dsimp only [Ty.den]); try simp only [natc] at *))
    · refine EndG.plain [] ?_
      cbv
      (simp only [IfP_iff, EqU_iff, Obl_iff, and_true, true_and, inI_iff, decide_eq_true_eq, decide_eq_false_iff_not]; (try simp only [natc, getI_gi, at2_0, at2_1]); (try dsimp only [Ty.den]); try simp only [natc] at *)
      rfl
    · exact absurd (by assumption : (!false) = false) (by decide)
  | true =>
    have hg : graphOk n l = true := by unfold palB at hp; simp only [Bool.and_eq_true] at hp; exact hp.1
    have e1 := hold_eq (k := k) (cs := cs) hg
    obtain ⟨k1, k2, k3⟩ := near_ok hg hl
    repeat' (first | ((first | refine call_q (im_pal_ok n k l hl hp) (by cbv) ?_ | refine call_pure (im_pal_ok n k l hl hp) (by cbv) ?_); cbv; ((try simp only [IfP_iff, and_true, true_and, decide_eq_true_eq, decide_eq_false_iff_not]); (try simp only [natc, getI_gi, at2_0, at2_1]); (try dsimp only [Ty.den]); (try simp only [natc] at *); (repeat' (first | apply And.intro | intro _)))) | ((first | refine call_q (Spec2.agg (t := .pr (.sl (.sl .int)) .int) (x := fun _ => (nearR l n, k)) (im_holds (nearR l n) k cs k2 k3 hc)) (by cbv) ?_ | refine call_pure (Spec2.agg (t := .pr (.sl (.sl .int)) .int) (x := fun _ => (nearR l n, k)) (im_holds (nearR l n) k cs k2 k3 hc)) (by cbv) ?_); cbv; ((try simp only [IfP_iff, and_true, true_and, decide_eq_true_eq, decide_eq_false_iff_not]); (try simp only [natc, getI_gi, at2_0, at2_1]); (try dsimp only [Ty.den]); (try simp only [natc] at *); (repeat' (first | apply And.intro | intro _)))))
    all_goals (try (simp only [IfP_iff, EqU_iff, Obl_iff, and_true, true_and, inI_iff, decide_eq_true_eq, decide_eq_false_iff_not]; (try simp only [natc, getI_gi, at2_0, at2_1]); (try dsimp only [Ty.den]); try simp only [natc] at *))
    · exact absurd (by assumption : (!true) = true) (by decide)
    · refine EndG.plain [] ?_
      cbv
      (simp only [IfP_iff, EqU_iff, Obl_iff, and_true, true_and, inI_iff, decide_eq_true_eq, decide_eq_false_iff_not]; (try simp only [natc, getI_gi, at2_0, at2_1]); (try dsimp only [Ty.den]); try simp only [natc] at *)
      rfl
    · exfalso
      unfold givB at hb
      simp_all
theorem im_palWith_ok (n : Int) (l : List (Int × Int)) (k : Int) (cs : List Int) (hl : l.length ≤ 1048576) (hc : cs.length ≤ 1048576) (hb : givB n l k cs = true) : Spec2 Try.prog 84 [.agg (.pr .int (.sl (.pr .int .int))) fun _ => (n, l), .int fun _ => k, .sl .int fun _ => cs] [] [.cells [.ref 0, .int fun _ => k], .agg (.ar 7 .int) fun _ => paintL cs, .bool fun _ => true] [some (.rows 25 3 .int fun _ => nearR l n)] := by
  unfold givB at hb
  simp only [Bool.and_eq_true] at hb
  obtain ⟨hp, hq⟩ := hb
  have hg : graphOk n l = true := by unfold palB at hp; simp only [Bool.and_eq_true] at hp; exact hp.1
  have e1 := hold_eq (k := k) (cs := cs) hg
  obtain ⟨k1, k2, k3⟩ := near_ok hg hl
  refine fnG [.cst 6 2 90, .car 7 8 91, .tmp 8] Try.func84 rfl (by decide) rfl (by kernel_rfl) (.inr (.inr rfl)) (by kernel_rfl) (Nat.zero_le _) (by simp [Try.ntmps84]) ?_
  cbv
  repeat' (first | ((first | refine call_q (im_pal_ok n k l hl hp) (by cbv) ?_ | refine call_pure (im_pal_ok n k l hl hp) (by cbv) ?_); cbv; ((try simp only [IfP_iff, and_true, true_and, decide_eq_true_eq, decide_eq_false_iff_not]); (try simp only [natc, getI_gi, at2_0, at2_1]); (try dsimp only [Ty.den]); (try simp only [natc] at *); (repeat' (first | apply And.intro | intro _)))) | ((first | refine call_q (Spec2.agg (t := .pr (.sl (.sl .int)) .int) (x := fun _ => (nearR l n, k)) (im_holds (nearR l n) k cs k2 k3 hc)) (by cbv) ?_ | refine call_pure (Spec2.agg (t := .pr (.sl (.sl .int)) .int) (x := fun _ => (nearR l n, k)) (im_holds (nearR l n) k cs k2 k3 hc)) (by cbv) ?_); cbv; ((try simp only [IfP_iff, and_true, true_and, decide_eq_true_eq, decide_eq_false_iff_not]); (try simp only [natc, getI_gi, at2_0, at2_1]); (try dsimp only [Ty.den]); (try simp only [natc] at *); (repeat' (first | apply And.intro | intro _)))) | ((first | refine call_q (im_paintingOf cs hc) (by cbv) ?_ | refine call_pure (im_paintingOf cs hc) (by cbv) ?_); cbv; ((try simp only [IfP_iff, and_true, true_and, decide_eq_true_eq, decide_eq_false_iff_not]); (try simp only [natc, getI_gi, at2_0, at2_1]); (try dsimp only [Ty.den]); (try simp only [natc] at *); (repeat' (first | apply And.intro | intro _)))))
  all_goals (try (simp only [IfP_iff, EqU_iff, Obl_iff, and_true, true_and, inI_iff, decide_eq_true_eq, decide_eq_false_iff_not]; (try simp only [natc, getI_gi, at2_0, at2_1]); (try dsimp only [Ty.den]); try simp only [natc] at *))
  · exact absurd (by assumption : (!true) = true) (by decide)
  · exfalso
    simp_all
  · refine EndG.plain [3] ?_
    cbv
    (simp only [IfP_iff, EqU_iff, Obl_iff, and_true, true_and, inI_iff, decide_eq_true_eq, decide_eq_false_iff_not]; (try simp only [natc, getI_gi, at2_0, at2_1]); (try dsimp only [Ty.den]); try simp only [natc] at *)
def chB (L : List (List Int)) (P : List Int) (x c : Int) : Bool := !decide (c = gi P x) && !amongB P (getR .int L x) c
end Go.Proofs.Ytcgeedklfejhbab.M

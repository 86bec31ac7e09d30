/- Palettes with a colouring; the colours that a node can have instead of its own: the program. -/
import Derived.Test.YtjmpfcpicgjceaaRgQ
import Derived.Test.YtjmpfcpicgjceaaPjQ
import Derived.Test.YtjmpfcpicgjceaaPfQ
import Derived.Test.YtjmpfcpicgjceaaQc
namespace Go.Proofs.Ytjmpfcpicgjceaa.M
open Go.RowKit Abs
set_option linter.unusedSimpArgs false
set_option linter.unusedVariables false
set_option maxRecDepth 100000
set_option maxHeartbeats 4000000
def givB (n : Int) (l : List (Int × Int)) (k : Int) (cs : List Int) : Bool := palB n l k && properB n k l cs
theorem im_palWith_bad (n : Int) (l : List (Int × Int)) (k : Int) (cs : List Int) (hl : l.length ≤ 1048576) (hc : cs.length ≤ 1048576) (hb : givB n l k cs = false) : Spec2 Try.prog 81 [.agg (.pr .int (.sl (.pr .int .int))) fun _ => (n, l), .int fun _ => k, .sl .int fun _ => cs] [] [.cells [.nilsl, .int fun _ => 0], .agg (.ar 7 .int) fun _ => List.replicate 8 (0 : Int), .bool fun _ => false] [] := by
  refine fnG [.cst 6 2 81, .car 7 8 83, .tmp 8] Try.func81 rfl (by decide) rfl (by kernel_rfl) (.inr (.inr rfl)) (by kernel_rfl) (Nat.zero_le _) (by simp [Try.ntmps81]) ?_
  cbv
  cases hp : palB n l k with
  | false =>
    repeat' (first | ((first | refine call_q (im_pal_bad n k l hl hp) (by cbv) ?_ | refine call_pure (im_pal_bad n k l hl hp) (by cbv) ?_); cbv; ((try simp only [IfP_iff, and_true, true_and, decide_eq_true_eq, decide_eq_false_iff_not]); (try simp only [natc, getI_gi, at2_0, at2_1]); (try dsimp only [Ty.den]); (try simp only [natc] at *); (repeat' (first | apply And.intro | intro _)))))
    all_goals (try (simp only [IfP_iff, EqU_iff, Obl_iff, and_true, true_and, inI_iff, decide_eq_true_eq, decide_eq_false_iff_not]; (try simp only [natc, getI_gi, at2_0, at2_1]); (try dsimp only [Ty.den]); try simp only [natc] at *))
    · refine EndG.plain [] ?_
      cbv
      (simp only [IfP_iff, EqU_iff, Obl_iff, and_true, true_and, inI_iff, decide_eq_true_eq, decide_eq_false_iff_not]; (try simp only [natc, getI_gi, at2_0, at2_1]); (try dsimp only [Ty.den]); try simp only [natc] at *)
      rfl
    · exact absurd (by assumption : (!false) = false) (by decide)
  | true =>
    have hg : graphOk n l = true := by unfold palB at hp; simp only [Bool.and_eq_true] at hp; exact hp.1
    have e1 := hold_eq (k := k) (cs := cs) hg
    obtain ⟨k1, k2, k3⟩ := near_ok hg hl
    repeat' (first | ((first | refine call_q (im_pal_ok n k l hl hp) (by cbv) ?_ | refine call_pure (im_pal_ok n k l hl hp) (by cbv) ?_); cbv; ((try simp only [IfP_iff, and_true, true_and, decide_eq_true_eq, decide_eq_false_iff_not]); (try simp only [natc, getI_gi, at2_0, at2_1]); (try dsimp only [Ty.den]); (try simp only [natc] at *); (repeat' (first | apply And.intro | intro _)))) | ((first | refine call_q (Spec2.agg (t := .pr (.sl (.sl .int)) .int) (x := fun _ => (nearR l n, k)) (im_holds (nearR l n) k cs k2 k3 hc)) (by cbv) ?_ | refine call_pure (Spec2.agg (t := .pr (.sl (.sl .int)) .int) (x := fun _ => (nearR l n, k)) (im_holds (nearR l n) k cs k2 k3 hc)) (by cbv) ?_); cbv; ((try simp only [IfP_iff, and_true, true_and, decide_eq_true_eq, decide_eq_false_iff_not]); (try simp only [natc, getI_gi, at2_0, at2_1]); (try dsimp only [Ty.den]); (try simp only [natc] at *); (repeat' (first | apply And.intro | intro _)))))
    all_goals (try (simp only [IfP_iff, EqU_iff, Obl_iff, and_true, true_and, inI_iff, decide_eq_true_eq, decide_eq_false_iff_not]; (try simp only [natc, getI_gi, at2_0, at2_1]); (try dsimp only [Ty.den]); try simp only [natc] at *))
    · exact absurd (by assumption : (!true) = true) (by decide)
    · refine EndG.plain [] ?_
      cbv
      (simp only [IfP_iff, EqU_iff, Obl_iff, and_true, true_and, inI_iff, decide_eq_true_eq, decide_eq_false_iff_not]; (try simp only [natc, getI_gi, at2_0, at2_1]); (try dsimp only [Ty.den]); try simp only [natc] at *)
      rfl
    · exfalso
      unfold givB at hb
      simp_all
theorem im_palWith_ok (n : Int) (l : List (Int × Int)) (k : Int) (cs : List Int) (hl : l.length ≤ 1048576) (hc : cs.length ≤ 1048576) (hb : givB n l k cs = true) : Spec2 Try.prog 81 [.agg (.pr .int (.sl (.pr .int .int))) fun _ => (n, l), .int fun _ => k, .sl .int fun _ => cs] [] [.cells [.ref 0, .int fun _ => k], .agg (.ar 7 .int) fun _ => paintL cs, .bool fun _ => true] [some (.rows 25 3 .int fun _ => nearR l n)] := by
  unfold givB at hb
  simp only [Bool.and_eq_true] at hb
  obtain ⟨hp, hq⟩ := hb
  have hg : graphOk n l = true := by unfold palB at hp; simp only [Bool.and_eq_true] at hp; exact hp.1
  have e1 := hold_eq (k := k) (cs := cs) hg
  obtain ⟨k1, k2, k3⟩ := near_ok hg hl
  refine fnG [.cst 6 2 81, .car 7 8 83, .tmp 8] Try.func81 rfl (by decide) rfl (by kernel_rfl) (.inr (.inr rfl)) (by kernel_rfl) (Nat.zero_le _) (by simp [Try.ntmps81]) ?_
  cbv
  repeat' (first | ((first | refine call_q (im_pal_ok n k l hl hp) (by cbv) ?_ | refine call_pure (im_pal_ok n k l hl hp) (by cbv) ?_); cbv; ((try simp only [IfP_iff, and_true, true_and, decide_eq_true_eq, decide_eq_false_iff_not]); (try simp only [natc, getI_gi, at2_0, at2_1]); (try dsimp only [Ty.den]); (try simp only [natc] at *); (repeat' (first | apply And.intro | intro _)))) | ((first | refine call_q (Spec2.agg (t := .pr (.sl (.sl .int)) .int) (x := fun _ => (nearR l n, k)) (im_holds (nearR l n) k cs k2 k3 hc)) (by cbv) ?_ | refine call_pure (Spec2.agg (t := .pr (.sl (.sl .int)) .int) (x := fun _ => (nearR l n, k)) (im_holds (nearR l n) k cs k2 k3 hc)) (by cbv) ?_); cbv; ((try simp only [IfP_iff, and_true, true_and, decide_eq_true_eq, decide_eq_false_iff_not]); (try simp only [natc, getI_gi, at2_0, at2_1]); (try dsimp only [Ty.den]); (try simp only [natc] at *); (repeat' (first | apply And.intro | intro _)))) | ((first | refine call_q (im_paintingOf cs hc) (by cbv) ?_ | refine call_pure (im_paintingOf cs hc) (by cbv) ?_); cbv; ((try simp only [IfP_iff, and_true, true_and, decide_eq_true_eq, decide_eq_false_iff_not]); (try simp only [natc, getI_gi, at2_0, at2_1]); (try dsimp only [Ty.den]); (try simp only [natc] at *); (repeat' (first | apply And.intro | intro _)))))
  all_goals (try (simp only [IfP_iff, EqU_iff, Obl_iff, and_true, true_and, inI_iff, decide_eq_true_eq, decide_eq_false_iff_not]; (try simp only [natc, getI_gi, at2_0, at2_1]); (try dsimp only [Ty.den]); try simp only [natc] at *))
  · exact absurd (by assumption : (!true) = true) (by decide)
  · exfalso
    simp_all
  · refine EndG.plain [3] ?_
    cbv
    (simp only [IfP_iff, EqU_iff, Obl_iff, and_true, true_and, inI_iff, decide_eq_true_eq, decide_eq_false_iff_not]; (try simp only [natc, getI_gi, at2_0, at2_1]); (try dsimp only [Ty.den]); try simp only [natc] at *)
def chB (L : List (List Int)) (P : List Int) (x c : Int) : Bool := !decide (c = gi P x) && !amongB P (getR .int L x) c
theorem im_choices (L : List (List Int)) (k : Int) (P : List Int) (x : Int) (hL : L.length ≤ 8) (hk0 : 0 ≤ k) (hk : k ≤ 5) (hP : P.length = 8) (hr : ∀ v ∈ getR .int L x, 0 ≤ v ∧ v < 8) (hl : (getR .int L x).length ≤ 1048576) (x0 : 0 ≤ x) (x1 : x < L.length) : Spec2 Try.prog 82 [.cells [.sl (.sl .int) fun _ => L, .int fun _ => k], .agg (.ar 7 .int) fun _ => P, .int fun _ => x] [] [.ref 0] [some (.row 3 .int fun _ => pref (chB L P x) k.toNat)] := by
  refine fnS [2] [6] Try.func82 rfl (by decide) rfl (by decide) (by kernel_rfl) rfl (by simp [Try.ntmps82]) ?_
  cbv
  refine loopP (by kernel_rfl) (fun c : Int => 0 ≤ c ∧ c ≤ k) (fun c => [(12, .int fun _ => c), (7, .ref 2), (9, .junk)]) (fun c => [(2, some (.row 3 .int fun _ => pref (chB L P x) c.toNat))]) (fun c => (k - c).toNat) (· + 1) 0 (by omega) ?_ ?_
  · cbv
    (simp only [IfP_iff, EqU_iff, Obl_iff, and_true, true_and, inI_iff, decide_eq_true_eq, decide_eq_false_iff_not]; (try simp only [natc, getI_gi, at2_0, at2_1]); (try dsimp only [Ty.den]); try simp only [natc] at *)
    simp [pref]
  · intro c hc
    have h1 := pref_next (p := chB L P x) (k := c)
    have h2 := pref_len (p := chB L P x) (k := c)
    have h3 : ¬ c < k → c.toNat = k.toNat := by omega
    have h4 : chB L P x c = (!decide (c = gi P x) && !amongB P (getR .int L x) c) := rfl
    cbv
    ((try simp only [IfP_iff, and_true, true_and, decide_eq_true_eq, decide_eq_false_iff_not]); (try simp only [natc, getI_gi, at2_0, at2_1]); (try dsimp only [Ty.den]); (try simp only [natc] at *); (repeat' (first | apply And.intro | intro _)))
    all_goals (repeat' (first | ((first | refine call_q (im_among P (getR .int L x) c hP hr hl) (by cbv) ?_ | refine call_pure (im_among P (getR .int L x) c hP hr hl) (by cbv) ?_); cbv; ((try simp only [IfP_iff, and_true, true_and, decide_eq_true_eq, decide_eq_false_iff_not]); (try simp only [natc, getI_gi, at2_0, at2_1]); (try dsimp only [Ty.den]); (try simp only [natc] at *); (repeat' (first | apply And.intro | intro _))))))
    all_goals (try clear hr)
    all_goals (try (simp only [IfP_iff, EqU_iff, Obl_iff, and_true, true_and, inI_iff, decide_eq_true_eq, decide_eq_false_iff_not]; (try simp only [natc, getI_gi, at2_0, at2_1]); (try dsimp only [Ty.den]); try simp only [natc] at *))
    all_goals ((repeat' (first | apply And.intro | intro _)) <;> first | omega | (simp only [List.length_append, List.length_cons, List.length_nil]; omega) | grind)
end Go.Proofs.Ytjmpfcpicgjceaa.M

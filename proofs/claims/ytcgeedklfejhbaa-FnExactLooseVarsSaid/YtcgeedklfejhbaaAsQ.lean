/- Assignments: a struct of a number and an array of numbers, in the program. -/
import Derived.Test.YtcgeedklfejhbaaRgQ
import Derived.Test.YtcgeedklfejhbaaIgQ
import Derived.Test.YtcgeedklfejhbaaQc
namespace Go.Proofs.Ytcgeedklfejhbaa.M
open Go.RowKit Abs
set_option linter.unusedSimpArgs false
set_option linter.unusedVariables false
set_option maxRecDepth 100000
set_option maxHeartbeats 4000000
def padN (r : List Int) : List Int := r ++ List.replicate (6 - r.length) 0
def bitsB (r : List Int) : Bool := !r.any (outI 2)
def asgB (n : Int) (r : List Int) : Bool := decide ((r.length : Int) = n) && decide (n ≤ 6) && bitsB r
def asgV (n : Int) (r : List Int) : Int × List Int := if asgB n r = true then (n, padN r) else (0, List.replicate 6 0)
theorem asgB_in {n : Int} {r : List Int} (h : asgB n r = true) : (r.length : Int) = n ∧ n ≤ 6 ∧ ∀ x ∈ r, x = 0 ∨ x = 1 := by
  unfold asgB bitsB at h
  simp only [Bool.and_eq_true, decide_eq_true_eq, Bool.not_eq_true', List.any_eq_false] at h
  refine ⟨h.1.1, h.1.2, fun x hx => ?_⟩
  have := h.2 x hx
  unfold outI at this
  simp only [Bool.not_eq_true', Bool.and_eq_false_iff, decide_eq_false_iff_not, not_or, Decidable.not_not] at this
  omega
theorem padN_len {r : List Int} (h : r.length ≤ 6) : (padN r).length = 6 := by
  unfold padN
  rw [List.length_append, List.length_replicate]
  omega
theorem pad_copy {n : Int} {r : List Int} (h : r.length ≤ 6) : cpy (n :: List.replicate 6 0) r 1 (1 + 6) = n :: padN r := by
  unfold cpy padN
  have e : (List.take ((1 : Int) + 6 - 1).toNat r) = r := List.take_of_length_le (by show r.length ≤ 6; exact h)
  rw [e]
  show [n] ++ r ++ List.drop (min (1 + r.length) 7) (n :: List.replicate 6 0) = _
  rw [show min (1 + r.length) 7 = r.length + 1 by omega, List.drop_succ_cons, List.drop_replicate]
  rfl
theorem im_areBits1 (x : Int) : Spec2 Try.prog 96 [.int fun _ => x] [] [.bool fun _ => outI 2 x] [] := by
  have h9 : outI 2 x = !(decide (0 ≤ x) && decide (x < 2)) := rfl
  refine fnS [] [2] Try.func96 rfl (by decide) rfl (by decide) (by kernel_rfl) rfl (by simp [Try.ntmps96]) ?_
  cbv
  repeat' (first | ((first | refine call_q (im_isIndex _ _) (by cbv) ?_ | refine call_pure (im_isIndex _ _) (by cbv) ?_); cbv; ((try simp only [IfP_iff, and_true, true_and, decide_eq_true_eq, decide_eq_false_iff_not]); (try simp only [natc, getI_gi, at2_0, at2_1]); (try dsimp only [Ty.den]); (try simp only [natc] at *); (repeat' (first | apply And.intro | intro _)))))
  all_goals (try (simp only [IfP_iff, EqU_iff, Obl_iff, and_true, true_and, inI_iff, decide_eq_true_eq, decide_eq_false_iff_not]; (try simp only [natc, getI_gi, at2_0, at2_1]); (try dsimp only [Ty.den]); try simp only [natc] at *))
  all_goals ((repeat' (first | apply And.intro | intro _)) <;> first | omega | (simp only [List.length_append, List.length_cons, List.length_nil]; omega) | grind)
theorem im_areBits (r : List Int) (hr : r.length ≤ 1048576) : Spec2 Try.prog 64 [.sl .int fun _ => r] [] [.bool fun _ => bitsB r] [] := by
  have h9 : bitsB r = !r.any (outI 2) := rfl
  refine fnS [] [2] Try.func64 rfl (by decide) rfl (by decide) (by kernel_rfl) rfl (by simp [Try.ntmps64]) ?_
  cbv
  repeat' (first | ((first | refine call_q (go_containsF 96 (fun _ => ofCaps []) (outI 2) r hr fun x hx => ⟨_, rfl, fun _ => rfl, im_areBits1 x⟩) (by cbv) ?_ | refine call_pure (go_containsF 96 (fun _ => ofCaps []) (outI 2) r hr fun x hx => ⟨_, rfl, fun _ => rfl, im_areBits1 x⟩) (by cbv) ?_); cbv; ((try simp only [IfP_iff, and_true, true_and, decide_eq_true_eq, decide_eq_false_iff_not]); (try simp only [natc, getI_gi, at2_0, at2_1]); (try dsimp only [Ty.den]); (try simp only [natc] at *); (repeat' (first | apply And.intro | intro _)))))
  all_goals (try (simp only [IfP_iff, EqU_iff, Obl_iff, and_true, true_and, inI_iff, decide_eq_true_eq, decide_eq_false_iff_not]; (try simp only [natc, getI_gi, at2_0, at2_1]); (try dsimp only [Ty.den]); try simp only [natc] at *))
  all_goals ((repeat' (first | apply And.intro | intro _)) <;> first | omega | (simp only [List.length_append, List.length_cons, List.length_nil]; omega) | grind)
theorem im_asgOf (n : Int) (r : List Int) (hr : r.length ≤ 1048576) : Spec2 Try.prog 68 [.sl .int fun _ => r, .int fun _ => n] [] [.agg (.pr .int (.ar 5 .int)) fun _ => asgV n r, .bool fun _ => asgB n r] [] := by
  have h8 : asgB n r = _ := rfl
  conv at h8 => rhs; unfold asgB
  have h9 : asgV n r = _ := rfl
  conv at h9 => rhs; unfold asgV
  refine fnG [.csq 4 5 73, .tmp 5] Try.func68 rfl (by decide) rfl (by kernel_rfl) (.inr (.inl rfl)) (by kernel_rfl) (Nat.zero_le _) (by simp [Try.ntmps68]) ?_
  cbv
  ((try simp only [IfP_iff, and_true, true_and, decide_eq_true_eq, decide_eq_false_iff_not]); (try simp only [natc, getI_gi, at2_0, at2_1]); (try dsimp only [Ty.den]); (try simp only [natc] at *); (repeat' (first | apply And.intro | intro _)))
  all_goals (repeat' (first | ((first | refine call_q (im_areBits r hr) (by cbv) ?_ | refine call_pure (im_areBits r hr) (by cbv) ?_); cbv; ((try simp only [IfP_iff, and_true, true_and, decide_eq_true_eq, decide_eq_false_iff_not]); (try simp only [natc, getI_gi, at2_0, at2_1]); (try dsimp only [Ty.den]); (try simp only [natc] at *); (repeat' (first | apply And.intro | intro _))))))
  all_goals (try (simp only [IfP_iff, EqU_iff, Obl_iff, and_true, true_and, inI_iff, decide_eq_true_eq, decide_eq_false_iff_not]; (try simp only [natc, getI_gi, at2_0, at2_1]); (try dsimp only [Ty.den]); try simp only [natc] at *))
  iterate 3
    · refine EndG.plain [] ?_
      cbv
      (simp only [IfP_iff, EqU_iff, Obl_iff, and_true, true_and, inI_iff, decide_eq_true_eq, decide_eq_false_iff_not]; (try simp only [natc, getI_gi, at2_0, at2_1]); (try dsimp only [Ty.den]); try simp only [natc] at *)
      have hb : asgB n r = false := by rw [h8]; grind
      rw [h9, hb]
      exact ⟨rfl, rfl⟩
  · rfl
  have hb : asgB n r = true := by rw [h8]; grind
  have hl : r.length ≤ 6 := by have := (asgB_in hb).1; have := (asgB_in hb).2.1; omega
  refine EndG.plain [] ?_
  cbv
  (simp only [IfP_iff, EqU_iff, Obl_iff, and_true, true_and, inI_iff, decide_eq_true_eq, decide_eq_false_iff_not]; (try simp only [natc, getI_gi, at2_0, at2_1]); (try dsimp only [Ty.den]); try simp only [natc] at *)
  have e := pad_copy (n := n) hl
  rw [h9, hb, if_pos rfl]
  refine ⟨?_, rfl⟩
  show (gi (gi (cpy (n :: List.replicate 6 0) r 1 (1 + 6)) 0 :: List.drop 1 (cpy (n :: List.replicate 6 0) r 1 (1 + 6))) 0, List.drop 1 (gi (cpy (n :: List.replicate 6 0) r 1 (1 + 6)) 0 :: List.drop 1 (cpy (n :: List.replicate 6 0) r 1 (1 + 6)))) = (n, padN r)
  rw [e]
  rfl
end Go.Proofs.Ytcgeedklfejhbaa.M

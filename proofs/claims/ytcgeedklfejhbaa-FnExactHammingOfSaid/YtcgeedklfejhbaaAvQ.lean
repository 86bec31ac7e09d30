/- The Hamming distance: both sides. -/
import Derived.Test.YtcgeedklfejhbaaAuQ
import Derived.Test.YtcgeedklfejhbaaPfQ
import Derived.Test.YtcgeedklfejhbaaQc
namespace Go.Proofs.Ytcgeedklfejhbaa.M
open Go.RowKit Abs
set_option linter.unusedSimpArgs false
set_option linter.unusedVariables false
set_option maxRecDepth 100000
set_option maxHeartbeats 4000000
def apB (a b : List Int) (k : Int) : Bool := !decide (gi a k = gi b k)
def apL (a b : List Int) : List Int := pref (apB a b) a.length
theorem apL_len (a b : List Int) : (apL a b).length ≤ a.length := by
  unfold apL
  have := pref_len (p := apB a b) (k := (a.length : Int)) (by omega)
  rw [Int.toNat_natCast] at this
  omega
theorem im_apart (a b : List Int) (ha : a.length ≤ 1048576) (hb : b.length = a.length) : Spec2 Try.prog 71 [.sl .int fun _ => a, .sl .int fun _ => b] [] [.ref 0] [some (.row 3 .int fun _ => apL a b)] := by
  refine fnS [0] [4] Try.func71 rfl (by decide) rfl (by decide) (by kernel_rfl) rfl (by simp [Try.ntmps71]) ?_
  cbv
  refine loopP (by kernel_rfl) (fun k : Int => 0 ≤ k ∧ k ≤ a.length) (fun k => [(10, .int fun _ => k), (5, .ref 0), (7, .junk)]) (fun k => [(0, some (.row 3 .int fun _ => pref (apB a b) k.toNat))]) (fun k => (a.length - k).toNat) (· + 1) 0 (by omega) ?_ ?_
  · cbv
    (simp only [IfP_iff, EqU_iff, Obl_iff, and_true, true_and, inI_iff, decide_eq_true_eq, decide_eq_false_iff_not]; (try simp only [natc, getI_gi, at2_0, at2_1]); (try dsimp only [Ty.den]); try simp only [natc] at *)
    simp [pref]
  · intro k hk
    have h1 := pref_next (p := apB a b) hk.1
    have h2 := pref_len (p := apB a b) hk.1
    have h3 : ¬ k < (a.length : Int) → pref (apB a b) k.toNat = apL a b := fun h => by unfold apL; rw [show k.toNat = a.length by omega]
    have h4 : apB a b k = !decide (gi a k = gi b k) := rfl
    cbv
    ((try simp only [IfP_iff, and_true, true_and, decide_eq_true_eq, decide_eq_false_iff_not]); (try simp only [natc, getI_gi, at2_0, at2_1]); (try dsimp only [Ty.den]); (try simp only [natc] at *); (repeat' (first | apply And.intro | intro _)))
    all_goals (try (simp only [IfP_iff, EqU_iff, Obl_iff, and_true, true_and, inI_iff, decide_eq_true_eq, decide_eq_false_iff_not]; (try simp only [natc, getI_gi, at2_0, at2_1]); (try dsimp only [Ty.den]); try simp only [natc] at *))
    all_goals ((repeat' (first | apply And.intro | intro _)) <;> first | omega | (simp only [List.length_append, List.length_cons, List.length_nil]; omega) | grind)
theorem sp_apart (a b : List Int) (ha : a.length ≤ 1048576) (hb : b.length = a.length) : Spec2 Try.prog 70 [.sl .int fun _ => a, .sl .int fun _ => b] [] [.int fun _ => ((apL a b).length : Int)] [] := by
  refine fnS [] [4] Try.func70 rfl (by decide) rfl (by decide) (by kernel_rfl) rfl (by simp [Try.ntmps70]) ?_
  cbv
  refine loopP (by kernel_rfl) (fun k : Int => 0 ≤ k ∧ k ≤ a.length) (fun k => [(6, .int fun _ => k), (5, .int fun _ => ((pref (apB a b) k.toNat).length : Int))]) (fun _ => []) (fun k => (a.length - k).toNat) (· + 1) 0 (by omega) ?_ ?_
  · cbv
    (simp only [IfP_iff, EqU_iff, Obl_iff, and_true, true_and, inI_iff, decide_eq_true_eq, decide_eq_false_iff_not]; (try simp only [natc, getI_gi, at2_0, at2_1]); (try dsimp only [Ty.den]); try simp only [natc] at *)
    simp [pref]
  · intro k hk
    have h1 : (pref (apB a b) (k + 1).toNat).length = (pref (apB a b) k.toNat).length + if apB a b k = true then 1 else 0 := by
      rw [pref_next hk.1, List.length_append]
      split <;> rfl
    have h2 := pref_len (p := apB a b) hk.1
    have h3 : ¬ k < (a.length : Int) → pref (apB a b) k.toNat = apL a b := fun h => by unfold apL; rw [show k.toNat = a.length by omega]
    have h4 : apB a b k = !decide (gi a k = gi b k) := rfl
    cbv
    ((try simp only [IfP_iff, and_true, true_and, decide_eq_true_eq, decide_eq_false_iff_not]); (try simp only [natc, getI_gi, at2_0, at2_1]); (try dsimp only [Ty.den]); (try simp only [natc] at *); (repeat' (first | apply And.intro | intro _)))
    all_goals (try (simp only [IfP_iff, EqU_iff, Obl_iff, and_true, true_and, inI_iff, decide_eq_true_eq, decide_eq_false_iff_not]; (try simp only [natc, getI_gi, at2_0, at2_1]); (try dsimp only [Ty.den]); try simp only [natc] at *))
    all_goals ((repeat' (first | apply And.intro | intro _)) <;> first | omega | (simp only [List.length_append, List.length_cons, List.length_nil]; omega) | grind)
def hamB (a b : List Int) : Bool := asgB a.length a && asgB a.length b
def hamV (a b : List Int) : Int := if hamB a b = true then ((apL a b).length : Int) else 0
theorem ham_len {a b : List Int} (h : hamB a b = true) : b.length = a.length := by
  unfold hamB at h
  simp only [Bool.and_eq_true] at h
  have := (asgB_in h.2).1
  omega
theorem im_ham (a b : List Int) (ha : a.length ≤ 1048576) (hb : b.length ≤ 1048576) : Spec2 Try.prog 34 [.sl .int fun _ => a, .sl .int fun _ => b] [] [.int fun _ => hamV a b, .bool fun _ => hamB a b] [] := by
  have h9 : hamB a b = (asgB a.length a && asgB a.length b) := rfl
  have h8 : hamV a b = if hamB a b = true then ((apL a b).length : Int) else 0 := rfl
  cases hc : hamB a b with
  | false =>
    rw [hc] at h8 h9
    refine fnS [] [4, 5] Try.func34 rfl (by decide) rfl (by decide) (by kernel_rfl) rfl (by simp [Try.ntmps34]) ?_
    cbv
    ((try simp only [IfP_iff, and_true, true_and, decide_eq_true_eq, decide_eq_false_iff_not]); (try simp only [natc, getI_gi, at2_0, at2_1]); (try dsimp only [Ty.den]); (try simp only [natc] at *); (repeat' (first | apply And.intro | intro _)))
    all_goals (repeat' (first | ((first | refine call_q (im_asgOf a.length a ha) (by cbv) ?_ | refine call_pure (im_asgOf a.length a ha) (by cbv) ?_); cbv; ((try simp only [IfP_iff, and_true, true_and, decide_eq_true_eq, decide_eq_false_iff_not]); (try simp only [natc, getI_gi, at2_0, at2_1]); (try dsimp only [Ty.den]); (try simp only [natc] at *); (repeat' (first | apply And.intro | intro _)))) | ((first | refine call_q (im_asgOf a.length b hb) (by cbv) ?_ | refine call_pure (im_asgOf a.length b hb) (by cbv) ?_); cbv; ((try simp only [IfP_iff, and_true, true_and, decide_eq_true_eq, decide_eq_false_iff_not]); (try simp only [natc, getI_gi, at2_0, at2_1]); (try dsimp only [Ty.den]); (try simp only [natc] at *); (repeat' (first | apply And.intro | intro _))))))
    all_goals (try (simp only [IfP_iff, EqU_iff, Obl_iff, and_true, true_and, inI_iff, decide_eq_true_eq, decide_eq_false_iff_not]; (try simp only [natc, getI_gi, at2_0, at2_1]); (try dsimp only [Ty.den]); try simp only [natc] at *))
    all_goals ((repeat' (first | apply And.intro | intro _)) <;> first | omega | (simp only [List.length_append, List.length_cons, List.length_nil]; omega) | grind)
  | true =>
    rw [hc] at h8 h9
    have hl := ham_len hc
    refine fnS [] [4, 5] Try.func34 rfl (by decide) rfl (by decide) (by kernel_rfl) rfl (by simp [Try.ntmps34]) ?_
    cbv
    ((try simp only [IfP_iff, and_true, true_and, decide_eq_true_eq, decide_eq_false_iff_not]); (try simp only [natc, getI_gi, at2_0, at2_1]); (try dsimp only [Ty.den]); (try simp only [natc] at *); (repeat' (first | apply And.intro | intro _)))
    all_goals (repeat' (first | ((first | refine call_q (im_asgOf a.length a ha) (by cbv) ?_ | refine call_pure (im_asgOf a.length a ha) (by cbv) ?_); cbv; ((try simp only [IfP_iff, and_true, true_and, decide_eq_true_eq, decide_eq_false_iff_not]); (try simp only [natc, getI_gi, at2_0, at2_1]); (try dsimp only [Ty.den]); (try simp only [natc] at *); (repeat' (first | apply And.intro | intro _)))) | ((first | refine call_q (im_asgOf a.length b hb) (by cbv) ?_ | refine call_pure (im_asgOf a.length b hb) (by cbv) ?_); cbv; ((try simp only [IfP_iff, and_true, true_and, decide_eq_true_eq, decide_eq_false_iff_not]); (try simp only [natc, getI_gi, at2_0, at2_1]); (try dsimp only [Ty.den]); (try simp only [natc] at *); (repeat' (first | apply And.intro | intro _)))) | ((first | refine call_q (im_apart a b ha hl) (by cbv) ?_ | refine call_pure (im_apart a b ha hl) (by cbv) ?_); cbv; ((try simp only [IfP_iff, and_true, true_and, decide_eq_true_eq, decide_eq_false_iff_not]); (try simp only [natc, getI_gi, at2_0, at2_1]); (try dsimp only [Ty.den]); (try simp only [natc] at *); (repeat' (first | apply And.intro | intro _))))))
    all_goals (try (simp only [IfP_iff, EqU_iff, Obl_iff, and_true, true_and, inI_iff, decide_eq_true_eq, decide_eq_false_iff_not]; (try simp only [natc, getI_gi, at2_0, at2_1]); (try dsimp only [Ty.den]); try simp only [natc] at *))
    all_goals ((repeat' (first | apply And.intro | intro _)) <;> first | omega | (simp only [List.length_append, List.length_cons, List.length_nil]; omega) | grind)
theorem sp_ham (a b : List Int) (ha : a.length ≤ 1048576) (hb : b.length ≤ 1048576) : Spec2 Try.prog 33 [.sl .int fun _ => a, .sl .int fun _ => b] [] [.int fun _ => hamV a b, .bool fun _ => hamB a b] [] := by
  have h9 : hamB a b = (asgB a.length a && asgB a.length b) := rfl
  have h8 : hamV a b = if hamB a b = true then ((apL a b).length : Int) else 0 := rfl
  have h7 : ∀ r : List Int, asgB a.length r = (decide ((r.length : Int) = a.length) && decide ((a.length : Int) ≤ 6) && bitsB r) := fun _ => rfl
  have h6 := h7 a
  have h5 := h7 b
  clear h7
  cases hc : hamB a b with
  | false =>
    rw [hc] at h8 h9
    refine fnS [] [4, 5] Try.func33 rfl (by decide) rfl (by decide) (by kernel_rfl) rfl (by simp [Try.ntmps33]) ?_
    cbv
    ((try simp only [IfP_iff, and_true, true_and, decide_eq_true_eq, decide_eq_false_iff_not]); (try simp only [natc, getI_gi, at2_0, at2_1]); (try dsimp only [Ty.den]); (try simp only [natc] at *); (repeat' (first | apply And.intro | intro _)))
    all_goals (repeat' (first | ((first | refine call_q (sp_bits a.length a ha) (by cbv) ?_ | refine call_pure (sp_bits a.length a ha) (by cbv) ?_); cbv; ((try simp only [IfP_iff, and_true, true_and, decide_eq_true_eq, decide_eq_false_iff_not]); (try simp only [natc, getI_gi, at2_0, at2_1]); (try dsimp only [Ty.den]); (try simp only [natc] at *); (repeat' (first | apply And.intro | intro _)))) | ((first | refine call_q (sp_bits a.length b hb) (by cbv) ?_ | refine call_pure (sp_bits a.length b hb) (by cbv) ?_); cbv; ((try simp only [IfP_iff, and_true, true_and, decide_eq_true_eq, decide_eq_false_iff_not]); (try simp only [natc, getI_gi, at2_0, at2_1]); (try dsimp only [Ty.den]); (try simp only [natc] at *); (repeat' (first | apply And.intro | intro _))))))
    all_goals (try (simp only [IfP_iff, EqU_iff, Obl_iff, and_true, true_and, inI_iff, decide_eq_true_eq, decide_eq_false_iff_not]; (try simp only [natc, getI_gi, at2_0, at2_1]); (try dsimp only [Ty.den]); try simp only [natc] at *))
    all_goals ((repeat' (first | apply And.intro | intro _)) <;> first | omega | (simp only [List.length_append, List.length_cons, List.length_nil]; omega) | grind)
  | true =>
    rw [hc] at h8 h9
    have hl := ham_len hc
    refine fnS [] [4, 5] Try.func33 rfl (by decide) rfl (by decide) (by kernel_rfl) rfl (by simp [Try.ntmps33]) ?_
    cbv
    ((try simp only [IfP_iff, and_true, true_and, decide_eq_true_eq, decide_eq_false_iff_not]); (try simp only [natc, getI_gi, at2_0, at2_1]); (try dsimp only [Ty.den]); (try simp only [natc] at *); (repeat' (first | apply And.intro | intro _)))
    all_goals (repeat' (first | ((first | refine call_q (sp_bits a.length a ha) (by cbv) ?_ | refine call_pure (sp_bits a.length a ha) (by cbv) ?_); cbv; ((try simp only [IfP_iff, and_true, true_and, decide_eq_true_eq, decide_eq_false_iff_not]); (try simp only [natc, getI_gi, at2_0, at2_1]); (try dsimp only [Ty.den]); (try simp only [natc] at *); (repeat' (first | apply And.intro | intro _)))) | ((first | refine call_q (sp_bits a.length b hb) (by cbv) ?_ | refine call_pure (sp_bits a.length b hb) (by cbv) ?_); cbv; ((try simp only [IfP_iff, and_true, true_and, decide_eq_true_eq, decide_eq_false_iff_not]); (try simp only [natc, getI_gi, at2_0, at2_1]); (try dsimp only [Ty.den]); (try simp only [natc] at *); (repeat' (first | apply And.intro | intro _)))) | ((first | refine call_q (sp_apart a b ha hl) (by cbv) ?_ | refine call_pure (sp_apart a b ha hl) (by cbv) ?_); cbv; ((try simp only [IfP_iff, and_true, true_and, decide_eq_true_eq, decide_eq_false_iff_not]); (try simp only [natc, getI_gi, at2_0, at2_1]); (try dsimp only [Ty.den]); (try simp only [natc] at *); (repeat' (first | apply And.intro | intro _))))))
    all_goals (try (simp only [IfP_iff, EqU_iff, Obl_iff, and_true, true_and, inI_iff, decide_eq_true_eq, decide_eq_false_iff_not]; (try simp only [natc, getI_gi, at2_0, at2_1]); (try dsimp only [Ty.den]); try simp only [natc] at *))
    all_goals ((repeat' (first | apply And.intro | intro _)) <;> first | omega | (simp only [List.length_append, List.length_cons, List.length_nil]; omega) | grind)
end Go.Proofs.Ytcgeedklfejhbaa.M

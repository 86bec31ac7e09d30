/- The nodes that are not in a set, on both sides. -/
import Derived.Test.YtjmpfcpicgjceaaOsQ
namespace Go.Proofs.Ytjmpfcpicgjceaa.M
open Go.RowKit Abs
set_option linter.unusedSimpArgs false
set_option linter.unusedVariables false
set_option maxRecDepth 100000
set_option maxHeartbeats 4000000
theorem others_eq {n : Int} {s : List Int} (g0 : 0 ≤ n) (g1 : n ≤ 8) (h : ascB n s = true) : pref (bitB (bandn (1 * 2 ^ (min n.toNat 64) - 1) (nset s))) 8 = pref (notB s) n.toNat := by
  obtain ⟨k0, k1, k2⟩ := nset_bits (s := s) fun x hx => by have := asc_mem h x hx; omega
  have e : min n.toNat 64 = n.toNat := by omega
  have hp : 1 ≤ 2 ^ n.toNat := Nat.one_le_two_pow
  have key : ∀ x : Int, 0 ≤ x → x < 8 → bitB (bandn (1 * 2 ^ (min n.toNat 64) - 1) (nset s)) x = (decide (x < n) && notB s x) := fun x hx hx8 => by
    have h2 := k2 x hx
    unfold bitB at h2 ⊢
    unfold bandn notB
    rw [Int.toNat_natCast, Nat.testBit_and, ← h2]
    have e1 : ((1 : Int) * 2 ^ (min n.toNat 64) - 1).toNat = 2 ^ n.toNat - 1 := by
      rw [two_nat, e]
      omega
    have e2 : 18446744073709551615 - (nset s).toNat = 2 ^ 64 - ((nset s).toNat + 1) := by omega
    rw [e1, e2, Nat.testBit_two_pow_sub_one, Nat.testBit_two_pow_sub_succ (by omega)]
    rw [show decide (x.toNat < 64) = true by simp; omega, show decide (x.toNat < n.toNat) = decide (x < n) by rw [decide_eq_decide]; omega]
    simp
  rw [pref_more (k := n.toNat) (m := 8) (by omega) fun x a b => by rw [key x (by omega) (by omega)]; simp; omega]
  refine pref_congr fun x a b => ?_
  rw [key x a (by omega)]
  simp
  omega
def othR (n : Int) (l : List (Int × Int)) (s : List Int) : List Int := if (graphOk n l && ascB n s) = true then pref (notB s) n.toNat else []
theorem oth_len (n : Int) (l : List (Int × Int)) (s : List Int) : (othR n l s).length ≤ 1048576 := by
  unfold othR
  split
  · rename_i h
    simp only [graphOk, Bool.and_eq_true, decide_eq_true_eq] at h
    have := pref_len (p := notB s) (k := n) (by omega)
    omega
  · simp
theorem sp_other (n : Int) (l : List (Int × Int)) (s : List Int) (hl : l.length ≤ 1048576) (hs : s.length ≤ 1048576) : Spec2 Try.prog 27 [.agg (.pr .int (.sl (.pr .int .int))) fun _ => (n, l), .sl .int fun _ => s] [] [.ref 0, .bool fun _ => graphOk n l && ascB n s] [some (.row 3 .int fun _ => othR n l s)] := by
  have h1 : graphOk n l = true → 0 ≤ n ∧ n ≤ 8 := by simp [graphOk]; omega
  have h2 : othR n l s = _ := rfl
  conv at h2 => rhs; unfold othR
  refine fnS [1] [4, 5] Try.func27 rfl (by decide) rfl (by decide) (by kernel_rfl) rfl (by simp [Try.ntmps27]) ?_
  cbv
  ((try simp only [IfP_iff, and_true, true_and, decide_eq_true_eq, decide_eq_false_iff_not]); (try simp only [natc, at2_0, at2_1]); (try dsimp only [Ty.den]); (try simp only [natc] at *); (repeat' (first | apply And.intro | intro _)))
  all_goals (repeat' (first | ((first | refine call_q (sp_good n l hl) (by cbv) ?_ | refine call_pure (sp_good n l hl) (by cbv) ?_); cbv; ((try simp only [IfP_iff, and_true, true_and, decide_eq_true_eq, decide_eq_false_iff_not]); (try simp only [natc, at2_0, at2_1]); (try dsimp only [Ty.den]); (try simp only [natc] at *); (repeat' (first | apply And.intro | intro _)))) | ((first | refine call_q (sp_set n l s (by grind) (by grind) hs) (by cbv) ?_ | refine call_pure (sp_set n l s (by grind) (by grind) hs) (by cbv) ?_); cbv; ((try simp only [IfP_iff, and_true, true_and, decide_eq_true_eq, decide_eq_false_iff_not]); (try simp only [natc, at2_0, at2_1]); (try dsimp only [Ty.den]); (try simp only [natc] at *); (repeat' (first | apply And.intro | intro _)))) | ((first | refine call_q (sp_others n l s (by grind) (by grind) hs) (by cbv) ?_ | refine call_pure (sp_others n l s (by grind) (by grind) hs) (by cbv) ?_); cbv; ((try simp only [IfP_iff, and_true, true_and, decide_eq_true_eq, decide_eq_false_iff_not]); (try simp only [natc, at2_0, at2_1]); (try dsimp only [Ty.den]); (try simp only [natc] at *); (repeat' (first | apply And.intro | intro _))))))
  all_goals (try (simp only [IfP_iff, EqU_iff, Obl_iff, and_true, true_and, inI_iff, decide_eq_true_eq, decide_eq_false_iff_not]; (try simp only [natc, at2_0, at2_1]); (try dsimp only [Ty.den]); try simp only [natc] at *))
  all_goals ((repeat' (first | apply And.intro | intro _)) <;> first | omega | (simp only [List.length_append, List.length_cons, List.length_nil]; omega) | grind)
theorem im_other (n : Int) (l : List (Int × Int)) (s : List Int) (hl : l.length ≤ 1048576) (hs : s.length ≤ 1048576) : Spec2 Try.prog 28 [.agg (.pr .int (.sl (.pr .int .int))) fun _ => (n, l), .sl .int fun _ => s] [] [.ref 0, .bool fun _ => graphOk n l && ascB n s] [some (.row 3 .int fun _ => othR n l s)] := by
  have h1 : graphOk n l = true → 0 ≤ n ∧ n ≤ 8 := by simp [graphOk]; omega
  have h2 : othR n l s = _ := rfl
  conv at h2 => rhs; unfold othR
  have h3 : ∀ a b : Int, 0 ≤ bandn a b ∧ bandn a b ≤ 18446744073709551615 := fun a b => by
    unfold bandn
    have : a.toNat &&& (18446744073709551615 - b.toNat) ≤ 18446744073709551615 - b.toNat := Nat.and_le_right
    omega
  by_cases hb : (graphOk n l && ascB n s) = true
  case neg =>
    have hb2 : othR n l s = [] := by rw [h2, if_neg hb]
    refine fnS [1] [4, 5] Try.func28 rfl (by decide) rfl (by decide) (by kernel_rfl) rfl (by simp [Try.ntmps28]) ?_
    cbv
    ((try simp only [IfP_iff, and_true, true_and, decide_eq_true_eq, decide_eq_false_iff_not]); (try simp only [natc, at2_0, at2_1]); (try dsimp only [Ty.den]); (try simp only [natc] at *); (repeat' (first | apply And.intro | intro _)))
    all_goals (repeat' (first | ((first | refine call_q (im_graph n l hl) (by cbv) ?_ | refine call_pure (im_graph n l hl) (by cbv) ?_); cbv; ((try simp only [IfP_iff, and_true, true_and, decide_eq_true_eq, decide_eq_false_iff_not]); (try simp only [natc, at2_0, at2_1]); (try dsimp only [Ty.den]); (try simp only [natc] at *); (repeat' (first | apply And.intro | intro _)))) | ((first | refine call_q (im_areNodes n l s hs) (by cbv) ?_ | refine call_pure (im_areNodes n l s hs) (by cbv) ?_); cbv; ((try simp only [IfP_iff, and_true, true_and, decide_eq_true_eq, decide_eq_false_iff_not]); (try simp only [natc, at2_0, at2_1]); (try dsimp only [Ty.den]); (try simp only [natc] at *); (repeat' (first | apply And.intro | intro _))))))
    all_goals (try (exfalso; clear h3; grind))
    all_goals (try (simp only [IfP_iff, EqU_iff, Obl_iff, and_true, true_and, inI_iff, decide_eq_true_eq, decide_eq_false_iff_not]; (try simp only [natc, at2_0, at2_1]); (try dsimp only [Ty.den]); try simp only [natc] at *))
    all_goals ((repeat' (first | apply And.intro | intro _)) <;> first | omega | (simp only [List.length_append, List.length_cons, List.length_nil]; omega) | grind)
  have hb2 := hb
  rw [Bool.and_eq_true] at hb2
  obtain ⟨g0, g1⟩ := h1 hb2.1
  have h4 := others_eq g0 g1 hb2.2
  have h5 : othR n l s = pref (notB s) n.toNat := by rw [h2, if_pos hb]
  obtain ⟨k0, k1, _⟩ := nset_bits (s := s) fun x hx => by have := asc_mem hb2.2 x hx; omega
  have h6 : 1 ≤ (1 : Int) * 2 ^ (min n.toNat 64) ∧ (1 : Int) * 2 ^ (min n.toNat 64) ≤ 256 := by
    have e : min n.toNat 64 = n.toNat := by omega
    have hp : 2 ^ n.toNat ≤ 2 ^ 8 := Nat.pow_le_pow_right (by omega) (by omega)
    rw [two_nat, e]
    exact ⟨Int.ofNat_le.2 (show 1 ≤ 2 ^ n.toNat from Nat.one_le_two_pow), Int.ofNat_le.2 (show 2 ^ n.toNat ≤ 256 from hp)⟩
  rw [h5, ← h4]
  refine fnS [1] [4, 5] Try.func28 rfl (by decide) rfl (by decide) (by kernel_rfl) rfl (by simp [Try.ntmps28]) ?_
  cbv
  ((try simp only [IfP_iff, and_true, true_and, decide_eq_true_eq, decide_eq_false_iff_not]); (try simp only [natc, at2_0, at2_1]); (try dsimp only [Ty.den]); (try simp only [natc] at *); (repeat' (first | apply And.intro | intro _)))
  all_goals (repeat' (first | ((first | refine call_q (im_graph n l hl) (by cbv) ?_ | refine call_pure (im_graph n l hl) (by cbv) ?_); cbv; ((try simp only [IfP_iff, and_true, true_and, decide_eq_true_eq, decide_eq_false_iff_not]); (try simp only [natc, at2_0, at2_1]); (try dsimp only [Ty.den]); (try simp only [natc] at *); (repeat' (first | apply And.intro | intro _)))) | ((first | refine call_q (im_areNodes n l s hs) (by cbv) ?_ | refine call_pure (im_areNodes n l s hs) (by cbv) ?_); cbv; ((try simp only [IfP_iff, and_true, true_and, decide_eq_true_eq, decide_eq_false_iff_not]); (try simp only [natc, at2_0, at2_1]); (try dsimp only [Ty.den]); (try simp only [natc] at *); (repeat' (first | apply And.intro | intro _)))) | ((first | refine call_q (im_setOf s hs (fun x hx => by have := asc_mem hb2.2 x hx; omega)) (by cbv) ?_ | refine call_pure (im_setOf s hs (fun x hx => by have := asc_mem hb2.2 x hx; omega)) (by cbv) ?_); cbv; ((try simp only [IfP_iff, and_true, true_and, decide_eq_true_eq, decide_eq_false_iff_not]); (try simp only [natc, at2_0, at2_1]); (try dsimp only [Ty.den]); (try simp only [natc] at *); (repeat' (first | apply And.intro | intro _)))) | ((first | refine call_q (im_list _ (h3 _ _).1 (h3 _ _).2) (by cbv) ?_ | refine call_pure (im_list _ (h3 _ _).1 (h3 _ _).2) (by cbv) ?_); cbv; ((try simp only [IfP_iff, and_true, true_and, decide_eq_true_eq, decide_eq_false_iff_not]); (try simp only [natc, at2_0, at2_1]); (try dsimp only [Ty.den]); (try simp only [natc] at *); (repeat' (first | apply And.intro | intro _))))))
  all_goals (try (simp only [IfP_iff, EqU_iff, Obl_iff, and_true, true_and, inI_iff, decide_eq_true_eq, decide_eq_false_iff_not]; (try simp only [natc, at2_0, at2_1]); (try dsimp only [Ty.den]); try simp only [natc] at *))
  all_goals ((repeat' (first | apply And.intro | intro _)) <;> first | omega | (simp only [List.length_append, List.length_cons, List.length_nil]; omega) | grind)
end Go.Proofs.Ytjmpfcpicgjceaa.M

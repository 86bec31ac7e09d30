/- Variables that can be flipped: the specification. -/
import Derived.Test.YtcgeedklfejhbaaAwQ
import Derived.Test.YtcgeedklfejhbaaQc
namespace Go.Proofs.Ytcgeedklfejhbaa.M
open Go.RowKit Abs
set_option linter.unusedSimpArgs false
set_option linter.unusedVariables false
set_option maxRecDepth 100000
set_option maxHeartbeats 4000000
theorem pad_flip {r : List Int} {v : Int} (h0 : 0 ≤ v) (h1 : v < (r.length : Int)) (h6 : r.length ≤ 6) : padN (flipV r v) = flipV (padN r) v := by
  unfold flipV
  rw [gi_pad h0 h1]
  unfold padN setI
  rw [List.length_set, List.set_append_left _ _ (by omega)]
theorem asg_flip {n v : Int} {r : List Int} (h : asgB n r = true) (h0 : 0 ≤ v) (h1 : v < n) : asgB n (flipV r v) = true := by
  obtain ⟨a, b, c⟩ := asgB_in h
  have d := c _ (gi_mem (l := r) h0 (by omega))
  unfold asgB bitsB
  simp only [Bool.and_eq_true, decide_eq_true_eq, Bool.not_eq_true', List.any_eq_false]
  refine ⟨⟨by rw [flipV_len]; exact a, b⟩, fun x hx => ?_⟩
  have hx' : x = 0 ∨ x = 1 := by
    unfold flipV setI at hx
    rcases List.mem_or_eq_of_mem_set hx with hx | hx
    · exact c x hx
    · rw [hx]; rcases d with d | d <;> rw [d] <;> simp
  unfold outI
  rcases hx' with rfl | rfl <;> decide
theorem flip_sol {n v : Int} {L : List (List Int)} {r : List Int} (hf : formOk n L = true) (h : asgB n r = true) (h0 : 0 ≤ v) (h1 : v < n) : flipI L (padN r) v = solB L (flipV r v) := by
  have h2 := asgB_in h
  unfold flipI
  rw [← pad_flip h0 (by omega) (by omega)]
  exact sol_eq hf (asg_flip h h0 h1)
theorem sp_two (n : Int) (L : List (List Int)) (r : List Int) (hL : L.length ≤ 1048576) (hm : ∀ c ∈ L, c.length ≤ 1048576) (hx : ∀ c ∈ L, ∀ x ∈ c, inI x) (hr : r.length ≤ 1048576) : Spec2 Try.prog 72 [.agg (.pr .int (.sl (.sl .int))) fun _ => (n, L), .sl .int fun _ => r, .sl .int fun _ => r] [] [.bool fun _ => okS n L r] [] := by
  have h9 : okS n L r = (solR n L r && solB L r) := rfl
  have h8 := solR_sp (n := n) (L := L) (r := r)
  cases hs : solR n L r with
  | false =>
    rw [hs] at h8 h9
    rw [Bool.false_and] at h9
    refine fnS [] [6] Try.func72 rfl (by decide) rfl (by decide) (by kernel_rfl) rfl (by simp [Try.ntmps72]) ?_
    cbv
    ((try simp only [IfP_iff, and_true, true_and, decide_eq_true_eq, decide_eq_false_iff_not]); (try simp only [natc, getI_gi, at2_0, at2_1]); (try dsimp only [Ty.den]); (try simp only [natc] at *); (repeat' (first | apply And.intro | intro _)))
    all_goals (repeat' (first | ((first | refine call_q (Spec2.agg6 (t := (.pr .int (.sl (.sl .int)))) (x := fun _ => (n, L)) (sp_good6 n L hL hm)) (by cbv) ?_ | refine call_pure (Spec2.agg6 (t := (.pr .int (.sl (.sl .int)))) (x := fun _ => (n, L)) (sp_good6 n L hL hm)) (by cbv) ?_); cbv; ((try simp only [IfP_iff, and_true, true_and, decide_eq_true_eq, decide_eq_false_iff_not]); (try simp only [natc, getI_gi, at2_0, at2_1]); (try dsimp only [Ty.den]); (try simp only [natc] at *); (repeat' (first | apply And.intro | intro _)))) | ((first | refine call_q (sp_bits n r hr) (by cbv) ?_ | refine call_pure (sp_bits n r hr) (by cbv) ?_); cbv; ((try simp only [IfP_iff, and_true, true_and, decide_eq_true_eq, decide_eq_false_iff_not]); (try simp only [natc, getI_gi, at2_0, at2_1]); (try dsimp only [Ty.den]); (try simp only [natc] at *); (repeat' (first | apply And.intro | intro _))))))
    all_goals (try (simp only [IfP_iff, EqU_iff, Obl_iff, and_true, true_and, inI_iff, decide_eq_true_eq, decide_eq_false_iff_not]; (try simp only [natc, getI_gi, at2_0, at2_1]); (try dsimp only [Ty.den]); try simp only [natc] at *))
    all_goals (try clear hm hx)
    all_goals ((repeat' (first | apply And.intro | intro _)) <;> first | omega | exact h9.symm | grind)
  | true =>
    rw [hs] at h8 h9
    rw [Bool.true_and] at h9
    have hl : ∀ c ∈ L, litN r.length c := fun c hc => by
      unfold solR at hs
      simp only [Bool.and_eq_true] at hs
      rw [(asgB_in hs.2).1]
      exact (form_lits hs.1).2.2 c hc
    refine fnS [] [6] Try.func72 rfl (by decide) rfl (by decide) (by kernel_rfl) rfl (by simp [Try.ntmps72]) ?_
    cbv
    ((try simp only [IfP_iff, and_true, true_and, decide_eq_true_eq, decide_eq_false_iff_not]); (try simp only [natc, getI_gi, at2_0, at2_1]); (try dsimp only [Ty.den]); (try simp only [natc] at *); (repeat' (first | apply And.intro | intro _)))
    all_goals (repeat' (first | ((first | refine call_q (Spec2.agg6 (t := (.pr .int (.sl (.sl .int)))) (x := fun _ => (n, L)) (sp_good6 n L hL hm)) (by cbv) ?_ | refine call_pure (Spec2.agg6 (t := (.pr .int (.sl (.sl .int)))) (x := fun _ => (n, L)) (sp_good6 n L hL hm)) (by cbv) ?_); cbv; ((try simp only [IfP_iff, and_true, true_and, decide_eq_true_eq, decide_eq_false_iff_not]); (try simp only [natc, getI_gi, at2_0, at2_1]); (try dsimp only [Ty.den]); (try simp only [natc] at *); (repeat' (first | apply And.intro | intro _)))) | ((first | refine call_q (sp_bits n r hr) (by cbv) ?_ | refine call_pure (sp_bits n r hr) (by cbv) ?_); cbv; ((try simp only [IfP_iff, and_true, true_and, decide_eq_true_eq, decide_eq_false_iff_not]); (try simp only [natc, getI_gi, at2_0, at2_1]); (try dsimp only [Ty.den]); (try simp only [natc] at *); (repeat' (first | apply And.intro | intro _)))) | ((first | refine call_q (sp_solves n L r hL hm hr hx hl) (by cbv) ?_ | refine call_pure (sp_solves n L r hL hm hr hx hl) (by cbv) ?_); cbv; ((try simp only [IfP_iff, and_true, true_and, decide_eq_true_eq, decide_eq_false_iff_not]); (try simp only [natc, getI_gi, at2_0, at2_1]); (try dsimp only [Ty.den]); (try simp only [natc] at *); (repeat' (first | apply And.intro | intro _))))))
    all_goals (try (simp only [IfP_iff, EqU_iff, Obl_iff, and_true, true_and, inI_iff, decide_eq_true_eq, decide_eq_false_iff_not]; (try simp only [natc, getI_gi, at2_0, at2_1]); (try dsimp only [Ty.den]); try simp only [natc] at *))
    all_goals (try clear hm hx hl)
    all_goals ((repeat' (first | apply And.intro | intro _)) <;> first | omega | exact h9.symm | grind)
theorem sp_ownA (s : List Int) (hs : s.length ≤ 1048576) : Spec2 Try.prog 100 [.sl .int fun _ => s] [] [.ref 0] [some (.row 3 .int fun _ => s)] := by
  refine fnS [0] [2] Try.func100 rfl (by decide) rfl (by decide) (by kernel_rfl) rfl (by simp [Try.ntmps100]) ?_
  cbv
  (simp only [IfP_iff, EqU_iff, Obl_iff, and_true, true_and, inI_iff, decide_eq_true_eq, decide_eq_false_iff_not]; (try simp only [natc, getI_gi, at2_0, at2_1]); (try dsimp only [Ty.den]); try simp only [natc] at *)
  all_goals ((repeat' (first | apply And.intro | intro _)) <;> first | omega | (simp only [List.length_append, List.length_cons, List.length_nil]; omega) | grind)
theorem sp_flip (r : List Int) (v : Int) (hr : r.length ≤ 1048576) (h0 : 0 ≤ v) (h1 : v < r.length) (hi : inI (1 - gi r v)) : Spec2 Try.prog 73 [.sl .int fun _ => r, .int fun _ => v] [] [.ref 0] [some (.row 3 .int fun _ => flipV r v)] := by
  have hi' := inI_iff.1 hi
  have h9 : flipV r v = setI r v (1 - gi r v) := rfl
  refine fnS [0] [4] Try.func73 rfl (by decide) rfl (by decide) (by kernel_rfl) rfl (by simp [Try.ntmps73]) ?_
  cbv
  repeat' (first | ((first | refine call_q (sp_ownA r hr) (by cbv) ?_ | refine call_pure (sp_ownA r hr) (by cbv) ?_); cbv; ((try simp only [IfP_iff, and_true, true_and, decide_eq_true_eq, decide_eq_false_iff_not]); (try simp only [natc, getI_gi, at2_0, at2_1]); (try dsimp only [Ty.den]); (try simp only [natc] at *); (repeat' (first | apply And.intro | intro _)))))
  all_goals (try (simp only [IfP_iff, EqU_iff, Obl_iff, and_true, true_and, inI_iff, decide_eq_true_eq, decide_eq_false_iff_not]; (try simp only [natc, getI_gi, at2_0, at2_1]); (try dsimp only [Ty.den]); try simp only [natc] at *))
  all_goals ((repeat' (first | apply And.intro | intro _)) <;> first | omega | rfl | grind)
theorem sp_flippable (n : Int) (L : List (List Int)) (r : List Int) (hL : L.length ≤ 1048576) (hm : ∀ c ∈ L, c.length ≤ 1048576) (hx : ∀ c ∈ L, ∀ x ∈ c, inI x) (hr : r.length ≤ 1048576) : Spec2 Try.prog 35 [.agg (.pr .int (.sl (.sl .int))) fun _ => (n, L), .sl .int fun _ => r] [] [.ref 0, .bool fun _ => okS n L r] [some (.row 3 .int fun _ => flpR n L r)] := by
  have h9 : flpR n L r = if okS n L r = true then pref (flipI L (padN r)) n.toNat else [] := rfl
  cases hc : okS n L r with
  | false =>
    rw [hc, if_neg (by decide)] at h9
    refine fnS [1] [4, 5] Try.func35 rfl (by decide) rfl (by decide) (by kernel_rfl) rfl (by simp [Try.ntmps35]) ?_
    cbv
    ((try simp only [IfP_iff, and_true, true_and, decide_eq_true_eq, decide_eq_false_iff_not]); (try simp only [natc, getI_gi, at2_0, at2_1]); (try dsimp only [Ty.den]); (try simp only [natc] at *); (repeat' (first | apply And.intro | intro _)))
    all_goals (repeat' (first | ((first | refine call_q (sp_two n L r hL hm hx hr) (by cbv) ?_ | refine call_pure (sp_two n L r hL hm hx hr) (by cbv) ?_); cbv; ((try simp only [IfP_iff, and_true, true_and, decide_eq_true_eq, decide_eq_false_iff_not]); (try simp only [natc, getI_gi, at2_0, at2_1]); (try dsimp only [Ty.den]); (try simp only [natc] at *); (repeat' (first | apply And.intro | intro _))))))
    all_goals (try (simp only [IfP_iff, EqU_iff, Obl_iff, and_true, true_and, inI_iff, decide_eq_true_eq, decide_eq_false_iff_not]; (try simp only [natc, getI_gi, at2_0, at2_1]); (try dsimp only [Ty.den]); try simp only [natc] at *))
    all_goals (first | exact h9.symm | exact hc.symm | rfl | exact ⟨h9.symm, hc.symm⟩ | (exact absurd (by assumption : (!okS n L r) = false) (by rw [hc]; decide)) | (trace_state; fail))
  | true =>
    obtain ⟨k1, k2, k3, k4, k5, k6, k7⟩ := okS_in hc
    rw [hc, if_pos rfl] at h9
    refine fnS [1] [4, 5] Try.func35 rfl (by decide) rfl (by decide) (by kernel_rfl) rfl (by simp [Try.ntmps35]) ?_
    cbv
    ((try simp only [IfP_iff, and_true, true_and, decide_eq_true_eq, decide_eq_false_iff_not]); (try simp only [natc, getI_gi, at2_0, at2_1]); (try dsimp only [Ty.den]); (try simp only [natc] at *); (repeat' (first | apply And.intro | intro _)))
    all_goals (repeat' (first | ((first | refine call_q (sp_two n L r hL hm hx hr) (by cbv) ?_ | refine call_pure (sp_two n L r hL hm hx hr) (by cbv) ?_); cbv; ((try simp only [IfP_iff, and_true, true_and, decide_eq_true_eq, decide_eq_false_iff_not]); (try simp only [natc, getI_gi, at2_0, at2_1]); (try dsimp only [Ty.den]); (try simp only [natc] at *); (repeat' (first | apply And.intro | intro _))))))
    all_goals (try (simp only [IfP_iff, EqU_iff, Obl_iff, and_true, true_and, inI_iff, decide_eq_true_eq, decide_eq_false_iff_not]; (try simp only [natc, getI_gi, at2_0, at2_1]); (try dsimp only [Ty.den]); try simp only [natc] at *))
    iterate 2
      · exact absurd (by assumption : (!okS n L r) = true) (by rw [hc]; decide)
    refine loopP (by kernel_rfl) (fun v : Int => 0 ≤ v ∧ v ≤ n) (fun v => [(7, .int fun _ => v), (6, .ref 1), (8, .junk)]) (fun v => [(1, some (.row 3 .int fun _ => pref (flipI L (padN r)) v.toNat))]) (fun v => (n - v).toNat) (· + 1) 0 (by omega) ?_ ?_
    · cbv
      (simp only [IfP_iff, EqU_iff, Obl_iff, and_true, true_and, inI_iff, decide_eq_true_eq, decide_eq_false_iff_not]; (try simp only [natc, getI_gi, at2_0, at2_1]); (try dsimp only [Ty.den]); try simp only [natc] at *)
      simp [pref]
    · intro v hv
      have h1 := pref_next (p := flipI L (padN r)) hv.1
      have h2 := pref_len (p := flipI L (padN r)) hv.1
      have h3 : ¬ v < n → v.toNat = n.toNat := by omega
      have h4 : v < n → flipI L (padN r) v = solB L (flipV r v) := fun a => flip_sol k1 k2 hv.1 a
      have h5 := bit_pad k2 v
      have h6 : v < n → inI (1 - gi r v) := fun a => by rw [← gi_pad (r := r) hv.1 (by omega)]; unfold inI; omega
      have h7 : (flipV r v).length = r.length := flipV_len r v
      have h8 : v < n → ∀ c ∈ L, litN (flipV r v).length c := fun a c hc => by
        rw [h7, k6]
        exact (form_lits k1).2.2 c hc
      cbv
      ((try simp only [IfP_iff, and_true, true_and, decide_eq_true_eq, decide_eq_false_iff_not]); (try simp only [natc, getI_gi, at2_0, at2_1]); (try dsimp only [Ty.den]); (try simp only [natc] at *); (repeat' (first | apply And.intro | intro _)))
      all_goals (repeat' (first | ((first | refine call_q (sp_flip r v hr hv.1 (by omega) (h6 (by assumption))) (by cbv) ?_ | refine call_pure (sp_flip r v hr hv.1 (by omega) (h6 (by assumption))) (by cbv) ?_); cbv; ((try simp only [IfP_iff, and_true, true_and, decide_eq_true_eq, decide_eq_false_iff_not]); (try simp only [natc, getI_gi, at2_0, at2_1]); (try dsimp only [Ty.den]); (try simp only [natc] at *); (repeat' (first | apply And.intro | intro _)))) | ((first | refine call_q (sp_solves n L (flipV r v) hL hm (by omega) hx (h8 (by assumption))) (by cbv) ?_ | refine call_pure (sp_solves n L (flipV r v) hL hm (by omega) hx (h8 (by assumption))) (by cbv) ?_); cbv; ((try simp only [IfP_iff, and_true, true_and, decide_eq_true_eq, decide_eq_false_iff_not]); (try simp only [natc, getI_gi, at2_0, at2_1]); (try dsimp only [Ty.den]); (try simp only [natc] at *); (repeat' (first | apply And.intro | intro _))))))
      all_goals (try clear hm hx h8)
      all_goals (try (simp only [IfP_iff, EqU_iff, Obl_iff, and_true, true_and, inI_iff, decide_eq_true_eq, decide_eq_false_iff_not]; (try simp only [natc, getI_gi, at2_0, at2_1]); (try dsimp only [Ty.den]); try simp only [natc] at *))
      all_goals ((repeat' (first | apply And.intro | intro _)) <;> first | omega | (simp only [List.length_append, List.length_cons, List.length_nil]; omega) | grind | (trace_state; fail))
end Go.Proofs.Ytcgeedklfejhbaa.M

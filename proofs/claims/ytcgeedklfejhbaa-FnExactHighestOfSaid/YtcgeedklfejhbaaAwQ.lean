/- Variables that can be flipped: the program. -/
import Derived.Test.YtcgeedklfejhbaaAuQ
import Derived.Test.YtcgeedklfejhbaaPfQ
import Derived.Test.YtcgeedklfejhbaaQc
namespace Go.Proofs.Ytcgeedklfejhbaa.M
open Go.RowKit Abs
set_option linter.unusedSimpArgs false
set_option linter.unusedVariables false
set_option maxRecDepth 100000
set_option maxHeartbeats 4000000
def flipV (l : List Int) (v : Int) : List Int := setI l v (1 - gi l v)
theorem flipV_len (l : List Int) (v : Int) : (flipV l v).length = l.length := by unfold flipV setI; rw [List.length_set]
theorem cons_at {n : Int} {l : List Int} {v : Int} (h : 0 ≤ v) : gi (n :: l) (1 + v) = gi l v := by
  unfold gi
  rw [show (1 + v).toNat = v.toNat + 1 by omega, List.getD_cons_succ]
theorem cons_set {n y : Int} {l : List Int} {v : Int} (h : 0 ≤ v) : setI (n :: l) (1 + v) y = n :: setI l v y := by
  unfold setI
  rw [show (1 + v).toNat = v.toNat + 1 by omega, List.set_cons_succ]
theorem im_flipped (q : Int × List Int) (v : Int) (hl : q.2.length = 6) (h0 : 0 ≤ v) (h1 : v < 6) (hi : inI (1 - gi q.2 v)) : Spec2 Try.prog 75 [.agg (.pr .int (.ar 5 .int)) fun _ => q, .int fun _ => v] [] [.agg (.pr .int (.ar 5 .int)) fun _ => (q.1, flipV q.2 v)] [] := by
  have e1 : gi (q.1 :: q.2) (((1 : Nat) : Int) + v) = gi q.2 v := cons_at h0
  have e2 : setI (q.1 :: q.2) (((1 : Nat) : Int) + v) (1 - gi q.2 v) = q.1 :: setI q.2 v (1 - gi q.2 v) := cons_set h0
  have e3 : (((q.1 :: q.2).length : Nat) : Int) = 7 := by rw [List.length_cons, hl]; rfl
  have hi' := inI_iff.1 hi
  refine fnG [.csq 4 5 73] Try.func75 rfl (by decide) rfl (by kernel_rfl) (.inl rfl) (by kernel_rfl) (Nat.zero_le _) (by simp [Try.ntmps75]) ?_
  cbv
  ((try simp only [IfP_iff, and_true, true_and, decide_eq_true_eq, decide_eq_false_iff_not]); (try simp only [natc, getI_gi, at2_0, at2_1]); (try dsimp only [Ty.den]); (try simp only [natc] at *); (repeat' (first | apply And.intro | intro _)))
  all_goals (try (simp only [IfP_iff, EqU_iff, Obl_iff, and_true, true_and, inI_iff, decide_eq_true_eq, decide_eq_false_iff_not]; (try simp only [natc, getI_gi, at2_0, at2_1]); (try dsimp only [Ty.den]); try simp only [natc] at *))
  · rw [e3]
    exact ⟨h0, h1, by decide⟩
  · rw [e1]
    exact hi'
  · rw [e3]
    exact ⟨h0, h1, by decide⟩
  · refine EndG.plain [] ?_
    cbv
    (simp only [IfP_iff, EqU_iff, Obl_iff, and_true, true_and, inI_iff, decide_eq_true_eq, decide_eq_false_iff_not]; (try simp only [natc, getI_gi, at2_0, at2_1]); (try dsimp only [Ty.den]); try simp only [natc] at *)
    rw [e1, e2]
    rfl
theorem im_flipped2 (q : Int × List Int) (v : Int) (hl : q.2.length = 6) (h0 : 0 ≤ v) (h1 : v < 6) (hi : inI (1 - gi q.2 v)) : Spec2 Try.prog 75 [.agg (.pr .int (.ar 5 .int)) fun _ => (gi (q.1 :: q.2) 0, List.drop 1 (q.1 :: q.2)), .int fun _ => v] [] [.agg (.pr .int (.ar 5 .int)) fun _ => (q.1, flipV q.2 v)] [] := im_flipped q v hl h0 h1 hi
def flipI (L : List (List Int)) (l : List Int) (v : Int) : Bool := !L.any (notMet (flipV l v))
def okS (n : Int) (L : List (List Int)) (r : List Int) : Bool := solR n L r && solB L r
def solV (n : Int) (L : List (List Int)) (r : List Int) : Int × List Int := if okS n L r = true then (n, padN r) else (0, List.replicate 6 0)
theorem im_solFor (n : Int) (L : List (List Int)) (r : List Int) (hL : L.length ≤ 1048576) (hm : ∀ c ∈ L, c.length ≤ 1048576) (hx : ∀ c ∈ L, ∀ x ∈ c, inI x) (hr : r.length ≤ 1048576) : Spec2 Try.prog 74 [.agg (.pr .int (.sl (.sl .int))) fun _ => (n, L), .sl .int fun _ => r] [] [.agg (.pr .int (.ar 5 .int)) fun _ => solV n L r, .bool fun _ => okS n L r] [] := by
  have h9 : okS n L r = (solR n L r && solB L r) := rfl
  have h8 : solV n L r = if okS n L r = true then (n, padN r) else (0, List.replicate 6 0) := rfl
  have h7 : okS n L r = true → asgB n r = true := fun h => by
    rw [h9] at h
    unfold solR at h
    simp only [Bool.and_eq_true] at h
    exact h.1.2
  have h6 : asgB n r = true → asgV n r = (n, padN r) := fun h => by unfold asgV; rw [if_pos h]
  refine fnG [.csq 4 5 73, .tmp 5] Try.func74 rfl (by decide) rfl (by kernel_rfl) (.inr (.inl rfl)) (by kernel_rfl) (Nat.zero_le _) (by simp [Try.ntmps74]) ?_
  cbv
  ((try simp only [IfP_iff, and_true, true_and, decide_eq_true_eq, decide_eq_false_iff_not]); (try simp only [natc, getI_gi, at2_0, at2_1]); (try dsimp only [Ty.den]); (try simp only [natc] at *); (repeat' (first | apply And.intro | intro _)))
  all_goals (repeat' (first | ((first | refine call_q (im_isSol n L r hL hm hx hr) (by cbv) ?_ | refine call_pure (im_isSol n L r hL hm hx hr) (by cbv) ?_); cbv; ((try simp only [IfP_iff, and_true, true_and, decide_eq_true_eq, decide_eq_false_iff_not]); (try simp only [natc, getI_gi, at2_0, at2_1]); (try dsimp only [Ty.den]); (try simp only [natc] at *); (repeat' (first | apply And.intro | intro _)))) | ((first | refine call_q (im_asgOf n r hr) (by cbv) ?_ | refine call_pure (im_asgOf n r hr) (by cbv) ?_); cbv; ((try simp only [IfP_iff, and_true, true_and, decide_eq_true_eq, decide_eq_false_iff_not]); (try simp only [natc, getI_gi, at2_0, at2_1]); (try dsimp only [Ty.den]); (try simp only [natc] at *); (repeat' (first | apply And.intro | intro _))))))
  all_goals (try (simp only [IfP_iff, EqU_iff, Obl_iff, and_true, true_and, inI_iff, decide_eq_true_eq, decide_eq_false_iff_not]; (try simp only [natc, getI_gi, at2_0, at2_1]); (try dsimp only [Ty.den]); try simp only [natc] at *))
  · have hb : okS n L r = false := by rw [h9]; simpa only [Bool.not_eq_true'] using (by assumption : (!(solR n L r && solB L r)) = true)
    refine EndG.plain [] ?_
    cbv
    (simp only [IfP_iff, EqU_iff, Obl_iff, and_true, true_and, inI_iff, decide_eq_true_eq, decide_eq_false_iff_not]; (try simp only [natc, getI_gi, at2_0, at2_1]); (try dsimp only [Ty.den]); try simp only [natc] at *)
    rw [h8, hb]
    exact ⟨rfl, rfl⟩
  · have hb : okS n L r = true := by rw [h9]; simpa only [Bool.not_eq_false'] using (by assumption : (!(solR n L r && solB L r)) = false)
    have hc := h7 hb
    refine EndG.plain [] ?_
    cbv
    (simp only [IfP_iff, EqU_iff, Obl_iff, and_true, true_and, inI_iff, decide_eq_true_eq, decide_eq_false_iff_not]; (try simp only [natc, getI_gi, at2_0, at2_1]); (try dsimp only [Ty.den]); try simp only [natc] at *)
    rw [h8, hb, hc, h6 hc]
    exact ⟨rfl, rfl⟩
theorem okS_in {n : Int} {L : List (List Int)} {r : List Int} (h : okS n L r = true) : formOk n L = true ∧ asgB n r = true ∧ solV n L r = (n, padN r) ∧ 0 ≤ n ∧ n ≤ 6 ∧ (r.length : Int) = n ∧ (padN r).length = 6 := by
  have h1 := h
  unfold okS solR at h1
  simp only [Bool.and_eq_true] at h1
  obtain ⟨⟨a, b⟩, c⟩ := h1
  have h2 := asgB_in b
  refine ⟨a, b, ?_, (form_lits a).1, h2.2.1, h2.1, padN_len (by have := h2.1; have := h2.2.1; omega)⟩
  unfold solV
  rw [if_pos h]
def flpR (n : Int) (L : List (List Int)) (r : List Int) : List Int := if okS n L r = true then pref (flipI L (padN r)) n.toNat else []
theorem flp_len (n : Int) (L : List (List Int)) (r : List Int) : (flpR n L r).length ≤ 1048576 := by
  unfold flpR
  split
  · rename_i h
    obtain ⟨_, _, _, a, b, _⟩ := okS_in h
    have := pref_len (p := flipI L (padN r)) a
    omega
  · simp
theorem bit_pad {n : Int} {r : List Int} (h : asgB n r = true) (v : Int) : gi (padN r) v = 0 ∨ gi (padN r) v = 1 := by
  have h1 : ∀ x ∈ padN r, x = 0 ∨ x = 1 := fun x hx => by
    unfold padN at hx
    rcases List.mem_append.1 hx with hx | hx
    · exact (asgB_in h).2.2 x hx
    · exact .inl (List.eq_of_mem_replicate hx)
  unfold gi
  rw [List.getD_eq_getElem?_getD]
  cases e : (padN r)[v.toNat]? with
  | none => exact .inl rfl
  | some x => exact h1 x (List.mem_of_getElem? e)
theorem im_flippable (n : Int) (L : List (List Int)) (r : List Int) (hL : L.length ≤ 1048576) (hm : ∀ c ∈ L, c.length ≤ 1048576) (hx : ∀ c ∈ L, ∀ x ∈ c, inI x) (hr : r.length ≤ 1048576) : Spec2 Try.prog 36 [.agg (.pr .int (.sl (.sl .int))) fun _ => (n, L), .sl .int fun _ => r] [] [.ref 0, .bool fun _ => okS n L r] [some (.row 3 .int fun _ => flpR n L r)] := by
  have h9 : flpR n L r = if okS n L r = true then pref (flipI L (padN r)) n.toNat else [] := rfl
  cases hc : okS n L r with
  | false =>
    rw [hc, if_neg (by decide)] at h9
    refine fnS [2] [4, 5] Try.func36 rfl (by decide) rfl (by decide) (by kernel_rfl) rfl (by simp [Try.ntmps36]) ?_
    cbv
    ((try simp only [IfP_iff, and_true, true_and, decide_eq_true_eq, decide_eq_false_iff_not]); (try simp only [natc, getI_gi, at2_0, at2_1]); (try dsimp only [Ty.den]); (try simp only [natc] at *); (repeat' (first | apply And.intro | intro _)))
    all_goals (repeat' (first | ((first | refine call_q (im_solFor n L r hL hm hx hr) (by cbv) ?_ | refine call_pure (im_solFor n L r hL hm hx hr) (by cbv) ?_); cbv; ((try simp only [IfP_iff, and_true, true_and, decide_eq_true_eq, decide_eq_false_iff_not]); (try simp only [natc, getI_gi, at2_0, at2_1]); (try dsimp only [Ty.den]); (try simp only [natc] at *); (repeat' (first | apply And.intro | intro _))))))
    all_goals (try (simp only [IfP_iff, EqU_iff, Obl_iff, and_true, true_and, inI_iff, decide_eq_true_eq, decide_eq_false_iff_not]; (try simp only [natc, getI_gi, at2_0, at2_1]); (try dsimp only [Ty.den]); try simp only [natc] at *))
    all_goals (first | exact h9.symm | exact hc.symm | rfl | exact ⟨h9.symm, hc.symm⟩ | (exact absurd (by assumption : (!okS n L r) = false) (by rw [hc]; decide)) | (trace_state; fail))
  | true =>
    obtain ⟨k1, k2, k3, k4, k5, k6, k7⟩ := okS_in hc
    rw [hc, if_pos rfl] at h9
    refine fnS [2] [4, 5] Try.func36 rfl (by decide) rfl (by decide) (by kernel_rfl) rfl (by simp [Try.ntmps36]) ?_
    cbv
    ((try simp only [IfP_iff, and_true, true_and, decide_eq_true_eq, decide_eq_false_iff_not]); (try simp only [natc, getI_gi, at2_0, at2_1]); (try dsimp only [Ty.den]); (try simp only [natc] at *); (repeat' (first | apply And.intro | intro _)))
    all_goals (repeat' (first | ((first | refine call_q (im_solFor n L r hL hm hx hr) (by cbv) ?_ | refine call_pure (im_solFor n L r hL hm hx hr) (by cbv) ?_); cbv; ((try simp only [IfP_iff, and_true, true_and, decide_eq_true_eq, decide_eq_false_iff_not]); (try simp only [natc, getI_gi, at2_0, at2_1]); (try dsimp only [Ty.den]); (try simp only [natc] at *); (repeat' (first | apply And.intro | intro _))))))
    all_goals (try (simp only [IfP_iff, EqU_iff, Obl_iff, and_true, true_and, inI_iff, decide_eq_true_eq, decide_eq_false_iff_not]; (try simp only [natc, getI_gi, at2_0, at2_1]); (try dsimp only [Ty.den]); try simp only [natc] at *))
    iterate 2
      · exact absurd (by assumption : (!okS n L r) = true) (by rw [hc]; decide)
    have k8 : gi ((solV n L r).1 :: (solV n L r).2) 0 = n := by rw [k3]; rfl
    have k8' : gi ((solV n L r).1 :: (solV n L r).2) ((0 : Nat) : Int) = n := k8
    have k9 : (solV n L r).2 = padN r := by rw [k3]
    have k10 : ∀ c ∈ L, litsIn c := fun c hc x hxc => by
      have := (form_lits k1).2.2 c hc x hxc
      exact ⟨hx c hc x hxc, this.1, by omega⟩
    refine loopP (by kernel_rfl) (fun v : Int => 0 ≤ v ∧ v ≤ n) (fun v => [(22, .int fun _ => v), (8, .ref 2), (19, .junk)]) (fun v => [(2, some (.row 3 .int fun _ => pref (flipI L (padN r)) v.toNat))]) (fun v => (n - v).toNat) (· + 1) 0 (by omega) ?_ ?_
    · cbv
      (simp only [IfP_iff, EqU_iff, Obl_iff, and_true, true_and, inI_iff, decide_eq_true_eq, decide_eq_false_iff_not]; (try simp only [natc, getI_gi, at2_0, at2_1]); (try dsimp only [Ty.den]); try simp only [natc] at *)
      simp [pref]
    · intro v hv
      have h1 := pref_next (p := flipI L (padN r)) hv.1
      have h2 := pref_len (p := flipI L (padN r)) hv.1
      have h3 : ¬ v < n → v.toNat = n.toNat := by omega
      have h4 : flipI L (padN r) v = !L.any (notMet (flipV (solV n L r).2 v)) := by rw [k9]; rfl
      have h5 := bit_pad k2 v
      have h6 : inI (1 - gi (solV n L r).2 v) := by rw [k9]; unfold inI; omega
      have h7 : (flipV (solV n L r).2 v).length = 6 := by rw [flipV_len, k9, k7]
      have h8 : (solV n L r).2.length = 6 := by rw [k9, k7]
      cbv
      ((try simp only [IfP_iff, and_true, true_and, decide_eq_true_eq, decide_eq_false_iff_not]); (try simp only [natc, getI_gi, at2_0, at2_1]); (try dsimp only [Ty.den]); (try simp only [natc] at *); (repeat' (first | apply And.intro | intro _)))
      all_goals (repeat' (first | ((first | refine call_q (im_flipped2 (solV n L r) v h8 hv.1 (by omega) h6) (by cbv) ?_ | refine call_pure (im_flipped2 (solV n L r) v h8 hv.1 (by omega) h6) (by cbv) ?_); cbv; ((try simp only [IfP_iff, and_true, true_and, decide_eq_true_eq, decide_eq_false_iff_not]); (try simp only [natc, getI_gi, at2_0, at2_1]); (try dsimp only [Ty.den]); (try simp only [natc] at *); (repeat' (first | apply And.intro | intro _)))) | ((first | refine call_q (im_isMet n (solV n L r).1 L (flipV (solV n L r).2 v) h7 hL hm k10) (by cbv) ?_ | refine call_pure (im_isMet n (solV n L r).1 L (flipV (solV n L r).2 v) h7 hL hm k10) (by cbv) ?_); cbv; ((try simp only [IfP_iff, and_true, true_and, decide_eq_true_eq, decide_eq_false_iff_not]); (try simp only [natc, getI_gi, at2_0, at2_1]); (try dsimp only [Ty.den]); (try simp only [natc] at *); (repeat' (first | apply And.intro | intro _))))))
      all_goals (try clear hm hx k10)
      all_goals (try (simp only [IfP_iff, EqU_iff, Obl_iff, and_true, true_and, inI_iff, decide_eq_true_eq, decide_eq_false_iff_not]; (try simp only [natc, getI_gi, at2_0, at2_1]); (try dsimp only [Ty.den]); try simp only [natc] at *))
      all_goals ((repeat' (first | apply And.intro | intro _)) <;> first | omega | (simp only [List.length_append, List.length_cons, List.length_nil]; omega) | grind | (trace_state; fail))
end Go.Proofs.Ytcgeedklfejhbaa.M

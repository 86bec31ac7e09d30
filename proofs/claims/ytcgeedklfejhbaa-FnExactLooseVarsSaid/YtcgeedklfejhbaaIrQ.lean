/- Loose variables of a Parity, on both sides. -/
import Derived.Test.YtcgeedklfejhbaaIqQ
import Derived.Test.YtcgeedklfejhbaaPfQ
import Derived.Test.YtcgeedklfejhbaaHsQ
import Derived.Test.YtcgeedklfejhbaaLpQ
import Derived.Test.YtcgeedklfejhbaaQc
namespace Go.Proofs.Ytcgeedklfejhbaa.M
open Go.RowKit Abs
set_option linter.unusedSimpArgs false
set_option linter.unusedVariables false
set_option maxRecDepth 100000
set_option maxHeartbeats 4000000
def usedK (L : List (List Int)) (v k : Int) : Bool := (L.take k.toNat).any fun r => hasB r v
def usedB (v : Int) (r : List Int) : Bool := hasB r v
def freeB (L : List (List Int)) (v : Int) : Bool := !L.any (usedB v)
theorem usedK_next {L : List (List Int)} {v k : Int} (h0 : 0 ≤ k) (h1 : k < (L.length : Int)) : usedK L v (k + 1) = (usedK L v k || hasB (getR .int L k) v) := by
  unfold usedK
  have h2 := getR_get (t := .int) h0 h1
  rw [show (k + 1).toNat = k.toNat + 1 by omega, List.take_add_one, h2, List.any_append]
  simp
theorem usedK_all {L : List (List Int)} {v : Int} : (!usedK L v L.length) = freeB L v := by
  unfold usedK freeB
  rw [Int.toNat_natCast, List.take_length]
  rfl
def looseV (n : Int) (L : List (List Int)) (R : List Int) : List Int := if parOk n L R = true then pref (freeB L) n.toNat else []
theorem parOk_n {n : Int} {L : List (List Int)} {R : List Int} (h : parOk n L R = true) : 0 ≤ n ∧ n ≤ 6 := by
  unfold parOk at h
  simp only [Bool.and_eq_true, decide_eq_true_eq] at h
  exact h.1.1.1
theorem looseV_len (n : Int) (L : List (List Int)) (R : List Int) : (looseV n L R).length ≤ 1048576 := by
  unfold looseV
  split
  · rename_i h
    have := parOk_n h
    have := pref_len (p := freeB L) this.1
    omega
  · simp
theorem sp_loose (n : Int) (L : List (List Int)) (R : List Int) (hL : L.length ≤ 1048576) (hm : ∀ r ∈ L, r.length ≤ 1048576) (hR : R.length ≤ 1048576) (hx : inI n) : Spec2 Try.prog 27 [.agg TPa fun _ => (n, L, R)] [] [.ref 0, .bool fun _ => parOk n L R] [some (.row 3 .int fun _ => looseV n L R)] := by
  by_cases hp : parOk n L R = true
  case neg =>
    have h9 : looseV n L R = [] := by unfold looseV; rw [if_neg hp]
    have h8 : parOk n L R = false := by simpa using hp
    refine fnS [1] [2, 3] Try.func27 rfl (by decide) rfl (by decide) (by kernel_rfl) rfl (by simp [Try.ntmps27]) ?_
    cbv
    repeat' (first | ((first | refine call_q (sp_isPar n L R hL hm hR hx) (by cbv) ?_ | refine call_pure (sp_isPar n L R hL hm hR hx) (by cbv) ?_); cbv; ((try simp only [IfP_iff, and_true, true_and, decide_eq_true_eq, decide_eq_false_iff_not]); (try simp only [natc, getI_gi, at2_0, at2_1]); (try dsimp only [Ty.den]); (try simp only [natc] at *); (repeat' (first | apply And.intro | intro _)))))
    all_goals (try clear hm)
    all_goals (try (simp only [IfP_iff, EqU_iff, Obl_iff, and_true, true_and, inI_iff, decide_eq_true_eq, decide_eq_false_iff_not]; (try simp only [natc, getI_gi, at2_0, at2_1]); (try dsimp only [Ty.den]); try simp only [natc] at *))
    ((try simp only [IfP_iff, and_true, true_and, decide_eq_true_eq, decide_eq_false_iff_not]); (try simp only [natc, getI_gi, at2_0, at2_1]); (try dsimp only [Ty.den]); (try simp only [natc] at *); (repeat' (first | apply And.intro | intro _)))
    all_goals (try (simp only [IfP_iff, EqU_iff, Obl_iff, and_true, true_and, inI_iff, decide_eq_true_eq, decide_eq_false_iff_not]; (try simp only [natc, getI_gi, at2_0, at2_1]); (try dsimp only [Ty.den]); try simp only [natc] at *))
    all_goals ((repeat' (first | apply And.intro | intro _)) <;> first | omega | (simp only [List.length_append, List.length_cons, List.length_nil]; omega) | grind | (simp_all; done))
  have h9 : looseV n L R = pref (freeB L) n.toNat := by unfold looseV; rw [if_pos hp]
  obtain ⟨n0, n1⟩ := parOk_n hp
  refine fnS [1] [2, 3] Try.func27 rfl (by decide) rfl (by decide) (by kernel_rfl) rfl (by simp [Try.ntmps27]) ?_
  cbv
  repeat' (first | ((first | refine call_q (sp_isPar n L R hL hm hR hx) (by cbv) ?_ | refine call_pure (sp_isPar n L R hL hm hR hx) (by cbv) ?_); cbv; ((try simp only [IfP_iff, and_true, true_and, decide_eq_true_eq, decide_eq_false_iff_not]); (try simp only [natc, getI_gi, at2_0, at2_1]); (try dsimp only [Ty.den]); (try simp only [natc] at *); (repeat' (first | apply And.intro | intro _)))))
  (simp only [IfP_iff, EqU_iff, Obl_iff, and_true, true_and, inI_iff, decide_eq_true_eq, decide_eq_false_iff_not]; (try simp only [natc, getI_gi, at2_0, at2_1]); (try dsimp only [Ty.den]); try simp only [natc] at *)
  ((try simp only [IfP_iff, and_true, true_and, decide_eq_true_eq, decide_eq_false_iff_not]); (try simp only [natc, getI_gi, at2_0, at2_1]); (try dsimp only [Ty.den]); (try simp only [natc] at *); (repeat' (first | apply And.intro | intro _)))
  all_goals (try (exact absurd (by assumption : (!parOk n L R) = true) (by rw [hp]; decide)))
  · refine loopP (by kernel_rfl) (fun v : Int => 0 ≤ v ∧ v ≤ n) (fun v => [(5, .int fun _ => v), (4, .ref 1), (8, .junk)]) (fun v => [(1, some (.row 3 .int fun _ => pref (freeB L) v.toNat))]) (fun v => (n - v).toNat) (· + 1) 0 (by omega) ?_ ?_
    · cbv
      (simp only [IfP_iff, EqU_iff, Obl_iff, and_true, true_and, inI_iff, decide_eq_true_eq, decide_eq_false_iff_not]; (try simp only [natc, getI_gi, at2_0, at2_1]); (try dsimp only [Ty.den]); try simp only [natc] at *)
      simp [pref]
    · intro v hv
      have h1 := pref_next (p := freeB L) hv.1
      have h2 := pref_len (p := freeB L) hv.1
      have h3 : ¬ v < n → pref (freeB L) v.toNat = looseV n L R := fun h => by rw [h9, show v.toNat = n.toNat by omega]
      cbv
      ((try simp only [IfP_iff, and_true, true_and, decide_eq_true_eq, decide_eq_false_iff_not]); (try simp only [natc, getI_gi, at2_0, at2_1]); (try dsimp only [Ty.den]); (try simp only [natc] at *); (repeat' (first | apply And.intro | intro _)))
      · refine loopP (by kernel_rfl) (fun k : Int => 0 ≤ k ∧ k ≤ L.length) (fun k => [(7, .int fun _ => k), (6, .bool fun _ => !usedK L v k)]) (fun _ => []) (fun k => (L.length - k).toNat) (· + 1) 0 (by omega) ?_ ?_
        · cbv
          (simp only [IfP_iff, EqU_iff, Obl_iff, and_true, true_and, inI_iff, decide_eq_true_eq, decide_eq_false_iff_not]; (try simp only [natc, getI_gi, at2_0, at2_1]); (try dsimp only [Ty.den]); try simp only [natc] at *)
          rfl
        · intro k hk
          have e1 : k < (L.length : Int) → usedK L v (k + 1) = (usedK L v k || hasB (getR .int L k) v) := usedK_next hk.1
          have e2 : k < (L.length : Int) → (getR .int L k).length ≤ 1048576 := fun h => hm _ (getR_mem hk.1 h)
          have e3 : ¬ k < (L.length : Int) → (!usedK L v k) = freeB L v := fun h => by rw [show k = (L.length : Int) by omega, usedK_all]
          clear hm
          cbv
          ((try simp only [IfP_iff, and_true, true_and, decide_eq_true_eq, decide_eq_false_iff_not]); (try simp only [natc, getI_gi, at2_0, at2_1]); (try dsimp only [Ty.den]); (try simp only [natc] at *); (repeat' (first | apply And.intro | intro _)))
          all_goals (repeat' (first | ((first | refine call_q (sp_has (getR .int L k) v (e2 (by assumption))) (by cbv) ?_ | refine call_pure (sp_has (getR .int L k) v (e2 (by assumption))) (by cbv) ?_); cbv; ((try simp only [IfP_iff, and_true, true_and, decide_eq_true_eq, decide_eq_false_iff_not]); (try simp only [natc, getI_gi, at2_0, at2_1]); (try dsimp only [Ty.den]); (try simp only [natc] at *); (repeat' (first | apply And.intro | intro _))))))
          all_goals (try (simp only [IfP_iff, EqU_iff, Obl_iff, and_true, true_and, inI_iff, decide_eq_true_eq, decide_eq_false_iff_not]; (try simp only [natc, getI_gi, at2_0, at2_1]); (try dsimp only [Ty.den]); try simp only [natc] at *))
          all_goals (try simp only [show getI (.sl .int) L k = getR .int L k from rfl] at *)
          all_goals ((repeat' (first | apply And.intro | intro _)) <;> first | omega | (simp only [List.length_append, List.length_cons, List.length_nil]; omega) | grind)
      all_goals (try (simp only [IfP_iff, EqU_iff, Obl_iff, and_true, true_and, inI_iff, decide_eq_true_eq, decide_eq_false_iff_not]; (try simp only [natc, getI_gi, at2_0, at2_1]); (try dsimp only [Ty.den]); try simp only [natc] at *))
      all_goals ((repeat' (first | apply And.intro | intro _)) <;> first | omega | (simp only [List.length_append, List.length_cons, List.length_nil]; omega) | grind)
theorem im_loose1 (v : Int) (r : List Int) (hr : r.length ≤ 1048576) : Spec2 Try.prog 65 [.sl .int fun _ => r, .ibox [.int fun _ => v] 0] [] [.bool fun _ => usedB v r] [] := by
  have h9 : usedB v r = hasB r v := rfl
  refine fnS [] [3] Try.func65 rfl (by decide) rfl (by decide) (by kernel_rfl) rfl (by simp [Try.ntmps65]) ?_
  cbv
  repeat' (first | ((first | refine call_q (go_contains r v hr) (by cbv) ?_ | refine call_pure (go_contains r v hr) (by cbv) ?_); cbv; ((try simp only [IfP_iff, and_true, true_and, decide_eq_true_eq, decide_eq_false_iff_not]); (try simp only [natc, getI_gi, at2_0, at2_1]); (try dsimp only [Ty.den]); (try simp only [natc] at *); (repeat' (first | apply And.intro | intro _)))))
  all_goals (try (simp only [IfP_iff, EqU_iff, Obl_iff, and_true, true_and, inI_iff, decide_eq_true_eq, decide_eq_false_iff_not]; (try simp only [natc, getI_gi, at2_0, at2_1]); (try dsimp only [Ty.den]); try simp only [natc] at *))
  all_goals ((repeat' (first | apply And.intro | intro _)) <;> first | omega | (simp only [List.length_append, List.length_cons, List.length_nil]; omega) | grind)
theorem im_loose (n : Int) (L : List (List Int)) (R : List Int) (hL : L.length ≤ 1048576) (hm : ∀ r ∈ L, r.length ≤ 1048576) (hR : R.length ≤ 1048576) : Spec2 Try.prog 28 [.agg TPa fun _ => (n, L, R)] [] [.ref 0, .bool fun _ => parOk n L R] [some (.row 3 .int fun _ => looseV n L R)] := by
  by_cases hp : parOk n L R = true
  case neg =>
    have h9 : looseV n L R = [] := by unfold looseV; rw [if_neg hp]
    have h8 : parOk n L R = false := by simpa using hp
    refine fnS [1] [2, 3] Try.func28 rfl (by decide) rfl (by decide) (by kernel_rfl) rfl (by simp [Try.ntmps28]) ?_
    cbv
    repeat' (first | ((first | refine call_q (Spec2.agg6 (t := TPa) (x := fun _ => (n, L, R)) (im_isParity n L R hL hm hR)) (by cbv) ?_ | refine call_pure (Spec2.agg6 (t := TPa) (x := fun _ => (n, L, R)) (im_isParity n L R hL hm hR)) (by cbv) ?_); cbv; ((try simp only [IfP_iff, and_true, true_and, decide_eq_true_eq, decide_eq_false_iff_not]); (try simp only [natc, getI_gi, at2_0, at2_1]); (try dsimp only [Ty.den]); (try simp only [natc] at *); (repeat' (first | apply And.intro | intro _)))))
    all_goals (try clear hm)
    all_goals (try (simp only [IfP_iff, EqU_iff, Obl_iff, and_true, true_and, inI_iff, decide_eq_true_eq, decide_eq_false_iff_not]; (try simp only [natc, getI_gi, at2_0, at2_1]); (try dsimp only [Ty.den]); try simp only [natc] at *))
    ((try simp only [IfP_iff, and_true, true_and, decide_eq_true_eq, decide_eq_false_iff_not]); (try simp only [natc, getI_gi, at2_0, at2_1]); (try dsimp only [Ty.den]); (try simp only [natc] at *); (repeat' (first | apply And.intro | intro _)))
    all_goals (try (simp only [IfP_iff, EqU_iff, Obl_iff, and_true, true_and, inI_iff, decide_eq_true_eq, decide_eq_false_iff_not]; (try simp only [natc, getI_gi, at2_0, at2_1]); (try dsimp only [Ty.den]); try simp only [natc] at *))
    all_goals ((repeat' (first | apply And.intro | intro _)) <;> first | omega | (simp only [List.length_append, List.length_cons, List.length_nil]; omega) | grind | (simp_all; done))
  have h9 : looseV n L R = pref (freeB L) n.toNat := by unfold looseV; rw [if_pos hp]
  obtain ⟨n0, n1⟩ := parOk_n hp
  refine fnS [1] [2, 3] Try.func28 rfl (by decide) rfl (by decide) (by kernel_rfl) rfl (by simp [Try.ntmps28]) ?_
  cbv
  repeat' (first | ((first | refine call_q (Spec2.agg6 (t := TPa) (x := fun _ => (n, L, R)) (im_isParity n L R hL hm hR)) (by cbv) ?_ | refine call_pure (Spec2.agg6 (t := TPa) (x := fun _ => (n, L, R)) (im_isParity n L R hL hm hR)) (by cbv) ?_); cbv; ((try simp only [IfP_iff, and_true, true_and, decide_eq_true_eq, decide_eq_false_iff_not]); (try simp only [natc, getI_gi, at2_0, at2_1]); (try dsimp only [Ty.den]); (try simp only [natc] at *); (repeat' (first | apply And.intro | intro _)))))
  (simp only [IfP_iff, EqU_iff, Obl_iff, and_true, true_and, inI_iff, decide_eq_true_eq, decide_eq_false_iff_not]; (try simp only [natc, getI_gi, at2_0, at2_1]); (try dsimp only [Ty.den]); try simp only [natc] at *)
  ((try simp only [IfP_iff, and_true, true_and, decide_eq_true_eq, decide_eq_false_iff_not]); (try simp only [natc, getI_gi, at2_0, at2_1]); (try dsimp only [Ty.den]); (try simp only [natc] at *); (repeat' (first | apply And.intro | intro _)))
  all_goals (try (exact absurd (by assumption : (!parOk n L R) = true) (by rw [hp]; decide)))
  · refine loopX (by kernel_rfl) (fun v : Int => 0 ≤ v ∧ v ≤ n) (fun v => [(13, .int fun _ => v), (4, .ref 1), (10, .junk)]) (fun v => [(1, some (.row 3 .int fun _ => pref (freeB L) v.toNat))]) (fun v => (n - v).toNat) (· + 1) 0 (by omega) ?_ ?_
    · cbv
      (simp only [IfP_iff, EqU_iff, Obl_iff, and_true, true_and, inI_iff, decide_eq_true_eq, decide_eq_false_iff_not]; (try simp only [natc, getI_gi, at2_0, at2_1]); (try dsimp only [Ty.den]); try simp only [natc] at *)
      simp [pref]
    · intro v hv
      have h1 := pref_next (p := freeB L) hv.1
      have h2 := pref_len (p := freeB L) hv.1
      have h3 : ¬ v < n → pref (freeB L) v.toNat = looseV n L R := fun h => by rw [h9, show v.toNat = n.toNat by omega]
      have h4 : freeB L v = !L.any (usedB v) := rfl
      cbv
      ((try simp only [IfP_iff, and_true, true_and, decide_eq_true_eq, decide_eq_false_iff_not]); (try simp only [natc, getI_gi, at2_0, at2_1]); (try dsimp only [Ty.den]); (try simp only [natc] at *); (repeat' (first | apply And.intro | intro _)))
      all_goals (repeat' (first | ((first | refine call_q (go_containsFR 65 (fun _ => ofCaps [.ibox [.int fun _ => v] 0]) (usedB v) L hL fun r hr => ⟨_, rfl, fun _ => rfl, im_loose1 v r (hm r hr)⟩) (by cbv) ?_ | refine call_pure (go_containsFR 65 (fun _ => ofCaps [.ibox [.int fun _ => v] 0]) (usedB v) L hL fun r hr => ⟨_, rfl, fun _ => rfl, im_loose1 v r (hm r hr)⟩) (by cbv) ?_); cbv; ((try simp only [IfP_iff, and_true, true_and, decide_eq_true_eq, decide_eq_false_iff_not]); (try simp only [natc, getI_gi, at2_0, at2_1]); (try dsimp only [Ty.den]); (try simp only [natc] at *); (repeat' (first | apply And.intro | intro _))))))
      all_goals (try clear hm)
      all_goals (first
        | (refine RenL.mk ⟨[0, 1], ?_⟩
           cbv
           (simp only [IfP_iff, EqU_iff, Obl_iff, and_true, true_and, inI_iff, decide_eq_true_eq, decide_eq_false_iff_not]; (try simp only [natc, getI_gi, at2_0, at2_1]); (try dsimp only [Ty.den]); try simp only [natc] at *)
           rw [h1, h4]
           grind)
        | ((simp only [IfP_iff, EqU_iff, Obl_iff, and_true, true_and, inI_iff, decide_eq_true_eq, decide_eq_false_iff_not]; (try simp only [natc, getI_gi, at2_0, at2_1]); (try dsimp only [Ty.den]); try simp only [natc] at *); done)
        | ((simp only [IfP_iff, EqU_iff, Obl_iff, and_true, true_and, inI_iff, decide_eq_true_eq, decide_eq_false_iff_not]; (try simp only [natc, getI_gi, at2_0, at2_1]); (try dsimp only [Ty.den]); try simp only [natc] at *)
           (repeat' (first | apply And.intro | intro _)) <;> first | omega | (exact h3 (by assumption)) | grind)
        | trace_state)
end Go.Proofs.Ytcgeedklfejhbaa.M

/- Solutions: on both sides. -/
import Derived.Test.YtcgeedklfejhbaaAtQ
import Derived.Test.YtcgeedklfejhbaaSpQ
import Derived.Test.YtcgeedklfejhbaaQc
namespace Go.Proofs.Ytcgeedklfejhbaa.M
open Go.RowKit Abs
set_option linter.unusedSimpArgs false
set_option linter.unusedVariables false
set_option maxRecDepth 100000
set_option maxHeartbeats 4000000
def meetS (r : List Int) (x : Int) : Bool := if 0 < x then decide (gi r (x - 1) = 1) else decide (gi r (0 - x - 1) = 0)
theorem gi_pad {r : List Int} {k : Int} (h0 : 0 ≤ k) (h1 : k < (r.length : Int)) : gi (padN r) k = gi r k := by
  unfold gi padN
  rw [List.getD_eq_getElem?_getD, List.getD_eq_getElem?_getD, List.getElem?_append_left (by omega)]
theorem meet_eq {n x : Int} {r : List Int} (h : asgB n r = true) (h0 : 0 ≤ varOf x) (h1 : varOf x < n) : meetB (padN r) x = meetS r x := by
  obtain ⟨a, b, c⟩ := asgB_in h
  have e := gi_pad (r := r) h0 (by omega)
  have d := c _ (gi_mem (l := r) h0 (by omega))
  unfold meetB meetS
  unfold varOf at *
  by_cases hx : 0 < x
  · simp only [hx, if_true] at *
    rw [e]
  · simp only [hx, if_false] at *
    rw [e, show 0 - x - 1 = -1 - x by omega]
    rcases d with d | d <;> rw [d] <;> rfl
theorem any_mem {α : Type} {l : List α} {p q : α → Bool} (h : ∀ x ∈ l, p x = q x) : l.any p = l.any q := by
  rw [Bool.eq_iff_iff, List.any_eq_true, List.any_eq_true]
  exact ⟨fun ⟨x, hx, k⟩ => ⟨x, hx, h x hx ▸ k⟩, fun ⟨x, hx, k⟩ => ⟨x, hx, (h x hx).symm ▸ k⟩⟩
def metC (r c : List Int) : Bool := c.any (meetS r)
def solB (L : List (List Int)) (r : List Int) : Bool := allI L.length fun i => metC r (getR .int L i)
def litN (n : Int) (c : List Int) : Prop := ∀ x ∈ c, 0 ≤ varOf x ∧ varOf x < n
theorem form_lits {n : Int} {L : List (List Int)} (h : formOk n L = true) : 0 ≤ n ∧ n ≤ 6 ∧ ∀ c ∈ L, litN n c := by
  unfold formOk at h
  simp only [Bool.and_eq_true, decide_eq_true_eq, Bool.not_eq_true', List.any_eq_false] at h
  obtain ⟨⟨⟨a, b⟩, _⟩, c⟩ := h
  refine ⟨a, b, fun k hk x hx => ?_⟩
  have h1 := c k hk
  unfold badC clauseB at h1
  simp only [Bool.not_eq_true', Bool.not_eq_false, Bool.and_eq_true, List.any_eq_false] at h1
  have h2 := h1.2 x hx
  unfold otherB outI at h2
  simp only [Bool.not_eq_true', Bool.not_eq_false, Bool.and_eq_true, decide_eq_true_eq] at h2
  exact h2
theorem sol_eq {n : Int} {L : List (List Int)} {r : List Int} (hf : formOk n L = true) (h : asgB n r = true) : (!L.any (notMet (padN r))) = solB L r := by
  obtain ⟨_, _, hl⟩ := form_lits hf
  have e : ∀ c ∈ L, c.any (meetB (padN r)) = metC r c := fun c hc => by
    unfold metC
    refine any_mem fun x hx => ?_
    exact meet_eq h (hl c hc x hx).1 (hl c hc x hx).2
  rw [Bool.eq_iff_iff]
  unfold solB
  constructor
  · intro k
    simp only [Bool.not_eq_true', List.any_eq_false] at k
    refine allI_good fun i a b => ?_
    have := k _ (getR_mem a b)
    unfold notMet at this
    rw [← e _ (getR_mem a b)]
    simpa using this
  · intro k
    simp only [Bool.not_eq_true', List.any_eq_false]
    intro c hc
    obtain ⟨j, hj, rfl⟩ := List.mem_iff_getElem.1 hc
    have h2 := allI_get k (k := (j : Int)) (by omega) (by omega)
    have h3 : getR .int L (j : Int) = L[j] := (List.getElem?_eq_some_iff.1 (getR_get (t := .int) (l := L) (i := (j : Int)) (by omega) (by omega))).2.symm
    unfold notMet
    rw [h3] at h2
    rw [e _ hc, h2]
    simp
theorem sp_meets (r : List Int) (x : Int) (hr : r.length ≤ 1048576) (hx : inI x) (h0 : 0 ≤ varOf x) (h1 : varOf x < r.length) : Spec2 Try.prog 97 [.sl .int fun _ => r, .int fun _ => x] [] [.bool fun _ => meetS r x] [] := by
  have h9 : meetS r x = _ := rfl
  conv at h9 => rhs; unfold meetS
  have h8 := inI_iff.1 hx
  unfold varOf at h0 h1
  refine fnS [] [4] Try.func97 rfl (by decide) rfl (by decide) (by kernel_rfl) rfl (by simp [Try.ntmps97]) ?_
  cbv
  ((try simp only [IfP_iff, and_true, true_and, decide_eq_true_eq, decide_eq_false_iff_not]); (try simp only [natc, getI_gi, at2_0, at2_1]); (try dsimp only [Ty.den]); (try simp only [natc] at *); (repeat' (first | apply And.intro | intro _)))
  all_goals (try (simp only [IfP_iff, EqU_iff, Obl_iff, and_true, true_and, inI_iff, decide_eq_true_eq, decide_eq_false_iff_not]; (try simp only [natc, getI_gi, at2_0, at2_1]); (try dsimp only [Ty.den]); try simp only [natc] at *))
  all_goals ((repeat' (first | apply And.intro | intro _)) <;> first | omega | (simp only [List.length_append, List.length_cons, List.length_nil]; omega) | grind)
theorem sp_solves (n : Int) (L : List (List Int)) (r : List Int) (hL : L.length ≤ 1048576) (hm : ∀ c ∈ L, c.length ≤ 1048576) (hr : r.length ≤ 1048576) (hx : ∀ c ∈ L, ∀ x ∈ c, inI x) (hl : ∀ c ∈ L, litN r.length c) : Spec2 Try.prog 67 [.agg (.pr .int (.sl (.sl .int))) fun _ => (n, L), .sl .int fun _ => r] [] [.bool fun _ => solB L r] [] := by
  have h9 : solB L r = allI L.length fun i => metC r (getR .int L i) := rfl
  refine fnS [] [4] Try.func67 rfl (by decide) rfl (by decide) (by kernel_rfl) rfl (by simp [Try.ntmps67]) ?_
  cbv
  refine loopP (by kernel_rfl) (fun i : Int => 0 ≤ i ∧ i ≤ L.length ∧ ∀ j : Int, 0 ≤ j → j < i → metC r (getR .int L j) = true) (fun i => [(5, .int fun _ => i)]) (fun _ => []) (fun i => (L.length - i).toNat) (· + 1) 0 (by grind) ?_ ?_
  · cbv
    (simp only [IfP_iff, EqU_iff, Obl_iff, and_true, true_and, inI_iff, decide_eq_true_eq, decide_eq_false_iff_not]; (try simp only [natc, getI_gi, at2_0, at2_1]); (try dsimp only [Ty.den]); try simp only [natc] at *)
  · intro i hi
    have h1 := allI_bad (n := L.length) (p := fun i => metC r (getR .int L i)) (k := i)
    have h2 := allI_good (n := L.length) (p := fun i => metC r (getR .int L i))
    have h3 := upTo (p := fun i => metC r (getR .int L i)) hi.2.2
    have h4 : i < (L.length : Int) → (getR .int L i).length ≤ 1048576 := fun h => hm _ (getR_mem hi.1 h)
    have h5 : i < (L.length : Int) → ∀ k : Int, 0 ≤ k → k < (getR .int L i).length → inI (gi (getR .int L i) k) ∧ 0 ≤ varOf (gi (getR .int L i) k) ∧ varOf (gi (getR .int L i) k) < r.length := fun h k a b => ⟨hx _ (getR_mem hi.1 h) _ (gi_mem a b), hl _ (getR_mem hi.1 h) _ (gi_mem a b)⟩
    clear hm hx hl
    cbv
    ((try simp only [IfP_iff, and_true, true_and, decide_eq_true_eq, decide_eq_false_iff_not]); (try simp only [natc, getI_gi, at2_0, at2_1]); (try dsimp only [Ty.den]); (try simp only [natc] at *); (repeat' (first | apply And.intro | intro _)))
    · have h6 := h4 (by assumption)
      have h7 := h5 (by assumption)
      clear h5
      refine loopP (by kernel_rfl) (fun k : Int => 0 ≤ k ∧ k ≤ (getR .int L i).length) (fun k => [(7, .int fun _ => k), (6, .bool fun _ => metC r ((getR .int L i).take k.toNat))]) (fun _ => []) (fun k => ((getR .int L i).length - k).toNat) (· + 1) 0 (by omega) ?_ ?_
      · cbv
        (simp only [IfP_iff, EqU_iff, Obl_iff, and_true, true_and, inI_iff, decide_eq_true_eq, decide_eq_false_iff_not]; (try simp only [natc, getI_gi, at2_0, at2_1]); (try dsimp only [Ty.den]); try simp only [natc] at *)
        rfl
      · intro k hk
        have i1 : k < ((getR .int L i).length : Int) → metC r ((getR .int L i).take (k + 1).toNat) = (metC r ((getR .int L i).take k.toNat) || meetS r (gi (getR .int L i) k)) := fun h => by
          unfold metC
          rw [take_gi hk.1 h, List.any_append, List.any_cons, List.any_nil, Bool.or_false]
        have i2 : ¬ k < ((getR .int L i).length : Int) → metC r ((getR .int L i).take k.toNat) = metC r (getR .int L i) := fun h => by rw [List.take_of_length_le (by omega)]
        have i3 := h7 k hk.1
        clear h7
        cbv
        ((try simp only [IfP_iff, and_true, true_and, decide_eq_true_eq, decide_eq_false_iff_not]); (try simp only [natc, getI_gi, at2_0, at2_1]); (try dsimp only [Ty.den]); (try simp only [natc] at *); (repeat' (first | apply And.intro | intro _)))
        all_goals (repeat' (first | ((first | refine call_q (sp_meets r (gi (getR .int L i) k) hr (i3 (by assumption)).1 (i3 (by assumption)).2.1 (i3 (by assumption)).2.2) (by cbv) ?_ | refine call_pure (sp_meets r (gi (getR .int L i) k) hr (i3 (by assumption)).1 (i3 (by assumption)).2.1 (i3 (by assumption)).2.2) (by cbv) ?_); cbv; ((try simp only [IfP_iff, and_true, true_and, decide_eq_true_eq, decide_eq_false_iff_not]); (try simp only [natc, getI_gi, at2_0, at2_1]); (try dsimp only [Ty.den]); (try simp only [natc] at *); (repeat' (first | apply And.intro | intro _))))))
        all_goals (try (simp only [IfP_iff, EqU_iff, Obl_iff, and_true, true_and, inI_iff, decide_eq_true_eq, decide_eq_false_iff_not]; (try simp only [natc, getI_gi, at2_0, at2_1]); (try dsimp only [Ty.den]); try simp only [natc] at *))
        all_goals (try simp only [show getI (.sl .int) L i = getR .int L i from rfl] at *)
        all_goals ((repeat' (first | apply And.intro | intro _)) <;> first | omega | (simp only [List.length_append, List.length_cons, List.length_nil]; omega) | grind)
    all_goals (try (simp only [IfP_iff, EqU_iff, Obl_iff, and_true, true_and, inI_iff, decide_eq_true_eq, decide_eq_false_iff_not]; (try simp only [natc, getI_gi, at2_0, at2_1]); (try dsimp only [Ty.den]); try simp only [natc] at *))
    all_goals ((repeat' (first | apply And.intro | intro _)) <;> first | omega | (simp only [List.length_append, List.length_cons, List.length_nil]; omega) | grind)
theorem sp_bits (n : Int) (r : List Int) (hr : r.length ≤ 1048576) : Spec2 Try.prog 66 [.int fun _ => n, .sl .int fun _ => r] [] [.bool fun _ => bitsB r && decide ((r.length : Int) = n)] [] := by
  have h9 : bitsB r = allI r.length fun i => !outI 2 (gi r i) := by
    rw [Bool.eq_iff_iff]
    unfold bitsB
    constructor
    · intro k
      simp only [Bool.not_eq_true', List.any_eq_false] at k
      refine allI_good fun i a b => ?_
      have := k _ (gi_mem a b)
      simpa using this
    · intro k
      simp only [Bool.not_eq_true', List.any_eq_false]
      intro x hx
      obtain ⟨j, h0, h1, e⟩ := mem_at hx
      have h2 := allI_get k h0 h1
      have e2 : gi r j = x := e
      simp only [e2] at h2
      simpa using h2
  have h8 : ∀ i : Int, (!outI 2 (gi r i)) = (decide (0 ≤ gi r i) && decide (gi r i ≤ 1)) := fun i => by
    unfold outI
    rw [Bool.eq_iff_iff]
    simp only [Bool.not_not, Bool.and_eq_true, decide_eq_true_eq]
    omega
  refine fnS [] [4] Try.func66 rfl (by decide) rfl (by decide) (by kernel_rfl) rfl (by simp [Try.ntmps66]) ?_
  cbv
  refine loopP (by kernel_rfl) (fun i : Int => 0 ≤ i ∧ i ≤ r.length ∧ ∀ j : Int, 0 ≤ j → j < i → (!outI 2 (gi r j)) = true) (fun i => [(5, .int fun _ => i)]) (fun _ => []) (fun i => (r.length - i).toNat) (· + 1) 0 (by grind) ?_ ?_
  · cbv
    (simp only [IfP_iff, EqU_iff, Obl_iff, and_true, true_and, inI_iff, decide_eq_true_eq, decide_eq_false_iff_not]; (try simp only [natc, getI_gi, at2_0, at2_1]); (try dsimp only [Ty.den]); try simp only [natc] at *)
  · intro i hi
    have h1 := allI_bad (n := r.length) (p := fun i => !outI 2 (gi r i)) (k := i)
    have h2 := allI_good (n := r.length) (p := fun i => !outI 2 (gi r i))
    have h3 := upTo (p := fun i => !outI 2 (gi r i)) hi.2.2
    have h4 := h8 i
    clear h8
    cbv
    ((try simp only [IfP_iff, and_true, true_and, decide_eq_true_eq, decide_eq_false_iff_not]); (try simp only [natc, getI_gi, at2_0, at2_1]); (try dsimp only [Ty.den]); (try simp only [natc] at *); (repeat' (first | apply And.intro | intro _)))
    all_goals (repeat' (first | ((first | refine call_q (sp_in _ _ _) (by cbv) ?_ | refine call_pure (sp_in _ _ _) (by cbv) ?_); cbv; ((try simp only [IfP_iff, and_true, true_and, decide_eq_true_eq, decide_eq_false_iff_not]); (try simp only [natc, getI_gi, at2_0, at2_1]); (try dsimp only [Ty.den]); (try simp only [natc] at *); (repeat' (first | apply And.intro | intro _))))))
    all_goals (try (simp only [IfP_iff, EqU_iff, Obl_iff, and_true, true_and, inI_iff, decide_eq_true_eq, decide_eq_false_iff_not]; (try simp only [natc, getI_gi, at2_0, at2_1]); (try dsimp only [Ty.den]); try simp only [natc] at *))
    all_goals ((repeat' (first | apply And.intro | intro _)) <;> first | omega | (simp only [List.length_append, List.length_cons, List.length_nil]; omega) | grind)
def solR (n : Int) (L : List (List Int)) (r : List Int) : Bool := formOk n L && asgB n r
theorem solR_sp {n : Int} {L : List (List Int)} {r : List Int} : solR n L r = (formOk n L && (bitsB r && decide ((r.length : Int) = n))) := by
  unfold solR
  cases hf : formOk n L with
  | false => rfl
  | true =>
    have := (form_lits hf).2.1
    unfold asgB
    rw [decide_eq_true this, Bool.and_true, Bool.and_comm (bitsB r)]
theorem sp_isSol (n : Int) (L : List (List Int)) (r : List Int) (hL : L.length ≤ 1048576) (hm : ∀ c ∈ L, c.length ≤ 1048576) (hx : ∀ c ∈ L, ∀ x ∈ c, inI x) (hr : r.length ≤ 1048576) : Spec2 Try.prog 31 [.agg (.pr .int (.sl (.sl .int))) fun _ => (n, L), .sl .int fun _ => r] [] [.bool fun _ => solR n L r && solB L r, .bool fun _ => solR n L r] [] := by
  have h9 := solR_sp (n := n) (L := L) (r := r)
  have h8 : solR n L r = true → ∀ c ∈ L, litN r.length c := fun h c hc => by
    unfold solR at h
    simp only [Bool.and_eq_true] at h
    rw [(asgB_in h.2).1]
    exact (form_lits h.1).2.2 c hc
  refine fnS [] [4, 5] Try.func31 rfl (by decide) rfl (by decide) (by kernel_rfl) rfl (by simp [Try.ntmps31]) ?_
  cbv
  ((try simp only [IfP_iff, and_true, true_and, decide_eq_true_eq, decide_eq_false_iff_not]); (try simp only [natc, getI_gi, at2_0, at2_1]); (try dsimp only [Ty.den]); (try simp only [natc] at *); (repeat' (first | apply And.intro | intro _)))
  all_goals (repeat' (first | ((first | refine call_q (Spec2.agg6 (t := (.pr .int (.sl (.sl .int)))) (x := fun _ => (n, L)) (sp_good6 n L hL hm)) (by cbv) ?_ | refine call_pure (Spec2.agg6 (t := (.pr .int (.sl (.sl .int)))) (x := fun _ => (n, L)) (sp_good6 n L hL hm)) (by cbv) ?_); cbv; ((try simp only [IfP_iff, and_true, true_and, decide_eq_true_eq, decide_eq_false_iff_not]); (try simp only [natc, getI_gi, at2_0, at2_1]); (try dsimp only [Ty.den]); (try simp only [natc] at *); (repeat' (first | apply And.intro | intro _)))) | ((first | refine call_q (sp_bits n r hr) (by cbv) ?_ | refine call_pure (sp_bits n r hr) (by cbv) ?_); cbv; ((try simp only [IfP_iff, and_true, true_and, decide_eq_true_eq, decide_eq_false_iff_not]); (try simp only [natc, getI_gi, at2_0, at2_1]); (try dsimp only [Ty.den]); (try simp only [natc] at *); (repeat' (first | apply And.intro | intro _))))))
  all_goals (try (simp only [IfP_iff, EqU_iff, Obl_iff, and_true, true_and, inI_iff, decide_eq_true_eq, decide_eq_false_iff_not]; (try simp only [natc, getI_gi, at2_0, at2_1]); (try dsimp only [Ty.den]); try simp only [natc] at *))
  all_goals (try (rw [h9]; clear hm hx h8; grind))
  have hs : solR n L r = true := by rw [h9]; clear hm hx h8; grind
  rw [hs]
  repeat' (first | ((first | refine call_q (sp_solves n L r hL hm hr hx (h8 hs)) (by cbv) ?_ | refine call_pure (sp_solves n L r hL hm hr hx (h8 hs)) (by cbv) ?_); cbv; ((try simp only [IfP_iff, and_true, true_and, decide_eq_true_eq, decide_eq_false_iff_not]); (try simp only [natc, getI_gi, at2_0, at2_1]); (try dsimp only [Ty.den]); (try simp only [natc] at *); (repeat' (first | apply And.intro | intro _)))))
  all_goals (try (simp only [IfP_iff, EqU_iff, Obl_iff, and_true, true_and, inI_iff, decide_eq_true_eq, decide_eq_false_iff_not]; (try simp only [natc, getI_gi, at2_0, at2_1]); (try dsimp only [Ty.den]); try simp only [natc] at *))
  all_goals (try rfl)
def reQ (q : Int × List Int) : Int × List Int := (gi (q.1 :: q.2) 0, List.drop 1 (q.1 :: q.2))
theorem im_isMet2 (n : Int) (L : List (List Int)) (q : Int × List Int) (hl : q.2.length = 6) (hL : L.length ≤ 1048576) (hm : ∀ c ∈ L, c.length ≤ 1048576) (hx : ∀ c ∈ L, litsIn c) : Spec2 Try.prog 69 [.agg (.pr .int (.sl (.sl .int))) fun _ => (n, L), .agg (.pr .int (.ar 5 .int)) fun _ => (gi (q.1 :: q.2) 0, List.drop 1 (q.1 :: q.2))] [] [.bool fun _ => !L.any (notMet q.2)] [] := im_isMet n q.1 L q.2 hl hL hm hx
theorem im_isSol (n : Int) (L : List (List Int)) (r : List Int) (hL : L.length ≤ 1048576) (hm : ∀ c ∈ L, c.length ≤ 1048576) (hx : ∀ c ∈ L, ∀ x ∈ c, inI x) (hr : r.length ≤ 1048576) : Spec2 Try.prog 32 [.agg (.pr .int (.sl (.sl .int))) fun _ => (n, L), .sl .int fun _ => r] [] [.bool fun _ => solR n L r && solB L r, .bool fun _ => solR n L r] [] := by
  have h9 : solR n L r = (formOk n L && asgB n r) := rfl
  have h8 : solR n L r = true → ∀ c ∈ L, litsIn c := fun h c hc x hxc => by
    unfold solR at h
    simp only [Bool.and_eq_true] at h
    obtain ⟨a, b, c'⟩ := form_lits h.1
    have := c' c hc x hxc
    exact ⟨hx c hc x hxc, this.1, by omega⟩
  have h7 : solR n L r = true → (!L.any (notMet (padN r))) = solB L r := fun h => by
    unfold solR at h
    simp only [Bool.and_eq_true] at h
    exact sol_eq h.1 h.2
  have h6 : solR n L r = true → (padN r).length = 6 := fun h => by
    unfold solR at h
    simp only [Bool.and_eq_true] at h
    exact padN_len (by have := asgB_in h.2; omega)
  have h5 : solR n L r = true → asgV n r = (n, padN r) := fun h => by
    unfold solR at h
    simp only [Bool.and_eq_true] at h
    unfold asgV
    rw [if_pos h.2]
  refine fnS [] [4, 5] Try.func32 rfl (by decide) rfl (by decide) (by kernel_rfl) rfl (by simp [Try.ntmps32]) ?_
  cbv
  ((try simp only [IfP_iff, and_true, true_and, decide_eq_true_eq, decide_eq_false_iff_not]); (try simp only [natc, getI_gi, at2_0, at2_1]); (try dsimp only [Ty.den]); (try simp only [natc] at *); (repeat' (first | apply And.intro | intro _)))
  all_goals (repeat' (first | ((first | refine call_q (im_asgOf n r hr) (by cbv) ?_ | refine call_pure (im_asgOf n r hr) (by cbv) ?_); cbv; ((try simp only [IfP_iff, and_true, true_and, decide_eq_true_eq, decide_eq_false_iff_not]); (try simp only [natc, getI_gi, at2_0, at2_1]); (try dsimp only [Ty.den]); (try simp only [natc] at *); (repeat' (first | apply And.intro | intro _)))) | ((first | refine call_q (Spec2.agg6 (t := (.pr .int (.sl (.sl .int)))) (x := fun _ => (n, L)) (im_isFormula n L hL hm hx)) (by cbv) ?_ | refine call_pure (Spec2.agg6 (t := (.pr .int (.sl (.sl .int)))) (x := fun _ => (n, L)) (im_isFormula n L hL hm hx)) (by cbv) ?_); cbv; ((try simp only [IfP_iff, and_true, true_and, decide_eq_true_eq, decide_eq_false_iff_not]); (try simp only [natc, getI_gi, at2_0, at2_1]); (try dsimp only [Ty.den]); (try simp only [natc] at *); (repeat' (first | apply And.intro | intro _))))))
  all_goals (try (simp only [IfP_iff, EqU_iff, Obl_iff, and_true, true_and, inI_iff, decide_eq_true_eq, decide_eq_false_iff_not]; (try simp only [natc, getI_gi, at2_0, at2_1]); (try dsimp only [Ty.den]); try simp only [natc] at *))
  all_goals (try (rw [h9]; clear hm hx h8 h7 h6 h5; grind))
  have hs : solR n L r = true := by rw [h9]; clear hm hx h8 h7 h6 h5; grind
  have e := h5 hs
  have e6 := h6 hs
  rw [hs, ← h7 hs, show padN r = (asgV n r).2 by rw [e]]
  have hm2 := im_isMet2 n L (asgV n r) (by rw [e]; exact e6) hL hm (h8 hs)
  clear h8 h7 h6 h5 hm hx
  ((first | refine call_q hm2 (by cbv) ?_ | refine call_pure hm2 (by cbv) ?_); cbv; ((try simp only [IfP_iff, and_true, true_and, decide_eq_true_eq, decide_eq_false_iff_not]); (try simp only [natc, getI_gi, at2_0, at2_1]); (try dsimp only [Ty.den]); (try simp only [natc] at *); (repeat' (first | apply And.intro | intro _))))
  all_goals (try (simp only [IfP_iff, EqU_iff, Obl_iff, and_true, true_and, inI_iff, decide_eq_true_eq, decide_eq_false_iff_not]; (try simp only [natc, getI_gi, at2_0, at2_1]); (try dsimp only [Ty.den]); try simp only [natc] at *))
  all_goals (try rfl)
end Go.Proofs.Ytcgeedklfejhbaa.M

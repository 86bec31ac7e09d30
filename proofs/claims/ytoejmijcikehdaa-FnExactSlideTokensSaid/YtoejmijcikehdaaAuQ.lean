/- Solutions: on both sides. -/
import Derived.Test.YtoejmijcikehdaaAtQ
import Derived.Test.YtoejmijcikehdaaSpQ
import Derived.Test.YtoejmijcikehdaaQg
namespace Go.Proofs.Ytoejmijcikehdaa.M
open Go.RowKit Abs
set_option linter.unusedSimpArgs false
set_option linter.unusedVariables false
set_option maxRecDepth 100000
set_option maxHeartbeats 4000000
def meetS (r : List Int) (x : Int) : Bool := if 0 < x then decide (gi r (x - 1) = 1) else decide (gi r (0 - x - 1) = 0)
theorem gi_pad {r : List Int} {k : Int} (h0 : 0 ≤ k) (h1 : k < (r.length : Int)) : gi (padN r) k = gi r k := by
  unfold gi padN
  rw [List.getD_eq_getElem?_getD, List.getD_eq_getElem?_getD, List.getElem?_append_left (by omega)]
theorem meet_eq {n x : Int} {r : List Int} (h : asgB n r = true) (h0 : 0 ≤ varOf x) (h1 : varOf x < n) : meetB (padN r) x = meetS r x := by
  obtain ⟨a, b, c⟩ := asgB_in h
  have e := gi_pad (r := r) h0 (by omega)
  have d := c _ (gi_mem (l := r) h0 (by omega))
  unfold meetB meetS
  unfold varOf at *
  by_cases hx : 0 < x
  · simp only [hx, if_true] at *
    rw [e]
  · simp only [hx, if_false] at *
    rw [e, show 0 - x - 1 = -1 - x by omega]
    rcases d with d | d <;> rw [d] <;> rfl
theorem any_mem {α : Type} {l : List α} {p q : α → Bool} (h : ∀ x ∈ l, p x = q x) : l.any p = l.any q := by
  rw [Bool.eq_iff_iff, List.any_eq_true, List.any_eq_true]
  exact ⟨fun ⟨x, hx, k⟩ => ⟨x, hx, h x hx ▸ k⟩, fun ⟨x, hx, k⟩ => ⟨x, hx, (h x hx).symm ▸ k⟩⟩
def metC (r c : List Int) : Bool := c.any (meetS r)
def solB (L : List (List Int)) (r : List Int) : Bool := allI L.length fun i => metC r (getR .int L i)
def litN (n : Int) (c : List Int) : Prop := ∀ x ∈ c, 0 ≤ varOf x ∧ varOf x < n
theorem form_lits {n : Int} {L : List (List Int)} (h : formOk n L = true) : 0 ≤ n ∧ n ≤ 6 ∧ ∀ c ∈ L, litN n c := by
  unfold formOk at h
  simp only [Bool.and_eq_true, decide_eq_true_eq, Bool.not_eq_true', List.any_eq_false] at h
  obtain ⟨⟨⟨a, b⟩, _⟩, c⟩ := h
  refine ⟨a, b, fun k hk x hx => ?_⟩
  have h1 := c k hk
  unfold badC clauseB at h1
  simp only [Bool.not_eq_true', Bool.not_eq_false, Bool.and_eq_true, List.any_eq_false] at h1
  have h2 := h1.2 x hx
  unfold otherB outI at h2
  simp only [Bool.not_eq_true', Bool.not_eq_false, Bool.and_eq_true, decide_eq_true_eq] at h2
  exact h2
theorem sol_eq {n : Int} {L : List (List Int)} {r : List Int} (hf : formOk n L = true) (h : asgB n r = true) : (!L.any (notMet (padN r))) = solB L r := by
  obtain ⟨_, _, hl⟩ := form_lits hf
  have e : ∀ c ∈ L, c.any (meetB (padN r)) = metC r c := fun c hc => by
    unfold metC
    refine any_mem fun x hx => ?_
    exact meet_eq h (hl c hc x hx).1 (hl c hc x hx).2
  rw [Bool.eq_iff_iff]
  unfold solB
  constructor
  · intro k
    simp only [Bool.not_eq_true', List.any_eq_false] at k
    refine allI_good fun i a b => ?_
    have := k _ (getR_mem a b)
    unfold notMet at this
    rw [← e _ (getR_mem a b)]
    simpa using this
  · intro k
    simp only [Bool.not_eq_true', List.any_eq_false]
    intro c hc
    obtain ⟨j, hj, rfl⟩ := List.mem_iff_getElem.1 hc
    have h2 := allI_get k (k := (j : Int)) (by omega) (by omega)
    have h3 : getR .int L (j : Int) = L[j] := (List.getElem?_eq_some_iff.1 (getR_get (t := .int) (l := L) (i := (j : Int)) (by omega) (by omega))).2.symm
    unfold notMet
    rw [h3] at h2
    rw [e _ hc, h2]
    simp
def solR (n : Int) (L : List (List Int)) (r : List Int) : Bool := formOk n L && asgB n r
theorem solR_sp {n : Int} {L : List (List Int)} {r : List Int} : solR n L r = (formOk n L && (bitsB r && decide ((r.length : Int) = n))) := by
  unfold solR
  cases hf : formOk n L with
  | false => rfl
  | true =>
    have := (form_lits hf).2.1
    unfold asgB
    rw [decide_eq_true this, Bool.and_true, Bool.and_comm (bitsB r)]
def reQ (q : Int × List Int) : Int × List Int := (gi (q.1 :: q.2) 0, List.drop 1 (q.1 :: q.2))
end Go.Proofs.Ytoejmijcikehdaa.M

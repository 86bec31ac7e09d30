/- The steps from a place, on both sides. -/
import Derived.Test.YthogfineaeklpaaSiQ
import Derived.Test.YthogfineaeklpaaQe
namespace Go.Proofs.Ythogfineaeklpaa.M
open Go.RowKit Abs
set_option linter.unusedSimpArgs false
set_option linter.unusedVariables false
set_option maxRecDepth 100000
set_option maxHeartbeats 4000000
theorem pairs_edges {n : Int} {l : List (Int × Int)} (h2 : pairsOk l n = true) : (∀ e ∈ l, 0 ≤ e.1 ∧ e.1 < e.2 ∧ e.2 < n) ∧ l.Pairwise fun p q => edgeLt p q = true := by
  have h3 : ∀ k : Nat, k < l.length → goodI l n k = true := fun k hk => List.all_eq_true.1 h2 k (by simpa using hk)
  have h4 : ∀ (k : Nat) (e : Int × Int), l[k]? = some e → getI (.pr .int .int) l k = e := fun k e he => by
    obtain ⟨hk, he'⟩ := List.getElem?_eq_some_iff.1 he
    unfold getI
    rw [List.getD_eq_getElem?_getD]
    simp [he]
  refine ⟨fun e he => ?_, ?_⟩
  · obtain ⟨k, hk⟩ := List.mem_iff_getElem?.1 he
    have := h3 k (List.getElem?_eq_some_iff.1 hk).1
    simp only [goodI, h4 k e hk, Bool.and_eq_true, decide_eq_true_eq] at this
    exact ⟨this.1.1.1, this.1.1.2, this.1.2⟩
  · have adj : ∀ k, (hk : k + 1 < l.length) → edgeLt l[k] l[k + 1] = true := fun k hk => by
      have := h3 (k + 1) hk
      simp only [goodI, Bool.and_eq_true, Bool.or_eq_true, decide_eq_true_eq] at this
      have e1 := h4 (k + 1) l[k + 1] (List.getElem?_eq_getElem hk)
      have e2 := h4 k l[k] (List.getElem?_eq_getElem (by omega))
      rw [show (((k + 1 : Nat) : Int) - 1) = (k : Int) by omega, e1, e2] at this
      rcases this.2 with h | h
      · omega
      · exact h
    have tr : ∀ p q r : Int × Int, edgeLt p q = true → edgeLt q r = true → edgeLt p r = true := fun p q r => by simp only [edgeLt]; grind
    rw [List.pairwise_iff_getElem]
    intro i j hi hj hij
    obtain ⟨d, rfl⟩ : ∃ d, j = i + 1 + d := ⟨j - i - 1, by omega⟩
    induction d with
    | zero => exact adj i hj
    | succ d ih => exact tr _ _ _ (ih (by omega) (by omega)) (adj (i + 1 + d) hj)
theorem space_parts {L : List (List Int)} {l : List (Int × Int)} (h : spaceOk L l = true) : (L.length : Int) ≤ 300 ∧ (l.length : Int) ≤ 6000 ∧ statesOk L = true ∧ pairsOk l L.length = true := by
  simp only [spaceOk, Bool.and_eq_true, decide_eq_true_eq] at h
  exact ⟨h.1.1.1, h.1.1.2, h.1.2, h.2⟩
/-- The places at the other ends of the pairs, in their order. -/
def fromV (v : Int) (m : List (Int × Int)) : List Int := m.flatMap fun e => (if e.1 = v then [e.2] else []) ++ if e.2 = v then [e.1] else []
theorem fromV_next {m : List (Int × Int)} {v k : Int} (h0 : 0 ≤ k) (h1 : k < (m.length : Int)) : fromV v (m.take (k + 1).toNat) = fromV v (m.take k.toNat) ++ ((if (getI (.pr .int .int) m k).1 = v then [(getI (.pr .int .int) m k).2] else []) ++ if (getI (.pr .int .int) m k).2 = v then [(getI (.pr .int .int) m k).1] else []) := by
  unfold fromV
  rw [take_getI (t := (.pr .int .int)) h0 h1, List.flatMap_append]
  simp
theorem fromV_len (v : Int) : ∀ m : List (Int × Int), (fromV v m).length ≤ 2 * m.length
  | [] => by simp [fromV]
  | e :: m => by
    have := fromV_len v m
    unfold fromV at this ⊢
    rw [List.flatMap_cons, List.length_append, List.length_append, List.length_cons]
    have h1 : ∀ (p : Prop) [Decidable p] (a : Int), (if p then [a] else []).length ≤ 1 := fun p _ a => by split <;> simp
    have := h1 (e.1 = v) e.2
    have := h1 (e.2 = v) e.1
    omega
theorem from_row {v : Int} : ∀ {m : List (Int × Int)}, (∀ e ∈ m, e.1 ≠ e.2) → fromV v m = rowV v m
  | [], _ => rfl
  | e :: m, h => by
    have ih := from_row (v := v) (m := m) fun x hx => h x (by simp [hx])
    have hne := h e (by simp)
    unfold fromV rowV at ih ⊢
    rw [List.flatMap_cons, ih, List.filterMap_cons]
    by_cases a : e.1 = v <;> by_cases b : e.2 = v
    · exact (hne (a.trans b.symm)).elim
    · simp [a, b]
    · simp [a, b]
    · simp [a, b]
def okS (L : List (List Int)) (l : List (Int × Int)) (i : Int) : Bool := spaceOk L l && (decide (0 ≤ i) && decide (i < L.length))
theorem inAll_one {n i : Int} : inAll n [i] = (decide (0 ≤ i) && decide (i < n)) := by
  simp [inAll, allI, getI]
theorem stepsFrom_bound {L : List (List Int)} {l : List (Int × Int)} {i : Int} : (if okS L l i = true then fromV i l else []).length ≤ 1048576 := by
  split
  · rename_i h
    simp only [okS, Bool.and_eq_true] at h
    have := (space_parts h.1).2.1
    have := fromV_len i l
    omega
  · simp
end Go.Proofs.Ythogfineaeklpaa.M

/- Distances in a Space (pure): neighbours are a step apart at most, and each place that is found has one before it. -/
import Derived.Test.YtemdajfcfmefnaaDsQ
import Derived.Test.YtemdajfcfmefnaaBsQ
namespace Go.Proofs.Ytemdajfcfmefnaa.M
open Go.RowKit Abs
set_option linter.unusedSimpArgs false
set_option linter.unusedVariables false
set_option maxRecDepth 100000
set_option maxHeartbeats 4000000
theorem rowV_mem {n v x : Int} {l : List (Int × Int)} (h : pairsOk l n = true) : x ∈ rowV v l ↔ (x, v) ∈ l ∨ (v, x) ∈ l := by
  have he := (pairs_edges h).1
  unfold rowV
  rw [List.mem_filterMap]
  constructor
  · rintro ⟨⟨a, b⟩, hm, hx⟩
    have := he _ hm
    simp only at hx this
    split at hx
    · rename_i e; cases hx; exact .inl (e ▸ hm)
    · split at hx
      · rename_i e; cases hx; exact .inr (e ▸ hm)
      · cases hx
  · rintro (hm | hm)
    · exact ⟨_, hm, by simp⟩
    · have := he _ hm
      refine ⟨_, hm, ?_⟩
      simp only at this ⊢
      rw [if_neg (by omega)]; simp
theorem near_sym {n : Nat} {l : List (Int × Int)} (h : pairsOk l n = true) {u v : Int} (u0 : 0 ≤ u) (v0 : 0 ≤ v) : v ∈ getR .int (nearR l n) u ↔ u ∈ getR .int (nearR l n) v := by
  have he := (pairs_edges h).1
  rw [nearR_row u0 he, nearR_row v0 he, rowV_mem h, rowV_mem h]
  exact Or.comm
/-- A neighbor of a place that is found is found, a step nearer or farther at most. -/
theorem dist_step {L : List (List Int)} {l : List (Int × Int)} {i u v : Int} (hp : pairsOk l L.length = true) (h0 : 0 ≤ i) (h1 : i < L.length) (u0 : 0 ≤ u) (u1 : u < L.length) (hu : 0 ≤ gi (distR L l i) u) (hv : v ∈ getR .int (nearR l L.length) u) :
    0 ≤ v ∧ v < L.length ∧ 0 ≤ gi (distR L l i) v ∧ gi (distR L l i) v ≤ gi (distR L l i) u + 1 ∧ gi (distR L l i) u ≤ gi (distR L l i) v + 1 := by
  obtain ⟨n1, n2, n3⟩ := near_ok hp
  have hr : 0 ≤ v ∧ v < ((nearR l L.length).length : Int) := near_row n2 _ v hv
  have a := search_step (q := fun _ => true) h0 (by omega) n2 u0 (by omega) hu hv rfl
  have b := search_step (q := fun _ => true) h0 (by omega) n2 hr.1 hr.2 a.1 ((near_sym hp u0 hr.1).1 hv) rfl
  exact ⟨hr.1, by rw [n1] at hr; exact hr.2, a.1, a.2, b.2⟩
/-- Each place that is found, but the first, has a neighbor a step nearer. -/
theorem dist_pred {L : List (List Int)} {l : List (Int × Int)} {i v : Int} (hp : pairsOk l L.length = true) (h0 : 0 ≤ i) (h1 : i < L.length) (v0 : 0 ≤ v) (v1 : v < L.length) (hv : 0 ≤ gi (distR L l i) v) (hn : v ≠ i) :
    ∃ u ∈ getR .int (nearR l L.length) v, gi (distR L l i) u = gi (distR L l i) v - 1 ∧ 0 ≤ gi (distR L l i) u := by
  obtain ⟨n1, n2, n3⟩ := near_ok hp
  rcases search_pred (q := fun _ => true) h0 (by omega) n2 v0 (by omega) hv with e | ⟨_, u, a, b, c, d, e⟩
  · exact absurd e hn
  · exact ⟨u, (near_sym hp a v0).1 d, by unfold distR; omega, c⟩
theorem dist_zero {L : List (List Int)} {l : List (Int × Int)} {i : Int} (hp : pairsOk l L.length = true) (h0 : 0 ≤ i) (h1 : i < L.length) : gi (distR L l i) i = 0 ∧ ∀ v : Int, 0 ≤ v → v < L.length → gi (distR L l i) v = 0 → v = i := by
  obtain ⟨n1, n2, n3⟩ := near_ok hp
  refine ⟨(search_core (q := fun _ => true) h0 (by omega) n2).src.2, fun v v0 v1 hv => ?_⟩
  by_cases e : v = i
  · exact e
  · obtain ⟨u, _, a, b⟩ := dist_pred hp h0 h1 v0 v1 (by omega) e
    omega
end Go.Proofs.Ytemdajfcfmefnaa.M

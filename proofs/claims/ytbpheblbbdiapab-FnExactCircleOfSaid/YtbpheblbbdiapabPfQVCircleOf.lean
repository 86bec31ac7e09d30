/- The numbers below k that fulfil p, in ascending order; marks in a row of truth values (pure). -/
import Derived.Test.YtbpheblbbdiapabQgVCircleOf
namespace Go.Proofs.Ytbpheblbbdiapab.M
open Go.RowKit Abs
set_option linter.unusedSimpArgs false
set_option linter.unusedVariables false
set_option maxRecDepth 100000
set_option maxHeartbeats 4000000
def pref (p : Int → Bool) (k : Nat) : List Int := ((List.range k).map Int.ofNat).filter p
theorem pref_next {p : Int → Bool} {k : Int} (h0 : 0 ≤ k) : pref p (k + 1).toNat = pref p k.toNat ++ if p k = true then [k] else [] := by
  have e : (k + 1).toNat = k.toNat + 1 := by omega
  unfold pref
  rw [e, List.range_succ, List.map_append, List.filter_append]
  congr 1
  have e2 : Int.ofNat k.toNat = k := by simp; omega
  simp only [List.map_cons, List.map_nil, e2]
  by_cases h : p k = true
  · rw [List.filter_cons_of_pos h, if_pos h]; rfl
  · rw [List.filter_cons_of_neg h, if_neg h]; rfl
theorem pref_len {p : Int → Bool} {k : Int} (h0 : 0 ≤ k) : ((pref p k.toNat).length : Int) ≤ k := by
  unfold pref
  have := List.length_filter_le p ((List.range k.toNat).map Int.ofNat)
  simp only [List.length_map, List.length_range] at this
  omega
theorem pref_congr {p q : Int → Bool} {k : Nat} (h : ∀ x : Int, 0 ≤ x → x < k → p x = q x) : pref p k = pref q k := by
  unfold pref
  refine List.filter_congr fun x hx => ?_
  simp only [List.mem_map, List.mem_range] at hx
  obtain ⟨a, ha, rfl⟩ := hx
  exact h _ (by simp) (by simp only [Int.ofNat_eq_natCast]; omega)
theorem pref_mem {p : Int → Bool} {k : Nat} {x : Int} : x ∈ pref p k ↔ 0 ≤ x ∧ x < k ∧ p x = true := by
  unfold pref
  rw [List.mem_filter, List.mem_map]
  constructor
  · rintro ⟨⟨a, ha, rfl⟩, h⟩
    rw [List.mem_range] at ha
    exact ⟨by simp, by simp only [Int.ofNat_eq_natCast]; omega, h⟩
  · rintro ⟨h0, h1, h2⟩
    exact ⟨⟨x.toNat, by rw [List.mem_range]; omega, by simp only [Int.ofNat_eq_natCast]; omega⟩, h2⟩
/-- Two ascending lists with the same members are one. -/
theorem asc_eq : ∀ {a b : List Int}, a.Pairwise (· < ·) → b.Pairwise (· < ·) → (∀ x, x ∈ a ↔ x ∈ b) → a = b
  | [], [], _, _, _ => rfl
  | [], y :: b, _, _, h => by have := (h y).2 (by simp); simp at this
  | x :: a, [], _, _, h => by have := (h x).1 (by simp); simp at this
  | x :: a, y :: b, ha, hb, h => by
    rw [List.pairwise_cons] at ha hb
    have e : x = y := by
      have h1 := (h x).1 (by simp)
      have h2 := (h y).2 (by simp)
      rcases List.mem_cons.1 h1 with e | e
      · exact e
      · rcases List.mem_cons.1 h2 with f | f
        · exact f.symm
        · have := hb.1 x e
          have := ha.1 y f
          omega
    subst e
    rw [asc_eq ha.2 hb.2 fun z => ?_]
    constructor
    · intro hz
      have := ha.1 z hz
      rcases List.mem_cons.1 ((h z).1 (by simp [hz])) with e | e
      · omega
      · exact e
    · intro hz
      have := hb.1 z hz
      rcases List.mem_cons.1 ((h z).2 (by simp [hz])) with e | e
      · omega
      · exact e
def gb (s : List Bool) (i : Int) : Bool := s.getD i.toNat false
/-- Where p is so, too, it is marked. -/
def markP (p : Int → Bool) (s : List Bool) : List Bool := (List.range s.length).map fun j => s.getD j false || p j
end Go.Proofs.Ytbpheblbbdiapab.M

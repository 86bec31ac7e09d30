/- The numbers below k that fulfil p, in ascending order; marks in a row of truth values (pure). -/
import Derived.Test.YthogfineaeklpaaQg
namespace Go.Proofs.Ythogfineaeklpaa.M
open Go.RowKit Abs
set_option linter.unusedSimpArgs false
set_option linter.unusedVariables false
set_option maxRecDepth 100000
set_option maxHeartbeats 4000000
def pref (p : Int → Bool) (k : Nat) : List Int := ((List.range k).map Int.ofNat).filter p
theorem pref_next {p : Int → Bool} {k : Int} (h0 : 0 ≤ k) : pref p (k + 1).toNat = pref p k.toNat ++ if p k = true then [k] else [] := by
  have e : (k + 1).toNat = k.toNat + 1 := by omega
  unfold pref
  rw [e, List.range_succ, List.map_append, List.filter_append]
  congr 1
  have e2 : Int.ofNat k.toNat = k := by simp; omega
  simp only [List.map_cons, List.map_nil, e2]
  by_cases h : p k = true
  · rw [List.filter_cons_of_pos h, if_pos h]; rfl
  · rw [List.filter_cons_of_neg h, if_neg h]; rfl
theorem pref_len {p : Int → Bool} {k : Int} (h0 : 0 ≤ k) : ((pref p k.toNat).length : Int) ≤ k := by
  unfold pref
  have := List.length_filter_le p ((List.range k.toNat).map Int.ofNat)
  simp only [List.length_map, List.length_range] at this
  omega
theorem pref_congr {p q : Int → Bool} {k : Nat} (h : ∀ x : Int, 0 ≤ x → x < k → p x = q x) : pref p k = pref q k := by
  unfold pref
  refine List.filter_congr fun x hx => ?_
  simp only [List.mem_map, List.mem_range] at hx
  obtain ⟨a, ha, rfl⟩ := hx
  exact h _ (by simp) (by simp only [Int.ofNat_eq_natCast]; omega)
theorem pref_more {p : Int → Bool} {k : Nat} : ∀ {m : Nat}, k ≤ m → (∀ x : Int, k ≤ x → x < m → p x = false) → pref p m = pref p k
  | 0, hm, _ => by rw [show k = 0 by omega]
  | m + 1, hm, h => by
    by_cases e : k = m + 1
    · rw [e]
    · rw [← pref_more (m := m) (by omega) fun x a b => h x a (by omega)]
      have := pref_next (p := p) (k := (m : Int)) (by omega)
      rw [show ((m : Int) + 1).toNat = m + 1 by omega, show ((m : Int)).toNat = m by omega, h m (by omega) (by omega)] at this
      rw [this]; simp
theorem pref_mem {p : Int → Bool} {k : Nat} {x : Int} : x ∈ pref p k ↔ 0 ≤ x ∧ x < k ∧ p x = true := by
  unfold pref
  rw [List.mem_filter, List.mem_map]
  constructor
  · rintro ⟨⟨a, ha, rfl⟩, h⟩
    rw [List.mem_range] at ha
    exact ⟨by simp, by simp only [Int.ofNat_eq_natCast]; omega, h⟩
  · rintro ⟨h0, h1, h2⟩
    exact ⟨⟨x.toNat, by rw [List.mem_range]; omega, by simp only [Int.ofNat_eq_natCast]; omega⟩, h2⟩
theorem pref_asc (p : Int → Bool) (k : Nat) : (pref p k).Pairwise (· < ·) := by
  unfold pref
  refine List.Pairwise.filter _ ?_
  rw [List.pairwise_map]
  exact List.pairwise_lt_range.imp fun h => by simp only [Int.ofNat_eq_natCast]; omega
/-- Two ascending lists with the same members are one. -/
theorem asc_eq : ∀ {a b : List Int}, a.Pairwise (· < ·) → b.Pairwise (· < ·) → (∀ x, x ∈ a ↔ x ∈ b) → a = b
  | [], [], _, _, _ => rfl
  | [], y :: b, _, _, h => by have := (h y).2 (by simp); simp at this
  | x :: a, [], _, _, h => by have := (h x).1 (by simp); simp at this
  | x :: a, y :: b, ha, hb, h => by
    rw [List.pairwise_cons] at ha hb
    have e : x = y := by
      have h1 := (h x).1 (by simp)
      have h2 := (h y).2 (by simp)
      rcases List.mem_cons.1 h1 with e | e
      · exact e
      · rcases List.mem_cons.1 h2 with f | f
        · exact f.symm
        · have := hb.1 x e
          have := ha.1 y f
          omega
    subst e
    rw [asc_eq ha.2 hb.2 fun z => ?_]
    constructor
    · intro hz
      have := ha.1 z hz
      rcases List.mem_cons.1 ((h z).1 (by simp [hz])) with e | e
      · omega
      · exact e
    · intro hz
      have := hb.1 z hz
      rcases List.mem_cons.1 ((h z).2 (by simp [hz])) with e | e
      · omega
      · exact e
def gb (s : List Bool) (i : Int) : Bool := s.getD i.toNat false
/-- Where p is so, too, it is marked. -/
def markP (p : Int → Bool) (s : List Bool) : List Bool := (List.range s.length).map fun j => s.getD j false || p j
theorem markP_len (p : Int → Bool) (s : List Bool) : (markP p s).length = s.length := by simp [markP]
theorem markP_get {p : Int → Bool} {s : List Bool} {i : Int} (h0 : 0 ≤ i) (h1 : i < (s.length : Int)) : gb (markP p s) i = (gb s i || p i) := by
  unfold gb markP
  rw [List.getD_eq_getElem?_getD, List.getElem?_map, List.getElem?_range (by omega)]
  simp only [Option.map_some, Option.getD_some]
  rw [show ((i.toNat : Nat) : Int) = i by omega]
theorem markP_congr {p q : Int → Bool} {s : List Bool} (h : ∀ j : Int, 0 ≤ j → j < s.length → p j = q j) : markP p s = markP q s := by
  unfold markP
  refine List.map_congr_left fun j hj => ?_
  rw [List.mem_range] at hj
  rw [h j (by omega) (by omega)]
theorem markP_none (s : List Bool) : markP (fun _ => false) s = s := by
  refine List.ext_getElem (by simp [markP]) fun i h1 h2 => ?_
  simp only [markP, List.getElem_map, List.getElem_range, Bool.or_false]
  rw [List.getD_eq_getElem?_getD, List.getElem?_eq_getElem h2]; rfl
theorem markP_set {p : Int → Bool} {s : List Bool} {v : Int} (h0 : 0 ≤ v) (h1 : v < (s.length : Int)) : setI (markP p s) v true = markP (fun j => p j || decide (j = v)) s := by
  unfold setI
  refine List.ext_getElem (by simp [markP]) fun i a b => ?_
  have hi : i < s.length := by simpa [markP] using b
  rw [List.getElem_set]
  simp only [markP, List.getElem_map, List.getElem_range]
  by_cases e : v.toNat = i
  · rw [if_pos e]
    have : ((i : Nat) : Int) = v := by omega
    simp [this]
  · rw [if_neg e]
    have : ¬ ((i : Nat) : Int) = v := by omega
    simp [this]
theorem gb_repl {n : Nat} {i : Int} : gb (List.replicate n false) i = false := by
  unfold gb
  rw [List.getD_eq_getElem?_getD, List.getElem?_replicate]
  split <;> rfl
end Go.Proofs.Ythogfineaeklpaa.M

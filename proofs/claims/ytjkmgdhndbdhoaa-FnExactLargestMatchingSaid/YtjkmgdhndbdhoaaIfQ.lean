/- Formulas: the laws' helpers; whether one is valid, on both sides. -/
import Derived.Test.YtjkmgdhndbdhoaaLrQ
import Derived.Test.YtjkmgdhndbdhoaaCtQ
import Derived.Test.YtjkmgdhndbdhoaaQg
namespace Go.Proofs.Ytjkmgdhndbdhoaa.M
open Go.RowKit Abs
set_option linter.unusedSimpArgs false
set_option linter.unusedVariables false
set_option maxRecDepth 100000
set_option maxHeartbeats 4000000
/-- Rows of which one is as told. -/
def findR (l : List (List Int)) (q : List Int → Bool) : Int := match l.findIdx? q with | some i => i | none => -1
theorem findR_hit {l : List (List Int)} {q : List Int → Bool} {k : Int} (h0 : 0 ≤ k) (h1 : k < (l.length : Int)) (hq : q (getR .int l k) = true) (hn : ∀ j : Int, 0 ≤ j → j < k → q (getR .int l j) = false) : findR l q = k := by
  have e : l.findIdx? q = some k.toNat := by
    rw [List.findIdx?_eq_some_iff_getElem]
    refine ⟨by omega, ?_, fun j hj => ?_⟩
    · have := (List.getElem?_eq_some_iff.1 (getR_get (t := .int) h0 h1)).2
      rw [this]; exact hq
    · have h2 := (List.getElem?_eq_some_iff.1 (getR_get (t := .int) (l := l) (i := (j : Int)) (by omega) (by omega))).2
      have h3 := hn j (by omega) (by omega)
      simp only [Int.toNat_natCast] at h2
      rw [h2, h3]; simp
  unfold findR
  rw [e]
  show ((k.toNat : Nat) : Int) = k
  omega
theorem findR_none {l : List (List Int)} {q : List Int → Bool} (hn : ∀ j : Int, 0 ≤ j → j < (l.length : Int) → q (getR .int l j) = false) : findR l q = -1 := by
  have e : l.findIdx? q = none := by
    rw [List.findIdx?_eq_none_iff]
    intro x hx
    obtain ⟨j, hj, rfl⟩ := List.mem_iff_getElem.1 hx
    have h2 := (List.getElem?_eq_some_iff.1 (getR_get (t := .int) (l := l) (i := (j : Int)) (by omega) (by omega))).2
    have h3 := hn j (by omega) (by omega)
    simp only [Int.toNat_natCast] at h2
    rw [h2, h3]
  unfold findR
  rw [e]
theorem findR_any (l : List (List Int)) (q : List Int → Bool) : decide (0 ≤ findR l q) = l.any q := by
  unfold findR
  cases h : l.findIdx? q with
  | none =>
    rw [List.findIdx?_eq_none_iff] at h
    have : l.any q = false := by rw [List.any_eq_false]; intro x hx; simp [h x hx]
    rw [this]; decide
  | some i =>
    rw [List.findIdx?_eq_some_iff_getElem] at h
    obtain ⟨h1, h2, _⟩ := h
    have : l.any q = true := by rw [List.any_eq_true]; exact ⟨_, List.getElem_mem h1, h2⟩
    rw [this]; simp
def varOf (x : Int) : Int := if 0 < x then x - 1 else -1 - x
def otherB (n x : Int) : Bool := outI n (varOf x)
def clauseB (n : Int) (r : List Int) : Bool := incB r && !r.any (otherB n)
def badC (n : Int) (r : List Int) : Bool := !clauseB n r
def formOk (n : Int) (L : List (List Int)) : Bool := ((decide (0 ≤ n) && decide (n ≤ 6)) && decide ((L.length : Int) ≤ 64)) && !L.any (badC n)
end Go.Proofs.Ytjkmgdhndbdhoaa.M

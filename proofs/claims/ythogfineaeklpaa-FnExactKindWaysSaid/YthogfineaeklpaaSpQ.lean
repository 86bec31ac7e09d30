/- Spaces: whether they are valid, on both sides. -/
import Derived.Test.YthogfineaeklpaaQg
import Derived.Test.YthogfineaeklpaaQe
namespace Go.Proofs.Ythogfineaeklpaa.M
open Go.RowKit Abs
set_option linter.unusedSimpArgs false
set_option linter.unusedVariables false
set_option maxRecDepth 100000
set_option maxHeartbeats 4000000
def allI (n : Nat) (p : Int → Bool) : Bool := (List.range n).all fun k => p k
theorem allI_bad {n : Nat} {p : Int → Bool} {k : Int} (h0 : 0 ≤ k) (h1 : k < (n : Int)) (h : p k = false) : allI n p = false := by
  unfold allI
  rw [List.all_eq_false]
  exact ⟨k.toNat, by simp; omega, by rw [Int.toNat_of_nonneg h0, h]; simp⟩
theorem allI_good {n : Nat} {p : Int → Bool} (h : ∀ k : Int, 0 ≤ k → k < (n : Int) → p k = true) : allI n p = true := by
  unfold allI
  rw [List.all_eq_true]
  intro k hk
  exact h k (by omega) (by simpa using hk)
theorem allI_get {n : Nat} {p : Int → Bool} (h : allI n p = true) {k : Int} (h0 : 0 ≤ k) (h1 : k < (n : Int)) : p k = true := by
  unfold allI at h
  rw [List.all_eq_true] at h
  have := h k.toNat (by simp; omega)
  rwa [Int.toNat_of_nonneg h0] at this
theorem upTo {p : Int → Bool} {k : Int} (h : ∀ j : Int, 0 ≤ j → j < k → p j = true) : p k = true → ∀ j : Int, 0 ≤ j → j < k + 1 → p j = true := fun hk j h1 h2 => by
  by_cases hj : j = k
  · rw [hj]; exact hk
  · exact h j h1 (by omega)
def inB (x : Int) : Bool := decide (-99 ≤ x) && decide (x ≤ 99)
def stateOk (s : List Int) : Bool := allI s.length (fun k => inB (getI .int s k)) && decide ((s.length : Int) ≤ 24)
def goodS (l : List (List Int)) (k : Int) : Bool := stateOk (getI (.sl .int) l k) && (decide (k ≤ 0) || decide (cmpL (getI (.sl .int) l (k - 1)) (getI (.sl .int) l k) < 0))
def statesOk (l : List (List Int)) : Bool := allI l.length (goodS l)
def spaceOk (l : List (List Int)) (m : List (Int × Int)) : Bool := decide ((l.length : Int) ≤ 300) && decide ((m.length : Int) ≤ 6000) && statesOk l && pairsOk m l.length
theorem cmpL_nil_r : ∀ {x : List Int}, cmpL x [] < 0 ↔ False
  | [] => by simp [cmpL]
  | a :: x => by simp [cmpL]
theorem cmpL_nil_l : ∀ {y : List Int}, cmpL [] y < 0 ↔ 0 < y.length
  | [] => by simp [cmpL]
  | a :: x => by simp [cmpL]
end Go.Proofs.Ythogfineaeklpaa.M

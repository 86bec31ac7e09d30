/- Rows of rows, and Formulas: the helpers of the laws. -/
import Derived.Test.YtjkmgdhndbdhoaaQe
import Derived.Test.YtjkmgdhndbdhoaaLvQ
import Derived.Test.YtjkmgdhndbdhoaaRgQ
namespace Go.Proofs.Ytjkmgdhndbdhoaa.M
open Go.RowKit Abs
set_option linter.unusedSimpArgs false
set_option linter.unusedVariables false
set_option maxRecDepth 100000
set_option maxHeartbeats 4000000
/-- What is left behind rows. -/
def rowsLeft : List (List Int) → Int → Int
  | [], k => k
  | r :: L, k => if (r.length : Int) ≤ k then rowsLeft L (k - r.length) else -1
def sizeL (L : List (List Int)) (k : Int) : Int := if (L.length : Int) ≤ k then rowsLeft L (k - L.length) else -1
theorem rowsLeft_nn : ∀ (L : List (List Int)) (k : Int), -1 ≤ k → -1 ≤ rowsLeft L k
  | [], k, h => h
  | r :: L, k, h => by
    unfold rowsLeft
    split
    · exact rowsLeft_nn L _ (by omega)
    · omega
theorem rowsLeft_le : ∀ (L : List (List Int)) (k : Int), 0 ≤ k → 0 ≤ rowsLeft L k → (∀ s ∈ L, (s.length : Int) ≤ k) ∧ rowsLeft L k ≤ k
  | [], k, _, _ => ⟨fun s hs => by simp at hs, Int.le_refl _⟩
  | r :: L, k, h, h2 => by
    unfold rowsLeft at h2 ⊢
    by_cases hr : (r.length : Int) ≤ k
    · rw [if_pos hr] at h2 ⊢
      obtain ⟨i1, i2⟩ := rowsLeft_le L (k - r.length) (by omega) h2
      refine ⟨fun s hs => ?_, by omega⟩
      rcases List.mem_cons.1 hs with rfl | hs
      · exact hr
      · have := i1 s hs; omega
    · rw [if_neg hr] at h2
      omega
theorem rowsLeft_next {L : List (List Int)} {i k : Int} (h0 : 0 ≤ i) (h1 : i < (L.length : Int)) : rowsLeft (L.drop i.toNat) k = if ((getR .int L i).length : Int) ≤ k then rowsLeft (L.drop (i + 1).toNat) (k - (getR .int L i).length) else -1 := by
  rw [drop_getR h0 h1]
  rfl
end Go.Proofs.Ytjkmgdhndbdhoaa.M

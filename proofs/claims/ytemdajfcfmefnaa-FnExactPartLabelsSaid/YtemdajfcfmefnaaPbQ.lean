/- The parts of a Space are small. -/
import Derived.Test.YtemdajfcfmefnaaPaQ
import Derived.Test.YtemdajfcfmefnaaQe
namespace Go.Proofs.Ytemdajfcfmefnaa.M
open Go.RowKit Abs
set_option linter.unusedSimpArgs false
set_option linter.unusedVariables false
set_option maxRecDepth 100000
set_option maxHeartbeats 4000000
theorem totR_le {L : List (List Int)} {m : Int} : (∀ s ∈ L, (s.length : Int) ≤ m) → totR L ≤ (L.length : Int) * m := by
  induction L with
  | nil => intro _; simp [totR]
  | cons s L ih =>
    intro h
    have h1 := h s (by simp)
    have h2 := ih fun t ht => h t (by simp [ht])
    have e : (((s :: L).length : Nat) : Int) * m = m + (L.length : Int) * m := by rw [List.length_cons, Int.natCast_add, Int.add_mul]; simp; omega
    rw [e]
    simp only [totR]
    omega
theorem parts_bound {L : List (List Int)} {l : List (Int × Int)} : (partsF L l).length ≤ 1048576 ∧ (∀ k : Int, 0 ≤ k → k < (partsF L l).length → (getR .int (partsF L l) k).length ≤ 1048576) ∧ totR (partsF L l) ≤ 100000000 := by
  unfold partsF
  split
  · rename_i h
    have hp := (space_parts h).2.2.2
    have hn := (space_parts h).1
    obtain ⟨c, r⟩ := parts_ok hp
    refine ⟨by omega, fun k k0 k1 => ?_, ?_⟩
    · have := (r _ (getR_mem k0 k1)).2.1
      omega
    · have h1 := totR_le (L := partsR L l) (m := 300) fun s hs => by have := (r s hs).2.1; omega
      have h2 : ((partsR L l).length : Int) ≤ 300 := by omega
      omega
  · refine ⟨by simp, fun k k0 k1 => by simp at k1; omega, by simp [totR]⟩
end Go.Proofs.Ytemdajfcfmefnaa.M

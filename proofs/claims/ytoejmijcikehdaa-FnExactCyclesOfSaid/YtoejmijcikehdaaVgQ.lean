/- What the law of CyclesOf asks of its result. -/
import Derived.Test.YtoejmijcikehdaaVfQ
import Derived.Test.YtoejmijcikehdaaQe
import Derived.Test.YtoejmijcikehdaaQg
namespace Go.Proofs.Ytoejmijcikehdaa.M
open Go.RowKit Abs
set_option linter.unusedSimpArgs false
set_option linter.unusedVariables false
set_option maxRecDepth 100000
set_option maxHeartbeats 4000000
theorem totV_le : ∀ {L : List (List Int)}, (∀ s ∈ L, s.length ≤ 8) → totR L ≤ 8 * L.length
  | [], _ => by simp [totR]
  | s :: L, h => by
    have a := totV_le (L := L) fun t ht => h t (List.mem_cons_of_mem _ ht)
    have b := h s List.mem_cons_self
    simp only [totR, List.length_cons] at *
    omega
theorem cyc_bound (p : List Int) : (cycR p).length ≤ 1048576 ∧ (∀ k : Int, 0 ≤ k → k < (cycR p).length → (getR .int (cycR p) k).length ≤ 1048576) ∧ totR (cycR p) ≤ 100000000 := by
  unfold cycR
  split
  · rename_i hb
    have h8 := (perm_ok hb).1
    have a := cycA_len (p := p) (k := p.length)
    have b := cycA_row hb (k := p.length) (Nat.le_refl _)
    have c := totV_le b
    exact ⟨by omega, fun k k0 k1 => by have := b _ (getR_mem k0 k1); omega, by omega⟩
  · exact ⟨by simp, fun k k0 k1 => by simp at k1; omega, by simp [totR]⟩
end Go.Proofs.Ytoejmijcikehdaa.M

/- The labels of parts, on both sides. -/
import Derived.Test.YtoejmijcikehdaaPbQ
import Derived.Test.YtoejmijcikehdaaDrQ
import Derived.Test.YtoejmijcikehdaaQg
namespace Go.Proofs.Ytoejmijcikehdaa.M
open Go.RowKit Abs
set_option linter.unusedSimpArgs false
set_option linter.unusedVariables false
set_option maxRecDepth 100000
set_option maxHeartbeats 4000000
theorem putTo_zero (F : Int → Int → Int) (P : List (List Int)) (o : List Int) : putTo F P o (Int.toNat 0) = o := rfl
theorem putAll_zero (f : Int → Int) (p o : List Int) : putAll f (p.take (Int.toNat 0)) o = o := rfl
theorem zero_row {n : Nat} {m : Int} (h : m.toNat = n) : @Eq (List Int) (List.replicate m.toNat (zden Ty.int)) (List.replicate n 0) := by rw [h]; rfl
theorem part_in {L : List (List Int)} {l : List (Int × Int)} (hp : pairsOk l L.length = true) {i k : Int} (i0 : 0 ≤ i) (i1 : i < ((partsR L l).length : Int)) (k0 : 0 ≤ k) (k1 : k < ((getR .int (partsR L l) i).length : Int)) : 0 ≤ gi (getR .int (partsR L l) i) k ∧ gi (getR .int (partsR L l) i) k < L.length :=
  ((parts_ok hp).2 _ (getR_mem i0 i1)).2.2 _ (gi_mem k0 k1)
def labF (L : List (List Int)) (l : List (Int × Int)) : List Int := if spaceOk L l = true then labelsR L l else []
theorem lab_bound {L : List (List Int)} {l : List (Int × Int)} : (labF L l).length ≤ 1048576 := by
  unfold labF
  split
  · rename_i h
    have := (space_parts h).1
    unfold labelsR
    rw [putTo_len, List.length_replicate]
    omega
  · simp
end Go.Proofs.Ytoejmijcikehdaa.M

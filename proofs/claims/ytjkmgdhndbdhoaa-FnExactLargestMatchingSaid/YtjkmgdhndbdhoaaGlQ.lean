/- slices.Clone of numbers. -/
import Derived.Test.YtjkmgdhndbdhoaaQe
import Derived.Test.YtjkmgdhndbdhoaaShelf
import Derived.Test.YtjkmgdhndbdhoaaQg
namespace Go.Proofs.Ytjkmgdhndbdhoaa.M
open Go.RowKit Abs
set_option linter.unusedSimpArgs false
set_option linter.unusedVariables false
set_option maxRecDepth 100000
set_option maxHeartbeats 4000000
theorem own_post {w w' : World} {val : Nat → Bd} {l : List Int} {v' : Value} (ho : w'.ownsRow w.heap.size 3 1 v' l.length (l.map (Value.int .i64))) (hb : Below w.heap.size w w') : SPost [] val [.ref 0] [some (.row 3 .int fun _ => l)] w v' w' (fun _ => ⟨v', [], (ownB v').toList⟩) := by
  refine ⟨⟨hb.os, hb.tape, hb.output, hb.size, fun b hb' _ => hb.block b hb'⟩, ⟨fun m B hB => ?_, fun m B hB b hbm => ?_, fun m k B C hne hB hC b hbm hbk => ?_⟩, fun m B hB b hbm => ?_, fun m hm => by simp at hm, ?_⟩
  · match m, hB with
    | 0, hB => cases hB; exact ⟨l.map (Value.int .i64), own_le ho (Nat.zero_le _), repL_ints, rfl⟩
    | m + 1, hB => simp at hB
  · match m, hB with
    | 0, hB => exact own_size ho b (by simpa using hbm)
    | m + 1, hB => simp at hB
  · match m, k, hB, hC with
    | 0, 0, _, _ => exact hne rfl
    | m + 1, _, hB, _ => simp at hB
    | 0, k + 1, _, hC => simp at hC
  · match m, hB with
    | 0, hB => exact .inl (Abs.own_blk ho b (by simpa using hbm))
    | m + 1, hB => simp at hB
  · show VRel _ _ _ _ _ _
    simp only [VRel]
    simp
end Go.Proofs.Ytjkmgdhndbdhoaa.M

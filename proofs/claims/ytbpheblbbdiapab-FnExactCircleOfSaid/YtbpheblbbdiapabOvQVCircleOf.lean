/- A number put into an ascending list, as sorting (pure). -/
import Derived.Test.YtbpheblbbdiapabOuQVCircleOf
import Derived.Test.YtbpheblbbdiapabPfQVCircleOf
import Derived.Test.YtbpheblbbdiapabQgVCircleOf
namespace Go.Proofs.Ytbpheblbbdiapab.M
open Go.RowKit Abs
set_option linter.unusedSimpArgs false
set_option linter.unusedVariables false
set_option maxRecDepth 100000
set_option maxHeartbeats 4000000
theorem asc_putF {l : List Int} (h : l.Pairwise (· < ·)) : putF l = l :=
  asc_eq (putF_asc _ l rfl (h.imp fun h => Int.ne_of_lt h)) h fun _ => putF_mem
theorem put_srt {r : List Int} {x : Int} (h : r.Pairwise (· < ·)) (hx : hasB r x = false) : putI r x = srt (r ++ [x]) := by
  rw [← putF_srt, putF_snoc, asc_putF h]
  rw [List.nodup_append]
  refine ⟨h.imp fun h => Int.ne_of_lt h, by simp, fun a ha b hb e => ?_⟩
  have hb2 : b = x := by simpa using hb
  have : hasB r x = true := hasB_iff.2 (by rw [← hb2, ← e]; exact ha)
  rw [hx] at this
  cases this
theorem srt_congr {a b : List Int} (h : a.Perm b) : srt a = srt b :=
  List.Perm.eq_of_pairwise (le := fun a b : Int => a ≤ b) (fun _ _ _ _ h1 h2 => Int.le_antisymm h1 h2) (srt_asc a) (srt_asc b) ((srt_perm a).trans (h.trans (srt_perm b).symm))
end Go.Proofs.Ytbpheblbbdiapab.M

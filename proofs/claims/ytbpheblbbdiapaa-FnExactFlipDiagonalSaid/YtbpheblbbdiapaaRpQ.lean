/- Rows that repeat a number. -/
import Derived.Test.YtbpheblbbdiapaaQg
import Derived.Test.YtbpheblbbdiapaaShelf
namespace Go.Proofs.Ytbpheblbbdiapaa.M
open Go.RowKit Abs
set_option linter.unusedSimpArgs false
set_option linter.unusedVariables false
set_option maxRecDepth 100000
set_option maxHeartbeats 4000000
def rp (x : Int) (n m : Int) : List Int := List.replicate m.toNat x ++ List.replicate (n - m).toNat 0
theorem rp_len {x n m : Int} (h0 : 0 ≤ m) (h1 : m ≤ n) : ((rp x n m).length : Int) = n := by
  unfold rp; rw [List.length_append, List.length_replicate, List.length_replicate]; omega
theorem rp_step {x n m : Int} (h0 : 0 ≤ m) (h1 : m ≤ n) : cpy (rp x n m) (subL (rp x n m) 0 m) m n = rp x n (m + min m (n - m)) := by
  have e1 : subL (rp x n m) 0 m = List.replicate m.toNat x := by
    unfold subL rp
    simp [List.take_append_of_le_length]
  rw [e1]
  unfold cpy rp
  rw [List.length_replicate, List.take_append_of_le_length (by simp), List.take_of_length_le (by simp), List.take_replicate, List.drop_append, List.length_replicate, List.drop_of_length_le (by simp; omega), List.nil_append, List.drop_replicate, List.replicate_append_replicate]
  congr 2 <;> omega
theorem rp_first {x n : Int} (h1 : 1 ≤ n) : cpy (List.replicate n.toNat 0) [x] 0 n = rp x n 1 := by
  unfold cpy rp
  obtain ⟨k, hk⟩ : ∃ k, n.toNat = k + 1 := ⟨n.toNat - 1, by omega⟩
  have e1 : (n - 0).toNat = k + 1 := by omega
  have e2 : (n - 1).toNat = k := by omega
  rw [e1, e2]
  simp [hk, List.drop_replicate]
end Go.Proofs.Ytbpheblbbdiapaa.M

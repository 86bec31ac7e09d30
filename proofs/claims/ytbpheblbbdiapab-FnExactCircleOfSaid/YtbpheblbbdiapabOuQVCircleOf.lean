/- Numbers put in one after another, and sorting (pure). -/
import Derived.Test.YtbpheblbbdiapabSoQVCircleOf
import Derived.Test.YtbpheblbbdiapabTuQVCircleOf
import Derived.Test.YtbpheblbbdiapabQgVCircleOf
namespace Go.Proofs.Ytbpheblbbdiapab.M
open Go.RowKit Abs
set_option linter.unusedSimpArgs false
set_option linter.unusedVariables false
set_option maxRecDepth 100000
set_option maxHeartbeats 4000000
def putF (l : List Int) : List Int := l.foldl putI []
theorem putI_perm (s : List Int) (x : Int) : (putI s x).Perm (x :: s) := by
  unfold putI
  rw [List.append_assoc]
  refine List.perm_middle.trans ?_
  show (x :: (s.take (kOf s x).toNat ++ s.drop (kOf s x).toNat)).Perm (x :: s)
  rw [List.take_append_drop]
theorem putF_snoc (l : List Int) (x : Int) : putF (l ++ [x]) = putI (putF l) x := by
  unfold putF
  rw [List.foldl_append]
  rfl
theorem putF_perm : ∀ (n : Nat) (l : List Int), l.length = n → (putF l).Perm l
  | 0, l, h => by rw [List.length_eq_zero_iff.1 h]; exact List.Perm.refl _
  | n + 1, l, h => by
    obtain ⟨a, x, rfl⟩ : ∃ a x, l = a ++ [x] := ⟨l.dropLast, l.getLast (by intro e; rw [e] at h; simp at h), (List.dropLast_concat_getLast _).symm⟩
    rw [putF_snoc]
    refine (putI_perm _ _).trans ?_
    refine ((putF_perm n a (by simpa using h)).cons x).trans ?_
    exact (List.perm_append_singleton _ _).symm
theorem putF_mem {l : List Int} {x : Int} : x ∈ putF l ↔ x ∈ l := (putF_perm _ l rfl).mem_iff
theorem putF_asc : ∀ (n : Nat) (l : List Int), l.length = n → l.Nodup → (putF l).Pairwise (· < ·)
  | 0, l, h, _ => by rw [List.length_eq_zero_iff.1 h]; exact List.Pairwise.nil
  | n + 1, l, h, hn => by
    obtain ⟨a, x, rfl⟩ : ∃ a x, l = a ++ [x] := ⟨l.dropLast, l.getLast (by intro e; rw [e] at h; simp at h), (List.dropLast_concat_getLast _).symm⟩
    rw [List.nodup_append] at hn
    rw [putF_snoc]
    refine putI_asc (putF_asc n a (by simpa using h) hn.1) fun hx => ?_
    exact hn.2.2 x (putF_mem.1 hx) x (by simp) rfl
theorem putF_srt {l : List Int} (h : l.Nodup) : putF l = srt l := by
  refine List.Perm.eq_of_pairwise (le := fun a b : Int => a ≤ b) (fun a b _ _ h1 h2 => Int.le_antisymm h1 h2) ((putF_asc _ l rfl h).imp fun h => Int.le_of_lt h) (srt_asc l) ?_
  exact (putF_perm _ l rfl).trans (srt_perm l).symm
end Go.Proofs.Ytbpheblbbdiapab.M

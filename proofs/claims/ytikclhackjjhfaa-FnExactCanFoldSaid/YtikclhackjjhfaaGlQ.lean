/- slices.Clone of numbers. -/
import Derived.Test.YtikclhackjjhfaaQe
import Derived.Test.YtikclhackjjhfaaShelf
import Derived.Test.YtikclhackjjhfaaQg
namespace Go.Proofs.Ytikclhackjjhfaa.M
open Go.RowKit Abs
set_option linter.unusedSimpArgs false
set_option linter.unusedVariables false
set_option maxRecDepth 100000
set_option maxHeartbeats 4000000
theorem own_post {w w' : World} {val : Nat → Bd} {l : List Int} {v' : Value} (ho : w'.ownsRow w.heap.size 3 1 v' l.length (l.map (Value.int .i64))) (hb : Below w.heap.size w w') : SPost [] val [.ref 0] [some (.row 3 .int fun _ => l)] w v' w' (fun _ => ⟨v', [], (ownB v').toList⟩) := by
  refine ⟨⟨hb.os, hb.tape, hb.output, hb.size, fun b hb' _ => hb.block b hb'⟩, ⟨fun m B hB => ?_, fun m B hB b hbm => ?_, fun m k B C hne hB hC b hbm hbk => ?_⟩, fun m B hB b hbm => ?_, fun m hm => by simp at hm, ?_⟩
  · match m, hB with
    | 0, hB => cases hB; exact ⟨l.map (Value.int .i64), own_le ho (Nat.zero_le _), repL_ints, rfl⟩
    | m + 1, hB => simp at hB
  · match m, hB with
    | 0, hB => exact own_size ho b (by simpa using hbm)
    | m + 1, hB => simp at hB
  · match m, k, hB, hC with
    | 0, 0, _, _ => exact hne rfl
    | m + 1, _, hB, _ => simp at hB
    | 0, k + 1, _, hC => simp at hC
  · match m, hB with
    | 0, hB => exact .inl (Abs.own_blk ho b (by simpa using hbm))
    | m + 1, hB => simp at hB
  · show VRel _ _ _ _ _ _
    simp only [VRel]
    simp
theorem go_clone (l : List Int) (hl : l.length ≤ 1048576) : Spec2 Try.prog 102 [.sl .int fun _ => l] [] [.ref 0] [some (.row 3 .int fun _ => l)] := by
  refine ⟨by kernel_rfl, by simp, fun w val vs hH hv => ?_⟩
  match vs, hv with
  | [v], hv =>
  simp only [VRelL, and_true] at hv
  have ha : Abs.ArgRel w (.sl .int l) v := ofA_arg rfl hv
  obtain ⟨a, cap, rfl, h2, h3⟩ := Abs.rep_ints ha
  rcases h2 with rfl | ⟨b, o, rfl, h4, h5⟩
  · cases a with
    | none =>
      refine (Try.slices_Clone_int_nil 0 cap w).mono ?_
      rintro e w' ⟨rfl, rfl⟩
      exact ⟨_, _, rfl, own_post (l := []) (World.ownsRow_nil _ _ _ _) (Below.refl _ _)⟩
    | some a =>
      refine (Try.slices_Clone_int_zero a cap w).mono ?_
      rintro e w' ⟨v', rfl, ho, _, hb⟩
      exact ⟨_, _, rfl, own_post (l := []) ho hb⟩
  · refine (Try.slices_Clone_int b o l.length cap l w (Nat.le_refl _) (by omega) (fun j hj => ?_)).mono ?_
    · rw [h5 j _ (List.getElem?_eq_getElem hj), List.getD_eq_getElem?_getD, List.getElem?_eq_getElem hj]
      rfl
    · rintro e w' ⟨v', rfl, ho, _, hb⟩
      rw [List.take_length] at ho
      exact ⟨_, _, rfl, own_post ho hb⟩
end Go.Proofs.Ytikclhackjjhfaa.M

/- The laws' helpers for lists of pairs. -/
import Derived.Test.YtikclhackjjhfaaQe
import Derived.Test.YtikclhackjjhfaaCrQ
import Derived.Test.YtikclhackjjhfaaQg
namespace Go.Proofs.Ytikclhackjjhfaa.M
open Go.RowKit Abs
set_option linter.unusedSimpArgs false
set_option linter.unusedVariables false
set_option maxRecDepth 100000
set_option maxHeartbeats 4000000
end Go.Proofs.Ytikclhackjjhfaa.M
namespace Go.Proofs.Ytikclhackjjhfaa.Abs
theorem law_eqIntA2S (l : List (Int × Int)) : Spec Try.prog 18 [.sl (.pr .int .int) l, .sl (.pr .int .int) l] [.im .bool true] := by
  refine ⟨by kernel_rfl, fun w vs hl hv => ?_⟩
  obtain ⟨v, u, rfl, ha, hu⟩ := arg2 hl hv
  obtain ⟨a, cap, rfl, h2, h3⟩ := rep_pairs ha
  obtain ⟨a', cap', rfl, h2', h3'⟩ := rep_pairs hu
  refine (eqPairs w a a' l cap cap' h2 h2' h3).mono ?_
  rintro e w' ⟨rfl, hb⟩
  exact post_one hb (irel_bool _)
end Go.Proofs.Ytikclhackjjhfaa.Abs
namespace Go.Proofs.Ytikclhackjjhfaa.M
open Go.RowKit Abs
set_option linter.unusedVariables false
set_option maxRecDepth 100000
theorem la_szPairs (l : List (Int × Int)) (k : Int) (h0 : 0 ≤ k) (h1 : k ≤ 1048576) : Spec2 Try.prog 53 [.sl (.pr .int .int) fun _ => l, .int fun _ => k] [] [.int fun _ => if (l.length : Int) ≤ k then k - l.length else -1] [] :=
  toSpec2 (Abs.law_szIntA2S l k h0 h1) rfl fun ok w val v h => iInt ok w val v h
theorem la_samePairs (l : List (Int × Int)) (hl : l.length ≤ 1048576) : Spec2 Try.prog 18 [.sl (.pr .int .int) fun _ => l, .sl (.pr .int .int) fun _ => l] [] [.bool fun _ => true] [] :=
  toSpec2 (Abs.law_eqIntA2S l) rfl fun ok w val v h => iBool ok w val v h
theorem la_toPairs (l : List (Int × Int)) (hl : l.length ≤ 1048576) : Spec2 Try.prog 56 [.sl (.pr .int .int) fun _ => l] [] [.ref 0] [some (.row 68 (.pr .int .int) fun _ => l)] := by
  refine ⟨by kernel_rfl, by simp, fun w val vs hH hv => ?_⟩
  match vs, hv with
  | [v], hv =>
  simp only [VRelL, and_true] at hv
  have ha : Abs.ArgRel w (.sl (.pr .int .int) l) v := ofA_arg rfl hv
  obtain ⟨a, cap, rfl, h2, h3⟩ := Abs.rep_pairs ha
  refine (copyPairs w a l cap h2 hl).mono ?_
  rintro e w' ⟨s, rfl, ho, hb⟩
  refine ⟨_, fun _ => ⟨s, [], (ownB s).toList⟩, rfl, ⟨hb.os, hb.tape, hb.output, hb.size, fun b hb' _ => hb.block b hb'⟩, ⟨fun m B hB => ?_, fun m B hB g hg => ?_, fun m k B C hne hB hC => ?_⟩, fun m B hB g hg => ?_, fun m hm => by simp at hm, ?_⟩
  · cases m with
    | succ m => simp at hB
    | zero => cases hB; exact ⟨flat2 l, own_le ho (Nat.zero_le _), repL_pairs, rfl⟩
  · exact own_size ho g (by simpa using hg)
  · cases m with
    | succ m => simp at hB
    | zero =>
      cases k with
      | succ k => simp at hC
      | zero => exact (hne rfl).elim
  · exact .inl (Abs.own_blk ho g (by simpa using hg))
  · show VRel _ _ _ _ _ _
    simp only [VRel]
    simp
end Go.Proofs.Ytikclhackjjhfaa.M

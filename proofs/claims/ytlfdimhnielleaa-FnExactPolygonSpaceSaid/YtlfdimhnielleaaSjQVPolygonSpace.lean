/- Scopes with a label to which the run jumps back. -/
import Derived.Test.YtlfdimhnielleaaQgVPolygonSpace
namespace Go.Proofs.Ytlfdimhnielleaa.M
open Go.RowKit Abs
set_option linter.unusedSimpArgs false
set_option linter.unusedVariables false
set_option maxRecDepth 100000
set_option maxHeartbeats 4000000
/-- A scope with a label to which the run jumps back, told by what changes: the temporaries ps, the blocks bs behind those that were there. -/
def stS (c : Code) (S : AS) (ps : List (Nat × AV)) (bs : Hp) : AS := ⟨setTs ps (killT (asg c) S.tm), S.H ++ bs, S.k⟩
/-- A scope in which no jump is made. -/
theorem scope0 {S : AS} {Q : AX → AS → Prop} {c rest : Code} (l : Nat) (hf : findLabel c l = some rest) (hb : drawB c = true) (hbr : drawB rest = true)
    (first : vc (fun _ => Try.prog) (fun _ => tab) c (jumpQ l (fun _ => False) Q) S) : ScopeL (fun _ => Try.prog) (fun _ => tab) c Q S := by
  refine ScopeL.intro (P := fun _ => Try.prog) (T := fun _ => tab) tabOk mixed l hf hb hbr (X := Empty) (fun _ => S) (fun _ => 0) ?_ fun x => x.elim
  refine vc_mono c first fun e S' h => ?_
  cases e with
  | normal => exact h
  | exit i => exact h
  | ret => exact h
  | goto i =>
    simp only [jumpQ] at h ⊢
    split
    · rename_i hi
      rw [if_pos hi] at h
      exact h.elim
    · rename_i hi
      rw [if_neg hi] at h
      exact h
end Go.Proofs.Ytlfdimhnielleaa.M

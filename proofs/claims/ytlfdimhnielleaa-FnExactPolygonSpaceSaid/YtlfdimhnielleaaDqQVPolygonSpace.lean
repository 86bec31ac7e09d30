/- Drawn regions in which several operations make memory: the steps that make none asked by equality. -/
import Derived.Test.YtlfdimhnielleaaDrQVPolygonSpace
namespace Go.Proofs.Ytlfdimhnielleaa.M
open Go.RowKit Abs
set_option linter.unusedSimpArgs false
set_option linter.unusedVariables false
set_option maxRecDepth 100000
set_option maxHeartbeats 4000000
def renQ (r : Option (List Nat)) (S S' : AS) : Prop := match r with
  | some ρ => M.renD ρ S S'
  | none => S = S'
theorem Rl.toQ {w0 w : World} {B : Nat → Prop} {hd : Nat → Value} {S S' : AS} {a : Act} {val : Nat → Bd} {r : Option (List Nat)} (hR : Rl w0 B hd S a w val) (h : renQ r S S') : ∃ val', Rl w0 B hd S' a w val' := by
  cases r with
  | none => cases h; exact ⟨_, hR⟩
  | some ρ => exact ⟨_, hR.renD h⟩
def stepsQ (P : Unit → Program) (T : Unit → Tab) (ops : Array Oper) (st : List Bool → AS) (ρ : Nat → Option (List Nat)) (l : List Bool) : List Nat → Prop
  | [] => True
  | i :: r => (match ops[i]? with | some o => stepP P T o (st l) (fun S' => renQ (ρ i) S' (st (l.set i true))) | none => False) ∧ stepsQ P T ops st ρ l r
def layQ (P : Unit → Program) (T : Unit → Tab) (ops : Array Oper) (K : AS → Prop) (st : List Bool → AS) (ρ : Nat → Option (List Nat)) : List (List Bool × List Nat) → Prop
  | [] => True
  | (l, is) :: r => (match is with | [] => K (st l) | i :: is => stepsQ P T ops st ρ l (i :: is)) ∧ layQ P T ops K st ρ r
end Go.Proofs.Ytlfdimhnielleaa.M

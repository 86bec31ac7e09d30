/- Nil slices of rows as rows of the call's own. -/
import Derived.Test.YtoejmijcikehdaaQg
namespace Go.Proofs.Ytoejmijcikehdaa.M
open Go.RowKit Abs
set_option linter.unusedSimpArgs false
set_option linter.unusedVariables false
set_option maxRecDepth 100000
set_option maxHeartbeats 4000000
def AS.nilR (S : AS) (e e2 : TypeId) (t : Ty) (ps : List At) : AS := AS.nilAll { S with H := S.H ++ [some (.rows e e2 t fun _ => [])] } S.H.length ps
theorem Rl.nilR {w0 w : World} {B : Nat → Prop} {hd : Nat → Value} {S : AS} {a : Act} {val : Nat → Bd} (hR : Rl w0 B hd S a w val) (e e2 : TypeId) (t : Ty) (ps : List At) : ∃ val', Rl w0 B hd (S.nilR e e2 t ps) a w val' := by
  have hF := hR.fresh (Below.refl _ w) [] (d := ⟨.slice none 0 0, [], []⟩) (b := .rows e e2 t fun _ => []) (fun g hg => by simp at hg)
    (fun val' _ _ hok => by
      refine ⟨by simpa using World.ownsRow_nil w 0 e _, fun i y hy => by simp at hy, fun g => by simp [ownB], fun i j h h' g hi => by simp at hi, fun h hh => by simp at hh⟩)
  exact ⟨_, Rl.nilAll (by simp [upd_self]) ps hF (by simp [dropC])⟩
theorem LoopL.nilR {S : AS} {Q : AX → AS → Prop} {c : Code} (e e2 : TypeId) (t : Ty) (ps : List At) (hl : LoopL (fun _ => Try.prog) (fun _ => tab) c Q (S.nilR e e2 t ps)) : LoopL (fun _ => Try.prog) (fun _ => tab) c Q S :=
  ⟨fun w0 B hd a w val hR => by obtain ⟨val', h⟩ := hR.nilR e e2 t ps; exact hl.out w0 B hd a w val' h⟩
end Go.Proofs.Ytoejmijcikehdaa.M

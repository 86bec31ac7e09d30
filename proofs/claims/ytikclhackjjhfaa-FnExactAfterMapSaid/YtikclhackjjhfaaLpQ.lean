/- Loops whose rounds end in other names. -/
import Derived.Test.YtikclhackjjhfaaDeQ
import Derived.Test.YtikclhackjjhfaaQg
namespace Go.Proofs.Ytikclhackjjhfaa.M
open Go.RowKit Abs
set_option linter.unusedSimpArgs false
set_option linter.unusedVariables false
set_option maxRecDepth 100000
set_option maxHeartbeats 4000000
/-- What is known behind a round, in some names. -/
structure RenL (S S' : AS) : Prop where
  out : ∃ ρ, renD ρ S S'
theorem loopX {S : AS} {Q : AX → AS → Prop} {c : Code} (hb : drawB c = true) {X : Type} (inv : X → Prop) (ps : X → List (Nat × AV)) (hs : X → List (Nat × Option Blk)) (m : X → Nat) (nx : X → X) (a : X) (h0 : inv a) (hw : weakD S (stL c S (ps a) (hs a)))
    (round : ∀ x, inv x → vc (fun _ => Try.prog) (fun _ => tab) c (seqQ (fun S' => Obl (fun _ => inv (nx x) ∧ m (nx x) < m x) ∧ RenL S' (stL c S (ps (nx x)) (hs (nx x)))) Q) (stL c S (ps x) (hs x))) : LoopL (fun _ => Try.prog) (fun _ => tab) c Q S := by
  refine ⟨fun w0 B hd a1 w val hR => ?_⟩
  refine wp_loop_ghost (fun (x : { x : X // inv x }) a w => ∃ val, Rl w0 B hd (stL c S (ps x.1) (hs x.1)) a w val) (fun x => m x.1) ⟨a, h0⟩ ⟨_, hR.weak hw.weak⟩ fun x a w ⟨val, hR⟩ => ?_
  refine wp_mono (vc_sound tabOk mixed c _ _ hb (round x.1 x.2) w0 B hd a w val hR) fun e a' w' ⟨y, S', val', h1, h2, h3⟩ => ?_
  subst h1
  cases y with
  | normal => obtain ⟨h4, ⟨ρ, h5⟩⟩ := h2; exact ⟨⟨nx x.1, h4.out.1⟩, ⟨_, h3.renD h5⟩, h4.out.2⟩
  | exit i => exact ⟨.exit i, S', val', rfl, h2, h3⟩
  | ret => exact ⟨.ret, S', val', rfl, h2, h3⟩
  | goto l => exact ⟨.goto l, S', val', rfl, h2, h3⟩
theorem loopXE (bad : List Nat) {S : AS} {Q : AX → AS → Prop} {c : Code} (hb : drawE bad c = true) {X : Type} (inv : X → Prop) (ps : X → List (Nat × AV)) (hs : X → List (Nat × Option Blk)) (m : X → Nat) (nx : X → X) (a : X) (h0 : inv a) (hw : weakD S (stL c S (ps a) (hs a)))
    (round : ∀ x, inv x → vcD (fun _ => Try.prog) (fun _ => tab) bad c (seqQ (fun S' => Obl (fun _ => inv (nx x) ∧ m (nx x) < m x) ∧ RenL S' (stL c S (ps (nx x)) (hs (nx x)))) Q) (stL c S (ps x) (hs x))) : LoopL (fun _ => Try.prog) (fun _ => tab) c Q S := by
  refine ⟨fun w0 B hd a1 w val hR => ?_⟩
  refine wp_loop_ghost (fun (x : { x : X // inv x }) a w => ∃ val, Rl w0 B hd (stL c S (ps x.1) (hs x.1)) a w val) (fun x => m x.1) ⟨a, h0⟩ ⟨_, hR.weak hw.weak⟩ fun x a w ⟨val, hR⟩ => ?_
  refine wp_mono (vcE_sound tabOk mixed c _ _ hb (round x.1 x.2) w0 B hd a w val hR) fun e a' w' ⟨y, S', val', h1, h2, h3⟩ => ?_
  subst h1
  cases y with
  | normal => obtain ⟨h4, ⟨ρ, h5⟩⟩ := h2; exact ⟨⟨nx x.1, h4.out.1⟩, ⟨_, h3.renD h5⟩, h4.out.2⟩
  | exit i => exact ⟨.exit i, S', val', rfl, h2, h3⟩
  | ret => exact ⟨.ret, S', val', rfl, h2, h3⟩
  | goto l => exact ⟨.goto l, S', val', rfl, h2, h3⟩
end Go.Proofs.Ytikclhackjjhfaa.M

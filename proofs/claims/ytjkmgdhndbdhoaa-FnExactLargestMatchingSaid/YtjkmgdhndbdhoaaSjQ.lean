/- Scopes with a label to which the run jumps back. -/
import Derived.Test.YtjkmgdhndbdhoaaQg
namespace Go.Proofs.Ytjkmgdhndbdhoaa.M
open Go.RowKit Abs
set_option linter.unusedSimpArgs false
set_option linter.unusedVariables false
set_option maxRecDepth 100000
set_option maxHeartbeats 4000000
/-- A scope with a label to which the run jumps back, told by what changes: the temporaries ps, the blocks bs behind those that were there. -/
def stS (c : Code) (S : AS) (ps : List (Nat × AV)) (bs : Hp) : AS := ⟨setTs ps (killT (asg c) S.tm), S.H ++ bs, S.k⟩
theorem scopeP {S : AS} {Q : AX → AS → Prop} {c rest : Code} (l : Nat) (hf : findLabel c l = some rest) (hb : drawB c = true) (hbr : drawB rest = true) {X : Type} (inv : X → Prop) (ps : X → List (Nat × AV)) (bs : X → Hp) (m : X → Nat) (nx : X → X) (a : X)
    (first : vc (fun _ => Try.prog) (fun _ => tab) c (jumpQ l (fun S' => Obl (fun _ => inv a) ∧ weakD S' (stS c S (ps a) (bs a))) Q) S)
    (pass : ∀ x, inv x → vc (fun _ => Try.prog) (fun _ => tab) rest (jumpQ l (fun S' => Obl (fun _ => inv (nx x) ∧ m (nx x) < m x) ∧ weakD S' (stS c S (ps (nx x)) (bs (nx x)))) Q) (stS c S (ps x) (bs x))) : ScopeL (fun _ => Try.prog) (fun _ => tab) c Q S := by
  refine ScopeL.intro (P := fun _ => Try.prog) (T := fun _ => tab) tabOk mixed l hf hb hbr (X := { x : X // inv x }) (fun x => stS c S (ps x.1) (bs x.1)) (fun x => m x.1) ?_ fun x => ?_
  · refine vc_mono c first fun e S' h => ?_
    cases e with
    | normal => exact h
    | exit i => exact h
    | ret => exact h
    | goto i =>
      simp only [jumpQ] at h ⊢
      split
      · rename_i hi
        rw [if_pos hi] at h
        exact ⟨⟨a, h.1.out⟩, h.2⟩
      · rename_i hi
        rw [if_neg hi] at h
        exact h
  · refine vc_mono rest (pass x.1 x.2) fun e S' h => ?_
    cases e with
    | normal => exact h
    | exit i => exact h
    | ret => exact h
    | goto i =>
      simp only [jumpQ] at h ⊢
      split
      · rename_i hi
        rw [if_pos hi] at h
        exact ⟨⟨nx x.1, h.1.out.1⟩, h.1.out.2, h.2⟩
      · rename_i hi
        rw [if_neg hi] at h
        exact h
/-- A scope in which no jump is made. -/
theorem scope0 {S : AS} {Q : AX → AS → Prop} {c rest : Code} (l : Nat) (hf : findLabel c l = some rest) (hb : drawB c = true) (hbr : drawB rest = true)
    (first : vc (fun _ => Try.prog) (fun _ => tab) c (jumpQ l (fun _ => False) Q) S) : ScopeL (fun _ => Try.prog) (fun _ => tab) c Q S := by
  refine ScopeL.intro (P := fun _ => Try.prog) (T := fun _ => tab) tabOk mixed l hf hb hbr (X := Empty) (fun _ => S) (fun _ => 0) ?_ fun x => x.elim
  refine vc_mono c first fun e S' h => ?_
  cases e with
  | normal => exact h
  | exit i => exact h
  | ret => exact h
  | goto i =>
    simp only [jumpQ] at h ⊢
    split
    · rename_i hi
      rw [if_pos hi] at h
      exact h.elim
    · rename_i hi
      rw [if_neg hi] at h
      exact h
end Go.Proofs.Ytjkmgdhndbdhoaa.M

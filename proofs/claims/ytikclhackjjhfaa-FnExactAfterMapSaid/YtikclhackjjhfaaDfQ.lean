/- Drawn regions in which a call makes memory: calls told by what they do to what is known. -/
import Derived.Test.YtikclhackjjhfaaDeQ
namespace Go.Proofs.Ytikclhackjjhfaa.M
open Go.RowKit Abs
set_option linter.unusedSimpArgs false
set_option linter.unusedVariables false
set_option maxRecDepth 100000
set_option maxHeartbeats 4000000
def stepE (T : Tab) (vs : List (Nat × (AS → AS))) (S : AS) (i : Nat) (o : Oper) : AS :=
  match vs.lookup i with
  | some g => g S
  | none => (match memF T S o with
    | some (S', _) => S'
    | none => (match qv T S o with
      | some (v, _) => S.put o.dst v
      | none => S))
def runE (T : Tab) (vs : List (Nat × (AS → AS))) : Nat → List Oper → List Bool → AS → AS
  | i, o :: ops, b :: l, S => runE T vs (i + 1) ops l (if (b) = true then stepE T vs S i o else S)
  | _, _, _, S => S
theorem DrawL.layersS {id : Nat} {ops : Array Oper} {Q : AX → AS → Prop} {S : AS} (vs : List (Nat × (AS → AS))) (js : List Nat) (ρ : List Bool → Nat → Option (List Nat)) (Ls : List (List Bool × List Nat)) (hok : layOkR ops js Ls = true)
    (h0 : movS ops js S = runE tab vs 0 ops.toList (setAll js (List.replicate ops.size false)) S) (h : layR (fun _ => Try.prog) (fun _ => tab) ops (Q .normal) (fun l => runE tab vs 0 ops.toList l S) ρ Ls) : DrawL (fun _ => Try.prog) (fun _ => tab) id ops true Q S := by
  simp only [layOkR, Bool.and_eq_true, List.all_eq_true, List.any_eq_true, beq_iff_eq] at hok
  obtain ⟨⟨⟨⟨⟨k1, k2⟩, k3⟩, k4⟩, k5⟩, k6⟩ := hok
  refine ⟨fun w0 B hd a w val hR => wp_region_any mixed ?_⟩
  have key : ∀ (fuel : Nat) (l : List Bool) (is : List Nat) (a : Act) (w : World) (val : Nat → Bd), (l, is) ∈ Ls → l.count false ≤ fuel → Rl w0 B hd (runE tab vs 0 ops.toList l S) a w val → wpAny Try.prog .any ops (CQ w0 B hd Q) fuel l.toArray a w := fun fuel => by
    induction fuel with
    | zero =>
      intro l is a w val hm hc hR
      obtain ⟨⟨e1, e2⟩, e3⟩ := k1 _ hm
      simp only at e1 e2 e3
      have hz : is = [] := by
        cases is with
        | nil => rfl
        | cons i is =>
          exfalso
          have hi : i ∈ Region.ready .any ops l.toArray := by rw [e2]; simp
          obtain ⟨hu, o, ho, _⟩ := mem_ready.1 hi
          have hlt : i < l.length := by rw [e1]; exact (Array.getElem?_eq_some_iff.1 ho).1
          have : l[i]? = some false := by
            rw [List.getElem?_eq_getElem hlt]
            simpa [hlt] using hu
          have := cnt_set this
          omega
      subst hz
      exact ⟨e2, .normal, _, val, rfl, (layR_get h hm).1 rfl, hR⟩
    | succ fuel ih =>
      intro l is a w val hm hc hR
      obtain ⟨⟨e1, e2⟩, e3⟩ := k1 _ hm
      simp only at e1 e2 e3
      obtain ⟨g1, g2⟩ := layR_get h hm
      refine ⟨fun hr => ⟨.normal, _, val, rfl, g1 (by rw [← e2]; exact hr), hR⟩, fun i hi => ?_⟩
      obtain ⟨hu, _⟩ := mem_ready.1 hi
      rw [e2] at hi
      obtain ⟨o, ho, hs⟩ := stepsR_get g2 hi
      have hlt : i < l.length := by rw [e1]; exact (Array.getElem?_eq_some_iff.1 ho).1
      have hl : l[i]? = some false := by
        rw [List.getElem?_eq_getElem hlt]
        simpa [hlt] using hu
      obtain ⟨⟨l', is'⟩, hm', hl'⟩ := e3 i hi
      simp only at hl'
      have hg : o.guard = none := by
        have := k3 o (by simpa using Array.mem_of_getElem? ho)
        simpa using this
      unfold wpOp
      rw [ho]
      simp only
      rw [wanted_none hg, if_pos rfl]
      refine .inl (stepP_sound tabOk hR hs fun S' a' w' val' h1 h2 => ?_)
      obtain ⟨v2, h3⟩ := h2.toQ h1
      have := ih l' is' a' w' v2 hm' (by have := cnt_set hl; rw [hl']; omega) (by rw [hl']; exact h3)
      rw [hl'] at this
      simpa using this
  obtain ⟨⟨l, is⟩, hm, hl⟩ := k2
  simp only at hl
  have hst := takes_sound (Q := Q) (G := (setAll js (List.replicate ops.size false)).count false) k4 js (List.replicate ops.size false) S a k5 (keep_draw hR) (fun a' hR' => by
    rw [h0] at hR'
    have := key _ l is a' _ _ hm (by rw [hl]; exact Nat.le_refl _) (by rw [hl]; exact hR')
    rw [hl] at this
    exact this)
  rw [k6] at hst
  simpa using hst
end Go.Proofs.Ytikclhackjjhfaa.M

/- Drawn regions in which several operations make memory: the steps that make none asked by equality. -/
import Derived.Test.YthogfineaeklpaaDrQ
namespace Go.Proofs.Ythogfineaeklpaa.M
open Go.RowKit Abs
set_option linter.unusedSimpArgs false
set_option linter.unusedVariables false
set_option maxRecDepth 100000
set_option maxHeartbeats 4000000
def renQ (r : Option (List Nat)) (S S' : AS) : Prop := match r with
  | some ρ => M.renD ρ S S'
  | none => S = S'
theorem Rl.toQ {w0 w : World} {B : Nat → Prop} {hd : Nat → Value} {S S' : AS} {a : Act} {val : Nat → Bd} {r : Option (List Nat)} (hR : Rl w0 B hd S a w val) (h : renQ r S S') : ∃ val', Rl w0 B hd S' a w val' := by
  cases r with
  | none => cases h; exact ⟨_, hR⟩
  | some ρ => exact ⟨_, hR.renD h⟩
def stepsQ (P : Unit → Program) (T : Unit → Tab) (ops : Array Oper) (st : List Bool → AS) (ρ : Nat → Option (List Nat)) (l : List Bool) : List Nat → Prop
  | [] => True
  | i :: r => (match ops[i]? with | some o => stepP P T o (st l) (fun S' => renQ (ρ i) S' (st (l.set i true))) | none => False) ∧ stepsQ P T ops st ρ l r
def layQ (P : Unit → Program) (T : Unit → Tab) (ops : Array Oper) (K : AS → Prop) (st : List Bool → AS) (ρ : Nat → Option (List Nat)) : List (List Bool × List Nat) → Prop
  | [] => True
  | (l, is) :: r => (match is with | [] => K (st l) | i :: is => stepsQ P T ops st ρ l (i :: is)) ∧ layQ P T ops K st ρ r
theorem stepsQ_get {P : Unit → Program} {T : Unit → Tab} {ops : Array Oper} {st : List Bool → AS} {ρ : Nat → Option (List Nat)} {l : List Bool} : ∀ {is : List Nat} {i : Nat}, stepsQ P T ops st ρ l is → i ∈ is → ∃ o, ops[i]? = some o ∧ stepP P T o (st l) (fun S' => renQ (ρ i) S' (st (l.set i true)))
  | [], i, _, h => by simp at h
  | j :: is, i, h, hi => by
    simp only [stepsQ] at h
    rcases List.mem_cons.1 hi with rfl | hi
    · have h1 := h.1
      split at h1
      · rename_i o ho; exact ⟨o, ho, h1⟩
      · exact h1.elim
    · exact stepsQ_get h.2 hi
theorem layQ_get {P : Unit → Program} {T : Unit → Tab} {ops : Array Oper} {K : AS → Prop} {st : List Bool → AS} {ρ : Nat → Option (List Nat)} : ∀ {Ls : List (List Bool × List Nat)} {l : List Bool} {is : List Nat}, layQ P T ops K st ρ Ls → (l, is) ∈ Ls → (is = [] → K (st l)) ∧ stepsQ P T ops st ρ l is
  | [], _, _, _, h => by simp at h
  | (l', is') :: r, l, is, h, hm => by
    simp only [layQ] at h
    rcases List.mem_cons.1 hm with e | hm
    · cases e
      cases is' with
      | nil => exact ⟨fun _ => h.1, trivial⟩
      | cons i is => exact ⟨fun e => (by cases e), h.1⟩
    · exact layQ_get h.2 hm
theorem DrawL.layers2 {id : Nat} {ops : Array Oper} {Q : AX → AS → Prop} {S : AS} (vs : List (Nat × AV)) (bs : List (Nat × Blk)) (ρ0 : List Nat) (ρ : Nat → Option (List Nat)) (Ls : List (List Bool × List Nat)) (hok : layOk ops Ls = true)
    (h0 : M.renD ρ0 S (stD S vs bs (List.replicate ops.size false))) (h : layQ (fun _ => Try.prog) (fun _ => tab) ops (Q .normal) (stD S vs bs) ρ Ls) : DrawL (fun _ => Try.prog) (fun _ => tab) id ops true Q S := by
  simp only [layOk, Bool.and_eq_true, List.all_eq_true, List.any_eq_true, beq_iff_eq] at hok
  obtain ⟨⟨k1, k2⟩, k3⟩ := hok
  refine ⟨fun w0 B hd a w val hR => wp_region_any mixed ?_⟩
  have key : ∀ (fuel : Nat) (l : List Bool) (is : List Nat) (a : Act) (w : World) (val : Nat → Bd), (l, is) ∈ Ls → l.count false ≤ fuel → Rl w0 B hd (stD S vs bs l) a w val → wpAny Try.prog .any ops (CQ w0 B hd Q) fuel l.toArray a w := fun fuel => by
    induction fuel with
    | zero =>
      intro l is a w val hm hc hR
      obtain ⟨⟨e1, e2⟩, e3⟩ := k1 _ hm
      simp only at e1 e2 e3
      have hz : is = [] := by
        cases is with
        | nil => rfl
        | cons i is =>
          exfalso
          have hi : i ∈ Region.ready .any ops l.toArray := by rw [e2]; simp
          obtain ⟨hu, o, ho, _⟩ := mem_ready.1 hi
          have hlt : i < l.length := by rw [e1]; exact (Array.getElem?_eq_some_iff.1 ho).1
          have : l[i]? = some false := by
            rw [List.getElem?_eq_getElem hlt]
            simpa [hlt] using hu
          have := cnt_set this
          omega
      subst hz
      exact ⟨e2, .normal, _, val, rfl, (layQ_get h hm).1 rfl, hR⟩
    | succ fuel ih =>
      intro l is a w val hm hc hR
      obtain ⟨⟨e1, e2⟩, e3⟩ := k1 _ hm
      simp only at e1 e2 e3
      obtain ⟨g1, g2⟩ := layQ_get h hm
      refine ⟨fun hr => ⟨.normal, _, val, rfl, g1 (by rw [← e2]; exact hr), hR⟩, fun i hi => ?_⟩
      obtain ⟨hu, _⟩ := mem_ready.1 hi
      rw [e2] at hi
      obtain ⟨o, ho, hs⟩ := stepsQ_get g2 hi
      have hlt : i < l.length := by rw [e1]; exact (Array.getElem?_eq_some_iff.1 ho).1
      have hl : l[i]? = some false := by
        rw [List.getElem?_eq_getElem hlt]
        simpa [hlt] using hu
      obtain ⟨⟨l', is'⟩, hm', hl'⟩ := e3 i hi
      simp only at hl'
      have hg : o.guard = none := by
        have := k3 o (by simpa using Array.mem_of_getElem? ho)
        simpa using this
      unfold wpOp
      rw [ho]
      simp only
      rw [wanted_none hg, if_pos rfl]
      refine .inl (stepP_sound tabOk hR hs fun S' a' w' val' h1 h2 => ?_)
      obtain ⟨v2, h3⟩ := h2.toQ h1
      have := ih l' is' a' w' v2 hm' (by have := cnt_set hl; rw [hl']; omega) (by rw [hl']; exact h3)
      rw [hl'] at this
      simpa using this
  obtain ⟨⟨l, is⟩, hm, hl⟩ := k2
  simp only at hl
  have := key ops.size l is a _ _ hm (by rw [hl]; simp) (by rw [hl]; exact keep_draw (hR.renD h0))
  rw [hl] at this
  simpa using this
end Go.Proofs.Ythogfineaeklpaa.M

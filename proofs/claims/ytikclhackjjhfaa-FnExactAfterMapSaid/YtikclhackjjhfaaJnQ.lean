/- Rows of the call's own that are only read from some place on become data, in the midst of a region too. -/
import Derived.Test.YtikclhackjjhfaaJaQ
import Derived.Test.YtikclhackjjhfaaDfQ
import Derived.Test.YtikclhackjjhfaaQg
namespace Go.Proofs.Ytikclhackjjhfaa.M
open Go.RowKit Abs
set_option linter.unusedSimpArgs false
set_option linter.unusedVariables false
set_option maxRecDepth 100000
set_option maxHeartbeats 4000000
def frR (n : Nat) (b : Blk) (v : AV) : AV :=
  match b, v with
  | .row _ t l, .ref m => if (m == n) = true then .sl t l else .ref m
  | .rows _ _ t l, .ref m => if (m == n) = true then .sl (.sl t) l else .ref m
  | _, v => v
def AS.frR (S : AS) (n : Nat) : AS :=
  match S.H[n]? with
  | some (some (.row e t l)) => ⟨S.tm.map (M.frR n (.row e t l)), dropC [n] S.H, S.k⟩
  | some (some (.rows e e2 t l)) => ⟨S.tm.map (M.frR n (.rows e e2 t l)), dropC [n] S.H, S.k⟩
  | _ => S
theorem Rl.frCore {w0 w : World} {B : Nat → Prop} {hd : Nat → Value} {S : AS} {a : Act} {val : Nat → Bd} (hR : Rl w0 B hd S a w val) (n : Nat) {b : Blk} (hH : S.H[n]? = some (some b)) (f : AV → AV) (hu : f .undef = .undef)
    (hf : ∀ (X : AV) (v : Value), VRel (okF (dropC [n] S.H) val) w (dropC [n] S.H).length val X v → BRel (okF S.H val) w S.H.length val (val n) b → (∀ g ∈ (val n).F, okF (dropC [n] S.H) val g) → (∀ g, okF S.H val g → okF (dropC [n] S.H) val g) → VRel (okF (dropC [n] S.H) val) w (dropC [n] S.H).length val (f X) v) : Rl w0 B hd ⟨S.tm.map f, dropC [n] S.H, S.k⟩ a w val := by
  have hok : ∀ b, okF S.H val b → okF (dropC [n] S.H) val b := fun b hk m X hX => hk m X (dropC_get hX).2
  have hokg : ∀ g ∈ (val n).F, okF (dropC [n] S.H) val g := fun g hgF m X hX hg => by
    obtain ⟨c1, c2⟩ := dropC_get hX
    exact hR.heap.apart n m _ X (fun e => c1 (by simp [e])) hH c2 g hgF hg
  have K : Keep0 (okF S.H val) (okF (dropC [n] S.H) val) w w S.H.length (dropC [n] S.H).length val val := ⟨Nat.le_refl _, fun b hk _ => ⟨hok b hk, rfl⟩, by rw [dropC_len]; exact Nat.le_refl _, fun _ _ => rfl, fun _ _ => rfl⟩
  refine ⟨hR.fr, by simpa using hR.len, hR.defers, fun t => ?_, ⟨fun m X hX => ?_, fun m X hX => hR.heap.lt m X (dropC_get hX).2, fun m k X Y hne hX hY => hR.heap.apart m k X Y hne (dropC_get hX).2 (dropC_get hY).2⟩, fun m X hX => hR.own m X (dropC_get hX).2, hR.kept, by simp only [dropC_len]; exact hR.kle⟩
  · have ht := (hR.tmps t).keep K
    have e : (S.tm.map f).getD t .undef = f (S.tm.getD t .undef) := by
      rw [List.getD_eq_getElem?_getD, List.getD_eq_getElem?_getD, List.getElem?_map]
      cases S.tm[t]? with
      | none => exact hu.symm
      | some y => rfl
    simp only [e]
    exact hf _ _ ht (hR.heap.blk n _ hH) hokg hok
  · rw [dropC_len]
    exact (by simpa [dropC_len] using (hR.heap.blk m X (dropC_get hX).2).keep K fun _ _ => rfl)
theorem Rl.frR {w0 w : World} {B : Nat → Prop} {hd : Nat → Value} {S : AS} {a : Act} {val : Nat → Bd} (hR : Rl w0 B hd S a w val) (n : Nat) : Rl w0 B hd (S.frR n) a w val := by
  unfold AS.frR
  split
  · rename_i e t l hH
    refine hR.frCore n hH _ rfl fun X v hX hb hF hk => ?_
    unfold M.frR
    split
    · rename_i m heq
      cases heq
      cases hmn : m == n with
      | false => simpa using hX
      | true =>
        simp only [beq_iff_eq] at hmn
        subst hmn
        simp only [↓reduceIte, VRel] at hX ⊢
        rw [hX.2]
        exact row_view hb hF hk
    · rename_i heq; cases heq
    · exact hX
  · rename_i e e2 t l hH
    refine hR.frCore n hH _ rfl fun X v hX hb hF hk => ?_
    unfold M.frR
    split
    · rename_i heq; cases heq
    · rename_i m heq
      cases heq
      cases hmn : m == n with
      | false => simpa using hX
      | true =>
        simp only [beq_iff_eq] at hmn
        subst hmn
        simp only [↓reduceIte, VRel] at hX ⊢
        rw [hX.2]
        exact rows_view hb hF hk
    · exact hX
  · exact hR
def frRs : List Nat → AS → AS
  | [], S => S
  | n :: r, S => frRs r (S.frR n)
theorem Rl.frRs {w0 w : World} {B : Nat → Prop} {hd : Nat → Value} {a : Act} {val : Nat → Bd} : ∀ (ns : List Nat) {S : AS}, Rl w0 B hd S a w val → Rl w0 B hd (M.frRs ns S) a w val
  | [], _, hR => hR
  | n :: r, _, hR => Rl.frRs r (hR.frR n)
/-- Operations in the text's order; ahead of the i-th, rows may become data. -/
def aseqZ (P : Unit → Program) (T : Unit → Tab) (fz : List (Nat × List Nat)) (Q : AS → Prop) : Nat → List Oper → AS → Prop
  | _, [], S => Q S
  | i, o :: r, S => if (o.guard.isNone) = true then stepP P T o (M.frRs ((fz.lookup i).getD []) S) (aseqZ P T fz Q (i + 1) r) else False
theorem aseqZ_sound {P : Unit → Program} {T : Unit → Tab} (hT : TOk (P ()) (T ())) {ops : Array Oper} {fz : List (Nat × List Nat)} {w0 : World} {B : Nat → Prop} {hd : Nat → Value} {Q : AX → AS → Prop} : ∀ (l : List Oper) (i : Nat) (S : AS) (a : Act) (w : World) (val : Nat → Bd), aseqZ P T fz (Q .normal) i l S → Rl w0 B hd S a w val → wpList (P ()) ops (CQ w0 B hd Q) l a w
  | [], i, S, a, w, val, h, hR => ⟨.normal, S, val, rfl, h, hR⟩
  | o :: r, i, S, a, w, val, h, hR => by
    unfold aseqZ at h
    cases hg : o.guard with
    | some g => rw [hg] at h; simp at h
    | none =>
      rw [hg] at h
      simp only [Option.isNone_none, ↓reduceIte] at h
      unfold wpList
      rw [wanted_none hg, if_pos rfl]
      exact .inl (stepP_sound hT (hR.frRs _) h fun S' a' w' val' h1 h2 => aseqZ_sound hT r (i + 1) S' a' w' val' h1 h2)
theorem DrawL.seqZ {id : Nat} {ops : Array Oper} {Q : AX → AS → Prop} {S : AS} (fz : List (Nat × List Nat)) (h : aseqZ (fun _ => Try.prog) (fun _ => tab) fz (Q .normal) 0 ops.toList S) : DrawL (fun _ => Try.prog) (fun _ => tab) id ops false Q S :=
  ⟨fun w0 B hd a w val hR => by
    have := wp_region_list (id := id) (aseqZ_sound (P := fun _ => Try.prog) (T := fun _ => tab) tabOk (ops := ops) (Q := Q) ops.toList 0 S a w val h hR)
    simpa using this⟩
end Go.Proofs.Ytikclhackjjhfaa.M

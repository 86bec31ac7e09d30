/- A block that came in becomes one of the call's own. -/
import Derived.Test.YtoejmijcikehdaaJnQ
import Derived.Test.YtoejmijcikehdaaLpQ
import Derived.Test.YtoejmijcikehdaaQg
namespace Go.Proofs.Ytoejmijcikehdaa.M
open Go.RowKit Abs
set_option linter.unusedSimpArgs false
set_option linter.unusedVariables false
set_option maxRecDepth 100000
set_option maxHeartbeats 4000000
def tkA (n m : Nat) : AV → AV
  | .ref k => if (k == n) = true then .ref m else .ref k
  | x => x
def AS.takeB (S : AS) (n : Nat) : AS :=
  match S.H[n]? with
  | some (some b) => ⟨S.tm.map (M.tkA n S.H.length), dropC [n] S.H ++ [some b], S.k⟩
  | _ => S
theorem Rl.takeB {w0 w : World} {B : Nat → Prop} {hd : Nat → Value} {S : AS} {a : Act} {val : Nat → Bd} (hR : Rl w0 B hd S a w val) (n : Nat) : ∃ val', Rl w0 B hd (S.takeB n) a w val' := by
  unfold AS.takeB
  split
  case h_2 => exact ⟨val, hR⟩
  rename_i b hH
  have hlen : (dropC [n] S.H ++ [some b]).length = S.H.length + 1 := by rw [List.length_append, dropC_len]; rfl
  have get : ∀ {i : Nat} {X : Blk}, (dropC [n] S.H ++ [some b])[i]? = some (some X) → S.H[if i = S.H.length then n else i]? = some (some X) ∧ (i ≠ S.H.length → i ≠ n) := fun {i X} h => by
    by_cases hi : i < S.H.length
    · rw [List.getElem?_append_left (by rw [dropC_len]; exact hi)] at h
      obtain ⟨c1, c2⟩ := dropC_get h
      rw [if_neg (by omega)]
      exact ⟨c2, fun _ e => c1 (by simp [e])⟩
    · rw [List.getElem?_append_right (by rw [dropC_len]; omega), dropC_len] at h
      by_cases he : i = S.H.length
      · rw [he, Nat.sub_self] at h
        rw [if_pos he]
        refine ⟨?_, fun c => absurd he c⟩
        rw [hH]
        simpa using h
      · rw [List.getElem?_eq_none (by simp; omega)] at h
        cases h
  refine ⟨fun i => val (if i = S.H.length then n else i), ?_⟩
  have hok : ∀ g, okF S.H val g → okF (dropC [n] S.H ++ [some b]) (fun i => val (if i = S.H.length then n else i)) g := fun g hk m X hX => hk _ X (get hX).1
  have K : Keep0 (okF S.H val) (okF (dropC [n] S.H ++ [some b]) (fun i => val (if i = S.H.length then n else i))) w w S.H.length (dropC [n] S.H ++ [some b]).length val (fun i => val (if i = S.H.length then n else i)) :=
    ⟨Nat.le_refl _, fun g hk _ => ⟨hok g hk, rfl⟩, by rw [hlen]; omega, fun m hm => by rw [if_neg (by omega)], fun m hm => by rw [if_neg (by omega)]⟩
  refine ⟨hR.fr, by simpa using hR.len, hR.defers, fun t => ?_, ⟨fun m X hX => ?_, fun m X hX => hR.heap.lt _ X (get hX).1, fun m k X Y hne hX hY => ?_⟩, fun m X hX => hR.own _ X (get hX).1, fun m hm => ?_, ?_⟩
  · have ht := (hR.tmps t).keep K
    have e : (S.tm.map (M.tkA n S.H.length)).getD t .undef = M.tkA n S.H.length (S.tm.getD t .undef) := by
      rw [List.getD_eq_getElem?_getD, List.getD_eq_getElem?_getD, List.getElem?_map]
      cases S.tm[t]? with
      | none => rfl
      | some y => rfl
    simp only [e]
    revert ht
    generalize S.tm.getD t .undef = x
    intro ht
    unfold M.tkA
    split
    · rename_i k
      cases hkn : k == n with
      | false => simpa using ht
      | true =>
        simp only [beq_iff_eq] at hkn
        subst hkn
        have hk : k < S.H.length := (List.getElem?_eq_some_iff.1 hH).1
        simp only [VRel, ↓reduceIte] at ht ⊢
        rw [if_neg (by omega)] at ht
        exact ⟨by rw [hlen]; omega, ht.2⟩
    · exact ht
  · exact (hR.heap.blk _ X (get hX).1).keep K fun _ _ => rfl
  · refine hR.heap.apart _ _ X Y ?_ (get hX).1 (get hY).1
    have a := (get hX).2
    have c := (get hY).2
    split <;> split <;> omega
  · have := hR.kle
    show (val (if m = S.H.length then n else m)).v = hd m
    rw [if_neg (by show ¬ m = S.H.length; have : m < S.k := hm; omega)]
    exact hR.kept m hm
  · have := hR.kle
    show S.k ≤ (dropC [n] S.H ++ [some b]).length
    omega
theorem LoopL.takeB {S : AS} {Q : AX → AS → Prop} {c : Code} (n : Nat) (h : LoopL (fun _ => Try.prog) (fun _ => tab) c Q (S.takeB n)) : LoopL (fun _ => Try.prog) (fun _ => tab) c Q S :=
  ⟨fun w0 B hd a w val hR => by
    obtain ⟨val', hR'⟩ := hR.takeB n
    exact h.out w0 B hd a w val' hR'⟩
theorem DrawL.takeB {S : AS} {Q : AX → AS → Prop} {id : Nat} {ops : Array Oper} {d : Bool} (n : Nat) (h : DrawL (fun _ => Try.prog) (fun _ => tab) id ops d Q (S.takeB n)) : DrawL (fun _ => Try.prog) (fun _ => tab) id ops d Q S :=
  ⟨fun w0 B hd a w val hR => by
    obtain ⟨val', hR'⟩ := hR.takeB n
    exact h.out w0 B hd a w val' hR'⟩
end Go.Proofs.Ytoejmijcikehdaa.M

/- A variable of two numbers that is only read from some place on: there it becomes data. -/
import Derived.Test.YtlfdimhnielleaaDeQVPolygonSpace
import Derived.Test.YtlfdimhnielleaaQgVPolygonSpace
namespace Go.Proofs.Ytlfdimhnielleaa.M
open Go.RowKit Abs
set_option linter.unusedSimpArgs false
set_option linter.unusedVariables false
set_option maxRecDepth 100000
set_option maxHeartbeats 4000000
def frT (n : Nat) (x y : Unit → Int) : AV → AV
  | .ptr m 0 => if (m == n) = true then .iptr (.pr .int .int) fun _ => (x (), y ()) else .ptr m 0
  | v => v
def AS.frz (S : AS) (n : Nat) : AS :=
  match S.H[n]? with
  | some (some (.box _ [.int x, .int y])) => ⟨S.tm.map (frT n x y), dropC [n] S.H, S.k⟩
  | _ => S
theorem Rl.frz {w0 w : World} {B : Nat → Prop} {hd : Nat → Value} {S : AS} {a : Act} {val : Nat → Bd} (hR : Rl w0 B hd S a w val) (n : Nat) : Rl w0 B hd (S.frz n) a w val := by
  unfold AS.frz
  split
  · rename_i e x y hH
    obtain ⟨g, cur, h1, h2, h3, h4, h5⟩ := hR.heap.blk n _ hH
    have hcur : cur.toList = [.int .i64 (x ()), .int .i64 (y ())] := by
      have hl := h3.len
      match hc : cur.toList, hl with
      | [u, v], _ =>
        rw [hc] at h3
        simp only [VRelL, VRel, and_true] at h3
        rw [h3.1, h3.2]
    have hok : ∀ b, okF S.H val b → okF (dropC [n] S.H) val b := fun b hk m X hX => hk m X (dropC_get hX).2
    have hokg : okF (dropC [n] S.H) val g := fun m X hX hg => by
      obtain ⟨c1, c2⟩ := dropC_get hX
      exact hR.heap.apart n m _ X (fun e => c1 (by simp [e])) hH c2 g (by rw [h5]; simp) hg
    have hglt : g < w.heap.size := hR.heap.lt n _ hH g (by rw [h5]; simp)
    have K : Keep0 (okF S.H val) (okF (dropC [n] S.H) val) w w S.H.length (dropC [n] S.H).length val val := ⟨Nat.le_refl _, fun b hk _ => ⟨hok b hk, rfl⟩, by rw [dropC_len]; exact Nat.le_refl _, fun _ _ => rfl, fun _ _ => rfl⟩
    refine ⟨hR.fr, by simpa using hR.len, hR.defers, fun t => ?_, ⟨fun m X hX => ?_, fun m X hX => hR.heap.lt m X (dropC_get hX).2, fun m k X Y hne hX hY => hR.heap.apart m k X Y hne (dropC_get hX).2 (dropC_get hY).2⟩, fun m X hX => hR.own m X (dropC_get hX).2, hR.kept, by simp only [dropC_len]; exact hR.kle⟩
    · have ht := (hR.tmps t).keep K
      have e : (S.tm.map (frT n x y)).getD t .undef = frT n x y (S.tm.getD t .undef) := by
        rw [List.getD_eq_getElem?_getD, List.getD_eq_getElem?_getD, List.getElem?_map]
        cases S.tm[t]? <;> rfl
      simp only [e]
      generalize S.tm.getD t .undef = X at ht ⊢
      unfold frT
      split
      · rename_i m
        cases hmn : m == n with
        | false => simpa using ht
        | true =>
          simp only [beq_iff_eq] at hmn
          subst hmn
          simp only [↓reduceIte, VRel] at ht ⊢
          obtain ⟨_, g', k1, k2⟩ := ht
          rw [h1] at k1
          cases k1
          refine ⟨g, 0, [.int .i64 (x ()), .int .i64 (y ())], k2, hokg, hglt, ?_, fun j u hu => ?_⟩
          · unfold Rep
            exact ⟨[.int .i64 (x ())], [.int .i64 (y ())], rfl, by unfold Rep; rfl, by unfold Rep; rfl⟩
          · rw [← hcur] at hu
            simp only [Array.getElem?_toList] at hu
            have hlt := (Array.getElem?_eq_some_iff.1 hu).1
            simp [World.cell?, h2, hu]
      · exact ht
    · rw [dropC_len]
      exact (by simpa [dropC_len] using (hR.heap.blk m X (dropC_get hX).2).keep K fun _ _ => rfl)
  · exact hR
def frzs : List Nat → AS → AS
  | [], S => S
  | n :: r, S => frzs r (S.frz n)
theorem Rl.frzs {w0 w : World} {B : Nat → Prop} {hd : Nat → Value} {a : Act} {val : Nat → Bd} : ∀ (ns : List Nat) {S : AS}, Rl w0 B hd S a w val → Rl w0 B hd (M.frzs ns S) a w val
  | [], _, hR => hR
  | n :: r, _, hR => Rl.frzs r (hR.frz n)
end Go.Proofs.Ytlfdimhnielleaa.M

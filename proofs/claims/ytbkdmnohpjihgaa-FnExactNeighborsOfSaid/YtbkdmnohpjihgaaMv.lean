/- Between the two ways to say what a function answers, where all is data. -/
import Derived.Test.YtbkdmnohpjihgaaMu
namespace Go.Proofs.Ytbkdmnohpjihgaa.M
open Go.RowKit Abs
set_option linter.unusedVariables false
set_option linter.unusedSimpArgs false

def ofA : Abs.AV → AV
  | .int x => .int fun _ => x | .bool b => .bool fun _ => b | .str s => .str fun _ => s | .u8 x => .u8 fun _ => x | .u64 x => .u64 fun _ => x
  | .sl t l => .sl t fun _ => l | .agg t x => .agg t fun _ => x
  | _ => .junk
def isD : Abs.AV → Bool
  | .int _ | .bool _ | .str _ | .u8 _ | .u64 _ | .sl _ _ | .agg _ _ => true
  | _ => false
theorem ofA_arg {ok : Nat → Prop} {w : World} {N : Nat} {val : Nat → Bd} {x : Abs.AV} {v : Value} (hd : isD x = true) (h : VRel ok w N val (ofA x) v) : Abs.ArgRel w x v := by
  cases x <;> simp only [isD, Bool.false_eq_true] at hd <;> simp only [ofA, VRel] at h <;> simp only [Abs.ArgRel, Abs.VRel]
  case sl t l => exact Rep.weak (fun _ _ => trivial) h
  case agg t d => obtain ⟨cs, h1, h2⟩ := h; exact ⟨cs, h1, Rep.weak (fun _ _ => trivial) h2⟩
  all_goals exact h
theorem arg_ofA {ok : Nat → Prop} {w : World} {N : Nat} {val : Nat → Bd} (hk : ∀ b, ok b) {x : Abs.AV} {v : Value} (h : Abs.ArgRel w x v) : VRel ok w N val (ofA x) v := by
  cases x <;> simp only [Abs.ArgRel, Abs.VRel] at h <;> simp only [ofA, VRel]
  case sl t l => exact Rep.weak (fun _ _ => hk _) h
  case agg t d => obtain ⟨cs, h1, h2⟩ := h; exact ⟨cs, h1, Rep.weak (fun _ _ => hk _) h2⟩
  all_goals exact h
theorem toSpec {P : Program} {f : FuncId} {args : List Abs.AV} {res : AV} {t : Ty} {x : t.den} (h : Spec2 P f (args.map ofA) [] [res] []) (hr : ∀ (ok : Nat → Prop) w N val v, VRel NoB w N val res v → IRel ok w t x v) : Abs.Spec P f args [.im t x] := by
  refine ⟨h.1, fun w vs hl hv => ?_⟩
  have hH : HRel w (fun _ => default) ([] : Hp) := ⟨fun n B h => by simp at h, fun n B h => by simp at h, fun n m B C _ h => by simp at h⟩
  have hk : ∀ b, okF [] (fun _ => (default : Bd)) b := fun b n B h => by simp at h
  refine (h.2.2 w (fun _ => default) vs hH (VRelL.of (by simpa using hl) fun i y hy => ?_)).mono fun e w' ⟨v, val', he, hp⟩ => ?_
  · rw [List.getElem?_map] at hy
    obtain ⟨z, hz, rfl⟩ := Option.map_eq_some_iff.1 hy
    obtain ⟨u, hu, ha⟩ := hv i z hz
    exact ⟨u, hu, arg_ofA hk ha⟩
  · refine ⟨v, he, ⟨hp.fr.os, hp.fr.tape, hp.fr.output, hp.fr.size, fun b hb => hp.fr.same b hb fun ⟨n, B, hB, _⟩ => by simp at hB⟩, ?_⟩
    exact hr _ _ _ _ _ hp.res
theorem toSpec2 {P : Program} {f : FuncId} {args : List Abs.AV} {res : AV} {t : Ty} {x : t.den} (h : Abs.Spec P f args [.im t x]) (hd : args.all isD = true) (hr : ∀ (ok : Nat → Prop) w val v, IRel ok w t x v → VRel NoB w 0 val res v) : Spec2 P f (args.map ofA) [] [res] [] := by
  refine ⟨h.1, Nat.le_refl _, fun w val vs hH hv => ?_⟩
  refine (h.2 w vs (by have := hv.len; simpa using this) fun i y hy => ?_).mono fun e w' ⟨v, he, hb, hv⟩ => ⟨v, val, he, ⟨hb.os, hb.tape, hb.output, hb.size, fun b hb' _ => hb.block b hb'⟩, ⟨fun n B h => by simp at h, fun n B h => by simp at h, fun n m B C _ h => by simp at h⟩, fun n B h => by simp at h, fun n h => by simp at h, ?_⟩
  · obtain ⟨u, hu, hx⟩ := hv.get (i := i) (x := ofA y) (by rw [List.getElem?_map, hy]; rfl)
    exact ⟨u, hu, ofA_arg (List.all_eq_true.1 hd _ (List.mem_of_getElem? hy)) hx⟩
  · exact hr _ _ _ _ hv
theorem rInt {b : Int} (ok : Nat → Prop) (w : World) (N : Nat) (val : Nat → Bd) (v : Value) (h : VRel NoB w N val (.int fun _ => b) v) : IRel ok w .int b v := by
  simp only [VRel] at h
  simp only [IRel, Ty.isPr]
  show Rep ok w .int b [v]
  unfold Rep
  rw [h]
theorem rBool {b : Bool} (ok : Nat → Prop) (w : World) (N : Nat) (val : Nat → Bd) (v : Value) (h : VRel NoB w N val (.bool fun _ => b) v) : IRel ok w .bool b v := by
  simp only [VRel] at h
  simp only [IRel, Ty.isPr]
  show Rep ok w .bool b [v]
  unfold Rep
  rw [h]
theorem iInt {b : Int} (ok : Nat → Prop) (w : World) (val : Nat → Bd) (v : Value) (h : IRel ok w .int b v) : VRel NoB w 0 val (.int fun _ => b) v := by
  have h2 : Rep ok w .int b [v] := h
  unfold Rep at h2
  simp only [VRel]
  simpa using h2
end Go.Proofs.Ytbkdmnohpjihgaa.M

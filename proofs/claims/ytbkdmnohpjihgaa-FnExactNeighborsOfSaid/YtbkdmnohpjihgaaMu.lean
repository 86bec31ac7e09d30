/- Calls whose arguments are only looked at; law-side conversions. -/
import Derived.Test.YtbkdmnohpjihgaaMt
namespace Go.Proofs.Ytbkdmnohpjihgaa.M
open Go.RowKit Abs
set_option linter.unusedVariables false
set_option linter.unusedSimpArgs false

theorem argVs_len {T : Tab} {H : Hp} : ∀ {ts : List TypeId} {xs : List AV}, (argVs T H ts xs).length = xs.length
  | ts, [] => by cases ts <;> simp [argVs]
  | [], x :: xs => by simp [argVs, argVs_len]
  | t :: ts, x :: xs => by simp [argVs, argVs_len]
theorem argsM_self {σ : List Nat} : ∀ {xs us : List AV}, us.length = xs.length → argsM σ xs us us
  | [], [], _ => by simp [argsM]
  | x :: xs, u :: us, h => by simp only [argsM, true_or, true_and]; exact argsM_self (by simpa using h)
  | [], _ :: _, h => by simp at h
  | _ :: _, [], h => by simp at h
theorem dropC_nil {H : Hp} : dropC [] H = H := rfl
theorem call_pure {P : Unit → Program} {T : Unit → Tab} {S : AS} {ts : List TypeId} {f' : FuncId} {cap xs us res : List AV} {post : Hp} {K : AV → AS → Prop} (h : Spec2 (P ()) f' us [] res post)
    (he : argVs (T ()) S.H ts (xs ++ cap) = us) (hk : K (resA (rho [] S.H.length post.length) res) (S.after [] post)) : CallL P T S ts (.fn f' cap) xs us K :=
  ⟨f', cap, [], us, [], res, post, rfl, List.nodup_nil, h, by simp [preM], by rw [dropC_nil, he]; exact argsM_self (by rw [← he, argVs_len]), hk⟩
theorem call_q {P : Unit → Program} {T : Unit → Tab} {S : AS} {ts : List TypeId} {f' : FuncId} {cap xs us res : List AV} {post : Hp} {K : AV → Prop} (h : Spec2 (P ()) f' us [] res post)
    (he : argVs (T ()) S.H ts (xs ++ cap) = us) (hk : K (frz post (res1 res))) : CallQ P T S ts (.fn f' cap) xs us K :=
  ⟨f', cap, us, res, post, rfl, h, he, hk⟩
theorem loopK {S : AS} {Q : AX → AS → Prop} {c : Code} (hb : drawB c = true) {X : Type} (inv : X → Prop) (st : X → AS) (m : X → Nat) (nx : X → X) (a : X) (h0 : inv a) (hw : weakD S (st a))
    (round : ∀ x, inv x → vc (fun _ => Try.prog) (fun _ => tab) c (seqQ (fun S' => Obl (fun _ => inv (nx x) ∧ m (nx x) < m x) ∧ weakD S' (st (nx x))) Q) (st x)) : LoopL (fun _ => Try.prog) (fun _ => tab) c Q S :=
  loop1 hb inv st m a h0 hw fun x hx => vcMono (round x hx) fun S' h => ⟨nx x, h.1.out.1, h.1.out.2, h.2⟩
theorem inI_iff {x : Int} : inI x ↔ -9223372036854775808 ≤ x ∧ x ≤ 9223372036854775807 := by unfold inI; omega
theorem take_getI {t : Ty} {l : List t.den} {i : Int} (h0 : 0 ≤ i) (h1 : i < (l.length : Int)) : l.take (i + 1).toNat = l.take i.toNat ++ [getI t l i] := by
  have h2 : (i + 1).toNat = i.toNat + 1 := by omega
  rw [h2, List.take_add_one, getI_get h0 h1]
  rfl
theorem take_all {t : Type} {l : List t} {i : Int} (h1 : ¬ i < (l.length : Int)) : l.take i.toNat = l := List.take_of_length_le (by omega)
end Go.Proofs.Ytbkdmnohpjihgaa.M

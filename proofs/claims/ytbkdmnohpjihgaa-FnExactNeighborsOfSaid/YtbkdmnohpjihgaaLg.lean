/- The helpers of the laws over Graphs. -/
import Derived.Test.YtbkdmnohpjihgaaMv
import Derived.Test.YtbkdmnohpjihgaaBridge
namespace Go.Proofs.Ytbkdmnohpjihgaa.M
open Go.RowKit Abs
set_option linter.unusedSimpArgs false
set_option linter.unusedVariables false
set_option maxRecDepth 100000
theorem iBool {b : Bool} (ok : Nat → Prop) (w : World) (val : Nat → Bd) (v : Value) (h : IRel ok w .bool b v) : VRel NoB w 0 val (.bool fun _ => b) v := by
  have h2 : Rep ok w .bool b [v] := h
  unfold Rep at h2
  simp only [VRel]
  simpa using h2
theorem la_szGraph (n : Int) (l : List (Int × Int)) (k : Int) (h0 : 0 ≤ k) (h1 : k ≤ 1048576) : Spec2 Try.prog 15 [.agg (.pr .int (.sl (.pr .int .int))) fun _ => (n, l), .int fun _ => k] [] [.int fun _ => if (l.length : Int) ≤ k then k - l.length else -1] [] :=
  toSpec2 (Abs.law_szGraph (n, l) k h0 h1) rfl fun ok w val v h => iInt ok w val v h
theorem la_eqGraph (n : Int) (l : List (Int × Int)) : Spec2 Try.prog 20 [.agg (.pr .int (.sl (.pr .int .int))) fun _ => (n, l), .agg (.pr .int (.sl (.pr .int .int))) fun _ => (n, l)] [] [.bool fun _ => true] [] :=
  toSpec2 (Abs.law_eqGraph (n, l)) rfl fun ok w val v h => iBool ok w val v h
theorem repL_pairs {ok : Nat → Prop} {w : World} {l : List (Int × Int)} : RepL ok w (.pr .int .int) l (flat2 l) :=
  ⟨by rw [flat2_length]; rfl, fun i y hy => by
    unfold Rep
    refine ⟨[.int .i64 y.1], [.int .i64 y.2], ?_, by unfold Rep; rfl, by unfold Rep; rfl⟩
    obtain ⟨h1, h2⟩ := flat2_get l i y hy
    have l1 := List.getElem?_eq_some_iff.1 h1
    have l2 := List.getElem?_eq_some_iff.1 h2
    show ((flat2 l).drop (i * 2)).take 2 = _
    rw [List.drop_eq_getElem_cons l1.1, l1.2, List.drop_eq_getElem_cons l2.1, l2.2]; rfl⟩
theorem pairs_repL {ok : Nat → Prop} {w : World} {l : List (Int × Int)} {xs : List Value} (h : RepL ok w (.pr .int .int) l xs) : xs = flat2 l := by
  obtain ⟨h1, h2⟩ := h
  have h1' : xs.length = l.length * 2 := h1
  have key : ∀ (i : Nat) (y : Int × Int), l[i]? = some y → xs[i * 2]? = some (.int .i64 y.1) ∧ xs[i * 2 + 1]? = some (.int .i64 y.2) := fun i y hy => by
    have hr := h2 i y hy
    unfold Rep at hr
    obtain ⟨c1, c2, e, k1, k2⟩ := hr
    unfold Rep at k1 k2
    subst k1
    subst k2
    have e' : (xs.drop (i * 2)).take 2 = [.int .i64 y.1, .int .i64 y.2] := e
    have e0 : ((xs.drop (i * 2)).take 2)[0]? = some (.int .i64 y.1) := by rw [e']; rfl
    have e1 : ((xs.drop (i * 2)).take 2)[1]? = some (.int .i64 y.2) := by rw [e']; rfl
    rw [List.getElem?_take_of_lt (by omega), List.getElem?_drop] at e0 e1
    exact ⟨by simpa using e0, e1⟩
  apply List.ext_getElem?
  intro j
  by_cases hj : j < l.length * 2
  · have hi : j / 2 < l.length := by omega
    obtain ⟨a1, a2⟩ := key (j / 2) _ (List.getElem?_eq_getElem hi)
    obtain ⟨b1, b2⟩ := flat2_get l (j / 2) _ (List.getElem?_eq_getElem hi)
    rcases Nat.mod_two_eq_zero_or_one j with hm | hm
    · rw [show j = j / 2 * 2 by omega, a1, b1]
    · rw [show j = j / 2 * 2 + 1 by omega, a2, b2]
  · rw [List.getElem?_eq_none (by omega), List.getElem?_eq_none (by rw [flat2_length]; omega)]
theorem own_size {w : World} {base : Nat} {e : TypeId} {k : Nat} {v : Value} {n : Nat} {xs : List Value} (h : w.ownsRow base e k v n xs) : ∀ g, ownB v = some g → g < w.heap.size := fun g hg => by
  rcases h.2 with ⟨rfl, _⟩ | ⟨g', cap, cur, rfl, hb, hh, _⟩
  · cases hg
  · cases hg; exact (Array.getElem?_eq_some_iff.1 hh).1
theorem la_toGraph (n : Int) (l : List (Int × Int)) (hl : l.length ≤ 1048576) : Spec2 Try.prog 17 [.agg (.pr .int (.sl (.pr .int .int))) fun _ => (n, l)] [] [.cells [.int fun _ => n, .ref 0]] [some (.row 81 (.pr .int .int) fun _ => l)] := by
  refine ⟨by kernel_rfl, by simp, fun w val vs hH hv => ?_⟩
  match vs, hv with
  | [v], hv =>
  simp only [VRelL, and_true] at hv
  have ha : Abs.ArgRel w (.agg TG (n, l)) v := ofA_arg rfl hv
  obtain ⟨a, cap, rfl, h2, h3⟩ := Abs.arg_graph ha
  refine (toGraph w n a l cap h2 hl).mono ?_
  rintro e w' ⟨s, rfl, ho, hb⟩
  refine ⟨_, fun _ => ⟨s, [], (ownB s).toList⟩, rfl, ⟨hb.os, hb.tape, hb.output, hb.size, fun b hb' _ => hb.block b hb'⟩, ⟨fun m B hB => ?_, fun m B hB g hg => ?_, fun m k B C hne hB hC => ?_⟩, fun m B hB g hg => ?_, fun m hm => by simp at hm, ?_⟩
  · cases m with
    | succ m => simp at hB
    | zero => cases hB; exact ⟨flat2 l, own_le ho (Nat.zero_le _), repL_pairs, rfl⟩
  · exact own_size ho g (by simpa using hg)
  · cases m with
    | succ m => simp at hB
    | zero =>
      cases k with
      | succ k => simp at hC
      | zero => exact (hne rfl).elim
  · exact .inl (Abs.own_blk ho g (by simpa using hg))
  · show VRel _ _ _ _ _ _
    simp only [VRel]
    refine ⟨[.int .i64 n, s], rfl, by simp [VRelL, VRel], fun u hu => ?_⟩
    rcases List.mem_cons.1 hu with rfl | hu
    · rfl
    · simp only [List.mem_singleton] at hu
      subst hu
      exact Rep.one (Abs.own_pairs ho) _ (by simp)
theorem la_markGraph (n : Int) (l : List (Int × Int)) (k0 : Int) (h0 : 0 ≤ k0) (h1 : k0 ≤ 1000000000) (hl : l.length ≤ 1048576) : Spec2 Try.prog 21 [.cells [.int fun _ => n, .ref 0], .int fun _ => k0] [some (.row 81 (.pr .int .int) fun _ => l)] [.int fun _ => k0 + l.length * 2] [none] := by
  refine ⟨by kernel_rfl, by simp, fun w val vs hH hv => ?_⟩
  match vs, hv with
  | [v, u], hv =>
  simp only [VRelL, VRel, and_true] at hv
  obtain ⟨⟨cs, rfl, hcs, _⟩, rfl⟩ := hv
  match cs, hcs with
  | [c1, c2], hcs =>
  simp only [VRelL, VRel, and_true] at hcs
  obtain ⟨rfl, _, rfl⟩ := hcs
  obtain ⟨xs, k1, k2, k3⟩ := hH.blk 0 _ rfl
  have hxs := pairs_repL k2
  subst hxs
  have ho : OwnPairs 0 (val 0).v l w := k1
  refine (markGraph w 0 n (val 0).v l k0 h0 (by omega) ho (by omega)).mono ?_
  rintro e w' ⟨rfl, hg⟩
  refine ⟨_, val, rfl, ?_, ⟨fun m B hB => ?_, fun m B hB g hg => ?_, fun m k B C hne hB hC => ?_⟩, fun m B hB g hg => ?_, fun m hm => rfl, ?_⟩
  · rw [own_as k1] at hg
    exact ⟨hg.os, hg.tape, hg.output, hg.size, fun b hb hp => hg.block b hb fun e => hp ⟨0, _, rfl, by rw [k3, ← e]; simp⟩⟩
  · cases m <;> simp at hB
  · cases m <;> simp at hB
  · cases m <;> simp at hB
  · cases m <;> simp at hB
  · show VRel _ _ _ _ _ _
    simp only [VRel]
end Go.Proofs.Ytbkdmnohpjihgaa.M

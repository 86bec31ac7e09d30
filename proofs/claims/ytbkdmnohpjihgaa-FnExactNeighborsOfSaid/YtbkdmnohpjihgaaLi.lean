/- The helpers of the laws over rows of integers. -/
import Derived.Test.YtbkdmnohpjihgaaMv
namespace Go.Proofs.Ytbkdmnohpjihgaa.M
open Go.RowKit Abs
set_option linter.unusedSimpArgs false
set_option linter.unusedVariables false
set_option maxRecDepth 100000
/-- A row of rows that is handed back: its row alone. -/
theorem Spec2.pick {P : Program} {f : FuncId} {args : List AV} {e e2 : TypeId} {t : Ty} {l : Unit → List (List t.den)} {i : Unit → Int} {b : Unit → Bool} (h : Spec2 P f args [] [.elem 0 i, .bool b] [some (.rows e e2 t l)]) : Spec2 P f args [] [.ref 0, .bool b] [some (.row e2 t fun _ => getR t (l ()) (i ()))] := by
  refine ⟨h.1, by simp, fun w val vs hH hv => (h.2.2 w val vs hH hv).mono fun x w' ⟨v, val', he, hp⟩ => ?_⟩
  obtain ⟨us, hu1, hu2⟩ := hp.res
  match us, hu2 with
  | [u1, u2], hu2 =>
  simp only [VRelL, VRel] at hu2
  obtain ⟨⟨_, hi0, hi1⟩, hb, _⟩ := hu2
  have hbk := hp.heap.blk 0 _ rfl
  obtain ⟨k1, k2, k3, k4⟩ := hbk
  have hhs : (val' 0).hs.length = (l ()).length := by have := k1.1; simpa using this
  have hlt : (i ()).toNat < (l ()).length := by rw [← hhs]; exact (List.getElem?_eq_some_iff.1 hi1).1
  obtain ⟨h', xs, m1, m2, m3⟩ := k2 _ _ (getR_get (i := i ()) hi0 (by omega))
  rw [hi1] at m1
  cases m1
  have inF : ∀ g, ownB u1 = some g → g ∈ (val' 0).F := fun g hg => (k3 g).2 (.inr ⟨u1, List.mem_of_getElem? hi1, hg⟩)
  refine ⟨v, fun _ => ⟨u1, [], (ownB u1).toList⟩, he, hp.fr, ⟨fun n B hB => ?_, fun n B hB g hg => ?_, fun n m B C hne hB hC => ?_⟩, fun n B hB g hg => ?_, fun n hn => by simp at hn, [u1, u2], hu1, ?_⟩
  · cases n with
    | succ n => simp at hB
    | zero =>
      cases hB
      exact ⟨xs, m2, m3, rfl⟩
  · cases n with
    | succ n => simp at hB
    | zero => exact hp.heap.lt 0 _ rfl g (inF g (by simpa using hg))
  · cases n with
    | succ n => simp at hB
    | zero =>
      cases m with
      | succ m => simp at hC
      | zero => exact (hne rfl).elim
  · cases n with
    | succ n => simp at hB
    | zero => exact hp.own 0 _ rfl g (inF g (by simpa using hg))

  · simp only [VRelL, VRel]
    exact ⟨⟨by simp, trivial⟩, hb, trivial⟩
theorem la_eqInts (x y : List Int) (hx : x.length ≤ 1048576) : Spec2 Try.prog 19 [.sl .int fun _ => x, .sl .int fun _ => y] [] [.bool fun _ => decide (x = y)] [] := by
  refine fnS [] [4] Try.func19 rfl (by decide) rfl (by decide) (by kernel_rfl) rfl (by simp [Try.ntmps19]) ?_
  cbv
  ((try simp only [IfP_iff, and_true, true_and, decide_eq_true_eq, decide_eq_false_iff_not]); (repeat' (first | apply And.intro | intro _)))
  · simp only [IfP_iff, EqU_iff, Obl_iff, and_true, true_and, inI_iff, decide_eq_true_eq, decide_eq_false_iff_not]
    grind
  refine loopK (by kernel_rfl) (fun k : Int => 0 ≤ k ∧ k ≤ x.length ∧ x.take k.toNat = y.take k.toNat) (fun k => ⟨mkT 26 [(0, .sl .int fun _ => x), (1, .sl .int fun _ => y), (5, .int fun _ => k)], [], 0⟩) (fun k => (x.length - k).toNat) (· + 1) 0 (by simp) ?_ ?_
  · cbv
    try simp only [IfP_iff, EqU_iff, Obl_iff, and_true, true_and, inI_iff, decide_eq_true_eq, decide_eq_false_iff_not]
  · intro k hk
    have h3 := take_getI (t := .int) (l := x) (i := k)
    have h4 := take_getI (t := .int) (l := y) (i := k)
    have h5 := take_all (l := x) (i := k)
    have h6 := take_all (l := y) (i := k)
    cbv
    ((try simp only [IfP_iff, and_true, true_and, decide_eq_true_eq, decide_eq_false_iff_not]); (repeat' (first | apply And.intro | intro _)))
    all_goals (try simp only [IfP_iff, EqU_iff, Obl_iff, and_true, true_and, inI_iff, decide_eq_true_eq, decide_eq_false_iff_not])
    all_goals ((repeat' (first | apply And.intro | intro _)) <;> first | omega | grind)
def marks (k0 : Int) (n : Nat) : List Int := (List.range n).map fun i : Nat => k0 + (i : Int)
theorem marks_len (k0 : Int) (n : Nat) : (marks k0 n).length = n := by simp [marks]
theorem marks_get {k0 k : Int} {n : Nat} (h0 : 0 ≤ k) (h1 : k < n) : getI .int (marks k0 n) k = k0 + k := by
  have h := getI_get (t := .int) (l := marks k0 n) h0 (by rw [marks_len]; exact h1)
  have h2 : k.toNat < n := by omega
  simp only [marks, List.getElem?_map, List.getElem?_range h2, Option.map_some, Option.some.injEq] at h
  have h3 : getI .int (marks k0 n) k = k0 + ((k.toNat : Nat) : Int) := h.symm
  have h4 : ((k.toNat : Nat) : Int) = k := by omega
  rw [h4] at h3
  exact h3
theorem marks_set {k0 k : Int} {l : List Int} (h0 : 0 ≤ k) (h1 : k < (l.length : Int)) : setI (marks k0 k.toNat ++ l.drop k.toNat) k (k0 + k) = marks k0 (k + 1).toNat ++ l.drop (k + 1).toNat := by
  have e : (k + 1).toNat = k.toNat + 1 := by omega
  have hlt : k.toNat < l.length := by omega
  unfold setI
  rw [List.set_append, if_neg (by rw [marks_len]; omega), marks_len, Nat.sub_self, List.drop_eq_getElem_cons hlt, List.set_cons_zero, e]
  simp only [marks, List.range_succ, List.map_append, List.map_cons, List.map_nil, List.append_assoc, List.cons_append, List.nil_append]
  rw [show ((k.toNat : Nat) : Int) = k by omega]
theorem la_markInts (l : List Int) (k0 : Int) (h0 : 0 ≤ k0) (h1 : k0 ≤ 1000000000) (hl : l.length ≤ 1048576) : Spec2 Try.prog 22 [.ref 0, .int fun _ => k0] [some (.row 3 .int fun _ => l)] [.int fun _ => k0 + l.length] [some (.row 3 .int fun _ => marks k0 l.length)] := by
  refine fnS [0] [4] Try.func22 rfl (by decide) rfl (by decide) (by kernel_rfl) rfl (by simp [Try.ntmps22]) ?_
  cbv
  refine loopK (by kernel_rfl) (fun k : Int => 0 ≤ k ∧ k ≤ l.length) (fun k => ⟨mkT 19 [(0, .ref 0), (1, .int fun _ => k0 + k), (5, .int fun _ => k)], [some (.row 3 .int fun _ => marks k0 k.toNat ++ l.drop k.toNat)], 1⟩) (fun k => (l.length - k).toNat) (· + 1) 0 (by simp) ?_ ?_
  · cbv
    simp only [IfP_iff, EqU_iff, Obl_iff, and_true, true_and, inI_iff, decide_eq_true_eq, decide_eq_false_iff_not]
    simp [marks]
  · intro k hk
    have h2 := marks_set (k0 := k0) (k := k) (l := l)
    have h3 : (marks k0 k.toNat ++ l.drop k.toNat).length = l.length := by rw [List.length_append, marks_len, List.length_drop]; omega
    have h4 : ¬ k < (l.length : Int) → marks k0 k.toNat ++ l.drop k.toNat = marks k0 l.length := fun h => by
      have e : k.toNat = l.length := by omega
      rw [e]; simp
    cbv
    ((try simp only [IfP_iff, and_true, true_and, decide_eq_true_eq, decide_eq_false_iff_not]); (repeat' (first | apply And.intro | intro _)))
    all_goals (try simp only [IfP_iff, EqU_iff, Obl_iff, and_true, true_and, inI_iff, decide_eq_true_eq, decide_eq_false_iff_not])
    all_goals ((repeat' (first | apply And.intro | intro _)) <;> first | omega | grind)
theorem la_heldInts (n : Nat) (k0 : Int) (h0 : 0 ≤ k0) (h1 : k0 ≤ 1000000000) (hl : n ≤ 1048576) : Spec2 Try.prog 23 [.sl .int fun _ => marks k0 n, .int fun _ => k0] [] [.int fun _ => k0 + n] [] := by
  refine fnS [] [4] Try.func23 rfl (by decide) rfl (by decide) (by kernel_rfl) rfl (by simp [Try.ntmps23]) ?_
  cbv
  refine loopK (by kernel_rfl) (fun k : Int => 0 ≤ k ∧ k ≤ n) (fun k => ⟨mkT 21 [(0, .sl .int fun _ => marks k0 n), (1, .int fun _ => k0 + k), (5, .int fun _ => k)], [], 0⟩) (fun k => (n - k).toNat) (· + 1) 0 (by simp) ?_ ?_
  · cbv
    simp only [IfP_iff, EqU_iff, Obl_iff, and_true, true_and, inI_iff, decide_eq_true_eq, decide_eq_false_iff_not]
    simp
  · intro k hk
    have h2 := marks_get (k0 := k0) (k := k) (n := n)
    have h3 := marks_len k0 n
    cbv
    ((try simp only [IfP_iff, and_true, true_and, decide_eq_true_eq, decide_eq_false_iff_not]); (repeat' (first | apply And.intro | intro _)))
    all_goals (try simp only [IfP_iff, EqU_iff, Obl_iff, and_true, true_and, inI_iff, decide_eq_true_eq, decide_eq_false_iff_not])
    all_goals ((repeat' (first | apply And.intro | intro _)) <;> first | omega | grind)
end Go.Proofs.Ytbkdmnohpjihgaa.M

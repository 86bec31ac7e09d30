/- Ns, Ni, Cmp, Nl, Ng, Nm, Li, Lg, Ls, Lt, Lw, in one text. -/
import Derived.Test.YtlfdimhnielleaaQgVPolygonSpace
import Derived.Test.YtlfdimhnielleaaQdVPolygonSpace
/- The spec side of neighbours. -/
namespace Go.Proofs.Ytlfdimhnielleaa.M
open Go.RowKit Abs
set_option linter.unusedSimpArgs false
set_option maxRecDepth 100000
abbrev TP : Ty := .pr .int .int
def hit (a b : Int) (e : Int × Int) : Bool := e.1 == a && e.2 == b || e.1 == b && e.2 == a
def nearB (m : List (Int × Int)) (a b : Int) : Bool := m.any (hit a b)
theorem sp_in (a b c : Int) : Spec2 Try.prog 59 [.int fun _ => a, .int fun _ => b, .int fun _ => c] [] [.bool fun _ => decide (b ≤ a) && decide (a ≤ c)] [] := by
  refine fnS [] [6] Try.func59 rfl (by decide) rfl (by decide) (by kernel_rfl) rfl (by simp [Try.ntmps59]) ?_
  cbv
  simp only [IfP_iff, EqU_iff, Obl_iff, and_true, true_and, inI_iff, decide_eq_true_eq, decide_eq_false_iff_not]
  grind
def nbrs (m : List (Int × Int)) (v : Int) (k : Nat) : List Int := ((List.range k).map Int.ofNat).filter (nearB m v)
def edgeLt (p q : Int × Int) : Bool := decide (p.1 < q.1) || decide (p.1 = q.1) && decide (p.2 < q.2)
/-- The pair at this place is good. -/
def goodI (l : List (Int × Int)) (n k : Int) : Bool := decide (0 ≤ (getI (.pr .int .int) l k).1) && decide ((getI (.pr .int .int) l k).1 < (getI (.pr .int .int) l k).2) && decide ((getI (.pr .int .int) l k).2 < n) && (decide (k ≤ 0) || edgeLt (getI (.pr .int .int) l (k - 1)) (getI (.pr .int .int) l k))
def pairsOk (l : List (Int × Int)) (n : Int) : Bool := (List.range l.length).all fun k => goodI l n k
def graphOk (n : Int) (l : List (Int × Int)) : Bool := decide (0 ≤ n) && decide (n ≤ 8) && pairsOk l n
def okN (n : Int) (l : List (Int × Int)) (v : Int) : Bool := graphOk n l && (decide (0 ≤ v) && decide (v < n))
end Go.Proofs.Ytlfdimhnielleaa.M
/- What the program answers: comparing lists of integers. -/
namespace Go.Proofs.Ytlfdimhnielleaa.M
open Go.RowKit Abs
set_option linter.unusedSimpArgs false
set_option linter.unusedVariables false
set_option maxRecDepth 100000
def cmpI (a b : Int) : Int := if a < b then -1 else if b < a then 1 else 0
def cmpL : List Int → List Int → Int
  | [], [] => 0
  | [], _ :: _ => -1
  | _ :: _, [] => 1
  | a :: x, b :: y => if cmpI a b = 0 then cmpL x y else cmpI a b
end Go.Proofs.Ytlfdimhnielleaa.M
/- Pairs compared: by slices of two arrays. -/
namespace Go.Proofs.Ytlfdimhnielleaa.Abs
open Go.RowKit
set_option linter.unusedVariables false
set_option linter.unusedSimpArgs false
set_option maxHeartbeats 4000000

abbrev TPc : Ty := .pr .int .int
end Go.Proofs.Ytlfdimhnielleaa.Abs
/- What the program answers: the lists of neighbours. -/
namespace Go.Proofs.Ytlfdimhnielleaa.M
open Go.RowKit Abs
set_option linter.unusedSimpArgs false
set_option linter.unusedVariables false
set_option maxRecDepth 100000
/-- The rows of neighbours, after the first edges. -/
def put1 (L : List (List Int)) (e : Int × Int) : List (List Int) := setI (setI L e.1 (getR .int L e.1 ++ [e.2])) e.2 (getR .int (setI L e.1 (getR .int L e.1 ++ [e.2])) e.2 ++ [e.1])
def nearR (m : List (Int × Int)) (n : Int) : List (List Int) := m.foldl put1 (List.replicate n.toNat [])
def rowV (v : Int) (m : List (Int × Int)) : List Int := m.filterMap fun e => if e.2 = v then some e.1 else if e.1 = v then some e.2 else none
end Go.Proofs.Ytlfdimhnielleaa.M
/- What the program answers: Graphs. -/
namespace Go.Proofs.Ytlfdimhnielleaa.M
open Go.RowKit Abs
set_option linter.unusedSimpArgs false
set_option linter.unusedVariables false
set_option maxRecDepth 100000
end Go.Proofs.Ytlfdimhnielleaa.M
/- Neighbours: the two answers are one. -/
namespace Go.Proofs.Ytlfdimhnielleaa.M
open Go.RowKit Abs
set_option linter.unusedSimpArgs false
set_option linter.unusedVariables false
set_option maxRecDepth 100000
end Go.Proofs.Ytlfdimhnielleaa.M
/- The helpers of the laws over rows of integers. -/
namespace Go.Proofs.Ytlfdimhnielleaa.M
open Go.RowKit Abs
set_option linter.unusedSimpArgs false
set_option linter.unusedVariables false
set_option maxRecDepth 100000
/-- A row of rows that is handed back: its row alone. -/
theorem Spec2.pick {P : Program} {f : FuncId} {args : List AV} {e e2 : TypeId} {t : Ty} {l : Unit → List (List t.den)} {i : Unit → Int} {b : Unit → Bool} (h : Spec2 P f args [] [.elem 0 i, .bool b] [some (.rows e e2 t l)]) : Spec2 P f args [] [.ref 0, .bool b] [some (.row e2 t fun _ => getR t (l ()) (i ()))] := by
  refine ⟨h.1, by simp, fun w val vs hH hv => (h.2.2 w val vs hH hv).mono fun x w' ⟨v, val', he, hp⟩ => ?_⟩
  obtain ⟨us, hu1, hu2⟩ := hp.res
  match us, hu2 with
  | [u1, u2], hu2 =>
  simp only [VRelL, VRel] at hu2
  obtain ⟨⟨_, hi0, hi1⟩, hb, _⟩ := hu2
  have hbk := hp.heap.blk 0 _ rfl
  obtain ⟨k1, k2, k3, k4⟩ := hbk
  have hhs : (val' 0).hs.length = (l ()).length := by have := k1.1; simpa using this
  have hlt : (i ()).toNat < (l ()).length := by rw [← hhs]; exact (List.getElem?_eq_some_iff.1 hi1).1
  obtain ⟨h', xs, m1, m2, m3⟩ := k2 _ _ (getR_get (i := i ()) hi0 (by omega))
  rw [hi1] at m1
  cases m1
  have inF : ∀ g, ownB u1 = some g → g ∈ (val' 0).F := fun g hg => (k3 g).2 (.inr ⟨u1, List.mem_of_getElem? hi1, hg⟩)
  refine ⟨v, fun _ => ⟨u1, [], (ownB u1).toList⟩, he, hp.fr, ⟨fun n B hB => ?_, fun n B hB g hg => ?_, fun n m B C hne hB hC => ?_⟩, fun n B hB g hg => ?_, fun n hn => by simp at hn, [u1, u2], hu1, ?_⟩
  · cases n with
    | succ n => simp at hB
    | zero =>
      cases hB
      exact ⟨xs, m2, m3, rfl⟩
  · cases n with
    | succ n => simp at hB
    | zero => exact hp.heap.lt 0 _ rfl g (inF g (by simpa using hg))
  · cases n with
    | succ n => simp at hB
    | zero =>
      cases m with
      | succ m => simp at hC
      | zero => exact (hne rfl).elim
  · cases n with
    | succ n => simp at hB
    | zero => exact hp.own 0 _ rfl g (inF g (by simpa using hg))

  · simp only [VRelL, VRel]
    exact ⟨⟨by simp, trivial⟩, hb, trivial⟩
def marks (k0 : Int) (n : Nat) : List Int := (List.range n).map fun i : Nat => k0 + (i : Int)
theorem marks_len (k0 : Int) (n : Nat) : (marks k0 n).length = n := by simp [marks]
theorem marks_get {k0 k : Int} {n : Nat} (h0 : 0 ≤ k) (h1 : k < n) : getI .int (marks k0 n) k = k0 + k := by
  have h := getI_get (t := .int) (l := marks k0 n) h0 (by rw [marks_len]; exact h1)
  have h2 : k.toNat < n := by omega
  simp only [marks, List.getElem?_map, List.getElem?_range h2, Option.map_some, Option.some.injEq] at h
  have h3 : getI .int (marks k0 n) k = k0 + ((k.toNat : Nat) : Int) := h.symm
  have h4 : ((k.toNat : Nat) : Int) = k := by omega
  rw [h4] at h3
  exact h3
theorem marks_set {k0 k : Int} {l : List Int} (h0 : 0 ≤ k) (h1 : k < (l.length : Int)) : setI (marks k0 k.toNat ++ l.drop k.toNat) k (k0 + k) = marks k0 (k + 1).toNat ++ l.drop (k + 1).toNat := by
  have e : (k + 1).toNat = k.toNat + 1 := by omega
  have hlt : k.toNat < l.length := by omega
  unfold setI
  rw [List.set_append, if_neg (by rw [marks_len]; omega), marks_len, Nat.sub_self, List.drop_eq_getElem_cons hlt, List.set_cons_zero, e]
  simp only [marks, List.range_succ, List.map_append, List.map_cons, List.map_nil, List.append_assoc, List.cons_append, List.nil_append]
  rw [show ((k.toNat : Nat) : Int) = k by omega]
theorem la_markInts (l : List Int) (k0 : Int) (h0 : 0 ≤ k0) (h1 : k0 ≤ 1000000000) (hl : l.length ≤ 1048576) : Spec2 Try.prog 53 [.ref 0, .int fun _ => k0] [some (.row 3 .int fun _ => l)] [.int fun _ => k0 + l.length] [some (.row 3 .int fun _ => marks k0 l.length)] := by
  refine fnS [0] [4] Try.func53 rfl (by decide) rfl (by decide) (by kernel_rfl) rfl (by simp [Try.ntmps53]) ?_
  cbv
  refine loopK (by kernel_rfl) (fun k : Int => 0 ≤ k ∧ k ≤ l.length) (fun k => ⟨mkT 19 [(0, .ref 0), (1, .int fun _ => k0 + k), (5, .int fun _ => k)], [some (.row 3 .int fun _ => marks k0 k.toNat ++ l.drop k.toNat)], 1⟩) (fun k => (l.length - k).toNat) (· + 1) 0 (by simp) ?_ ?_
  · cbv
    simp only [IfP_iff, EqU_iff, Obl_iff, and_true, true_and, inI_iff, decide_eq_true_eq, decide_eq_false_iff_not]
    simp [marks]
  · intro k hk
    have h2 := marks_set (k0 := k0) (k := k) (l := l)
    have h3 : (marks k0 k.toNat ++ l.drop k.toNat).length = l.length := by rw [List.length_append, marks_len, List.length_drop]; omega
    have h4 : ¬ k < (l.length : Int) → marks k0 k.toNat ++ l.drop k.toNat = marks k0 l.length := fun h => by
      have e : k.toNat = l.length := by omega
      rw [e]; simp
    cbv
    ((try simp only [IfP_iff, and_true, true_and, decide_eq_true_eq, decide_eq_false_iff_not]); (repeat' (first | apply And.intro | intro _)))
    all_goals (try simp only [IfP_iff, EqU_iff, Obl_iff, and_true, true_and, inI_iff, decide_eq_true_eq, decide_eq_false_iff_not])
    all_goals ((repeat' (first | apply And.intro | intro _)) <;> first | omega | grind)
theorem la_heldInts (n : Nat) (k0 : Int) (h0 : 0 ≤ k0) (h1 : k0 ≤ 1000000000) (hl : n ≤ 1048576) : Spec2 Try.prog 66 [.sl .int fun _ => marks k0 n, .int fun _ => k0] [] [.int fun _ => k0 + n] [] := by
  refine fnS [] [4] Try.func66 rfl (by decide) rfl (by decide) (by kernel_rfl) rfl (by simp [Try.ntmps66]) ?_
  cbv
  refine loopK (by kernel_rfl) (fun k : Int => 0 ≤ k ∧ k ≤ n) (fun k => ⟨mkT 21 [(0, .sl .int fun _ => marks k0 n), (1, .int fun _ => k0 + k), (5, .int fun _ => k)], [], 0⟩) (fun k => (n - k).toNat) (· + 1) 0 (by simp) ?_ ?_
  · cbv
    simp only [IfP_iff, EqU_iff, Obl_iff, and_true, true_and, inI_iff, decide_eq_true_eq, decide_eq_false_iff_not]
    simp
  · intro k hk
    have h2 := marks_get (k0 := k0) (k := k) (n := n)
    have h3 := marks_len k0 n
    cbv
    ((try simp only [IfP_iff, and_true, true_and, decide_eq_true_eq, decide_eq_false_iff_not]); (repeat' (first | apply And.intro | intro _)))
    all_goals (try simp only [IfP_iff, EqU_iff, Obl_iff, and_true, true_and, inI_iff, decide_eq_true_eq, decide_eq_false_iff_not])
    all_goals ((repeat' (first | apply And.intro | intro _)) <;> first | omega | grind)
end Go.Proofs.Ytlfdimhnielleaa.M
/- The helpers of the laws over Graphs. -/
namespace Go.Proofs.Ytlfdimhnielleaa.M
open Go.RowKit Abs
set_option linter.unusedSimpArgs false
set_option linter.unusedVariables false
set_option maxRecDepth 100000
theorem iBool {b : Bool} (ok : Nat → Prop) (w : World) (val : Nat → Bd) (v : Value) (h : IRel ok w .bool b v) : VRel NoB w 0 val (.bool fun _ => b) v := by
  have h2 : Rep ok w .bool b [v] := h
  unfold Rep at h2
  simp only [VRel]
  simpa using h2
theorem repL_pairs {ok : Nat → Prop} {w : World} {l : List (Int × Int)} : RepL ok w (.pr .int .int) l (flat2 l) :=
  ⟨by rw [flat2_length]; rfl, fun i y hy => by
    unfold Rep
    refine ⟨[.int .i64 y.1], [.int .i64 y.2], ?_, by unfold Rep; rfl, by unfold Rep; rfl⟩
    obtain ⟨h1, h2⟩ := flat2_get l i y hy
    have l1 := List.getElem?_eq_some_iff.1 h1
    have l2 := List.getElem?_eq_some_iff.1 h2
    show ((flat2 l).drop (i * 2)).take 2 = _
    rw [List.drop_eq_getElem_cons l1.1, l1.2, List.drop_eq_getElem_cons l2.1, l2.2]; rfl⟩
theorem pairs_repL {ok : Nat → Prop} {w : World} {l : List (Int × Int)} {xs : List Value} (h : RepL ok w (.pr .int .int) l xs) : xs = flat2 l := by
  obtain ⟨h1, h2⟩ := h
  have h1' : xs.length = l.length * 2 := h1
  have key : ∀ (i : Nat) (y : Int × Int), l[i]? = some y → xs[i * 2]? = some (.int .i64 y.1) ∧ xs[i * 2 + 1]? = some (.int .i64 y.2) := fun i y hy => by
    have hr := h2 i y hy
    unfold Rep at hr
    obtain ⟨c1, c2, e, k1, k2⟩ := hr
    unfold Rep at k1 k2
    subst k1
    subst k2
    have e' : (xs.drop (i * 2)).take 2 = [.int .i64 y.1, .int .i64 y.2] := e
    have e0 : ((xs.drop (i * 2)).take 2)[0]? = some (.int .i64 y.1) := by rw [e']; rfl
    have e1 : ((xs.drop (i * 2)).take 2)[1]? = some (.int .i64 y.2) := by rw [e']; rfl
    rw [List.getElem?_take_of_lt (by omega), List.getElem?_drop] at e0 e1
    exact ⟨by simpa using e0, e1⟩
  apply List.ext_getElem?
  intro j
  by_cases hj : j < l.length * 2
  · have hi : j / 2 < l.length := by omega
    obtain ⟨a1, a2⟩ := key (j / 2) _ (List.getElem?_eq_getElem hi)
    obtain ⟨b1, b2⟩ := flat2_get l (j / 2) _ (List.getElem?_eq_getElem hi)
    rcases Nat.mod_two_eq_zero_or_one j with hm | hm
    · rw [show j = j / 2 * 2 by omega, a1, b1]
    · rw [show j = j / 2 * 2 + 1 by omega, a2, b2]
  · rw [List.getElem?_eq_none (by omega), List.getElem?_eq_none (by rw [flat2_length]; omega)]
end Go.Proofs.Ytlfdimhnielleaa.M
/- The helpers of the laws over rows of rows, and over Spaces. -/
namespace Go.Proofs.Ytlfdimhnielleaa.M
open Go.RowKit Abs
set_option linter.unusedSimpArgs false
set_option linter.unusedVariables false
set_option maxRecDepth 100000
set_option maxHeartbeats 4000000
def totR : List (List Int) → Int
  | [] => 0
  | r :: L => r.length + totR L
theorem totR_nn : ∀ L : List (List Int), 0 ≤ totR L
  | [] => by simp [totR]
  | r :: L => by have := totR_nn L; simp only [totR]; omega
theorem totR_app : ∀ A B : List (List Int), totR (A ++ B) = totR A + totR B
  | [], B => by simp [totR]
  | r :: A, B => by simp only [List.cons_append, totR, totR_app A B]; omega
theorem totR_take (L : List (List Int)) (k : Nat) : totR (L.take k) ≤ totR L := by
  have := totR_app (L.take k) (L.drop k)
  rw [List.take_append_drop] at this
  have := totR_nn (L.drop k)
  omega
def mrk : Int → List (List Int) → List (List Int)
  | _, [] => []
  | k0, r :: L => marks k0 r.length :: mrk (k0 + r.length) L
theorem mrk_len : ∀ (k0 : Int) (L : List (List Int)), (mrk k0 L).length = L.length
  | _, [] => rfl
  | k0, r :: L => by simp [mrk, mrk_len]
theorem mrk_app : ∀ (k0 : Int) (A B : List (List Int)), mrk k0 (A ++ B) = mrk k0 A ++ mrk (k0 + totR A) B
  | k0, [], B => by simp [mrk, totR]
  | k0, r :: A, B => by simp only [List.cons_append, mrk, mrk_app (k0 + r.length) A B, totR, Int.add_assoc]
theorem take_getR {L : List (List Int)} {k : Int} (h0 : 0 ≤ k) (h1 : k < (L.length : Int)) : L.take (k + 1).toNat = L.take k.toNat ++ [getR .int L k] := by
  have h2 : (k + 1).toNat = k.toNat + 1 := by omega
  rw [h2, List.take_add_one, getR_get (t := .int) h0 h1]
  rfl
theorem drop_getR {L : List (List Int)} {k : Int} (h0 : 0 ≤ k) (h1 : k < (L.length : Int)) : L.drop k.toNat = getR .int L k :: L.drop (k + 1).toNat := by
  have h2 : (k + 1).toNat = k.toNat + 1 := by omega
  have hlt : k.toNat < L.length := by omega
  have h := getR_get (t := .int) h0 h1
  have e : L[k.toNat]'hlt = getR .int L k := (List.getElem?_eq_some_iff.1 h).2
  rw [List.drop_eq_getElem_cons hlt, h2]
  exact congrArg (· :: L.drop (k.toNat + 1)) e
theorem totR_next {L : List (List Int)} {k : Int} (h0 : 0 ≤ k) (h1 : k < (L.length : Int)) : totR (L.take (k + 1).toNat) = totR (L.take k.toNat) + ((getR .int L k).length : Int) := by
  rw [take_getR h0 h1, totR_app]; simp [totR]
/-- The rows, the first ones numbered. -/
def half (k0 : Int) (L : List (List Int)) (k : Int) : List (List Int) := mrk k0 (L.take k.toNat) ++ L.drop k.toNat
theorem half_len {k0 : Int} {L : List (List Int)} {k : Int} : (half k0 L k).length = L.length := by
  unfold half; rw [List.length_append, mrk_len, ← List.length_append, List.take_append_drop]
theorem half_get {k0 : Int} {L : List (List Int)} {k : Int} (h0 : 0 ≤ k) (h1 : k < (L.length : Int)) : getR .int (half k0 L k) k = getR .int L k := by
  have e : (half k0 L k)[k.toNat]? = L[k.toNat]? := by
    unfold half
    rw [List.getElem?_append_right (by rw [mrk_len, List.length_take]; omega), mrk_len, List.length_take, Nat.min_eq_left (by omega), Nat.sub_self, List.getElem?_drop]
    simp
  unfold getR
  rw [List.getD_eq_getElem?_getD, List.getD_eq_getElem?_getD, e]
theorem half_set {k0 : Int} {L : List (List Int)} {k : Int} (h0 : 0 ≤ k) (h1 : k < (L.length : Int)) : setI (half k0 L k) k (marks (k0 + totR (L.take k.toNat)) (getR .int L k).length) = half k0 L (k + 1) := by
  have hlt : k.toNat < L.length := by omega
  unfold half setI
  rw [List.set_append, if_neg (by rw [mrk_len, List.length_take]; omega), mrk_len, List.length_take, Nat.min_eq_left (by omega), Nat.sub_self, drop_getR h0 h1, List.set_cons_zero, take_getR h0 h1, mrk_app]
  simp [mrk]
theorem half_end {k0 : Int} {L : List (List Int)} {k : Int} (h : ¬ k < (L.length : Int)) : half k0 L k = mrk k0 L := by
  unfold half; rw [List.take_of_length_le (by omega), List.drop_of_length_le (by omega), List.append_nil]
theorem half_zero {k0 : Int} {L : List (List Int)} : half k0 L 0 = L := by simp [half, mrk]
theorem mrk_get {k0 : Int} {L : List (List Int)} {k : Int} (h0 : 0 ≤ k) (h1 : k < (L.length : Int)) : getI (.sl .int) (mrk k0 L) k = marks (k0 + totR (L.take k.toNat)) (getR .int L k).length := by
  have h2 := half_set (k0 := k0) h0 h1
  have e : (mrk k0 L)[k.toNat]? = some (marks (k0 + totR (L.take k.toNat)) (getR .int L k).length) := by
    have e1 : L = L.take k.toNat ++ (getR .int L k :: L.drop (k + 1).toNat) := by rw [← drop_getR h0 h1, List.take_append_drop]
    have e2 : mrk k0 L = mrk k0 (L.take k.toNat) ++ mrk (k0 + totR (L.take k.toNat)) (getR .int L k :: L.drop (k + 1).toNat) := by
      rw [← mrk_app, ← e1]
    rw [e2, List.getElem?_append_right (by rw [mrk_len, List.length_take]; omega), mrk_len, List.length_take, Nat.min_eq_left (by omega), Nat.sub_self]
    rfl
  unfold getI
  rw [List.getD_eq_getElem?_getD]
  exact (congrArg (fun o : Option (List Int) => o.getD (zden (.sl .int))) e)
theorem half_lt {k0 : Int} {L : List (List Int)} {k : Int} (h : k < ((half k0 L k).length : Int)) : k < (L.length : Int) := by rw [half_len] at h; exact h
theorem la_heldInts2 (l : List Int) (n : Nat) (k0 : Int) (h : l = marks k0 n) (h0 : 0 ≤ k0) (h1 : k0 ≤ 1000000000) (hl : n ≤ 1048576) : Spec2 Try.prog 66 [.sl .int fun _ => l, .int fun _ => k0] [] [.int fun _ => k0 + n] [] := by
  subst h; exact la_heldInts n k0 h0 h1 hl
theorem la_markRows (L : List (List Int)) (k0 : Int) (h0 : 0 ≤ k0) (h1 : k0 + totR L ≤ 1000000000) (hl : L.length ≤ 1048576) (hm : ∀ k : Int, 0 ≤ k → k < L.length → (getR .int L k).length ≤ 1048576) :
    Spec2 Try.prog 36 [.ref 0, .int fun _ => k0] [some (.rows 40 3 .int fun _ => L)] [.int fun _ => k0 + totR L] [some (.rows 40 3 .int fun _ => mrk k0 L)] := by
  refine fnS [0] [4] Try.func36 rfl (by decide) rfl (by decide) (by kernel_rfl) rfl (by simp [Try.ntmps36]) ?_
  cbv
  refine loopK (by kernel_rfl) (fun k : Int => 0 ≤ k ∧ k ≤ L.length) (fun k => ⟨mkT 19 [(0, .ref 0), (1, .int fun _ => k0 + totR (L.take k.toNat)), (5, .int fun _ => k)], [some (.rows 40 3 .int fun _ => half k0 L k)], 1⟩) (fun k => (L.length - k).toNat) (· + 1) 0 (by simp) ?_ ?_
  · cbv
    (simp only [IfP_iff, EqU_iff, Obl_iff, and_true, true_and, inI_iff, decide_eq_true_eq, decide_eq_false_iff_not]; (try simp only [natc, at2_0, at2_1]); (try dsimp only [Ty.den]); try simp only [natc] at *)
    simp [half_zero, totR]
  · intro k hk
    have h2 := half_set (k0 := k0) (L := L) (k := k)
    have h3 := half_len (k0 := k0) (L := L) (k := k)
    have h4 := half_end (k0 := k0) (L := L) (k := k)
    have h5 := totR_next (L := L) (k := k)
    have h6 := totR_take L k.toNat
    have h7 := totR_nn (L.take k.toNat)
    have h8 := take_all (l := L) (i := k)
    have h9 := totR_take L (k + 1).toNat
    cbv
    ((try simp only [IfP_iff, and_true, true_and, decide_eq_true_eq, decide_eq_false_iff_not]); (try simp only [natc, at2_0, at2_1]); (try dsimp only [Ty.den]); (try simp only [natc] at *); (repeat' (first | apply And.intro | intro _)))
    repeat' (first | (refine call_own 0 (Spec2.elem (t := .int) (e := 40) (i := k) (L := half k0 L k) (l := getR .int L k) rfl (by omega) (by assumption) (half_get hk.1 (half_lt (by assumption))) (la_markInts (getR .int L k) (k0 + totR (L.take k.toNat)) (by omega) (by have := half_lt (k0 := k0) (L := L) (k := k) (by assumption); omega) (hm k hk.1 (half_lt (by assumption))))) (by cbv) (by cbv; simp only [or_true, true_or, and_true]) ?_; cbv; ((try simp only [IfP_iff, and_true, true_and, decide_eq_true_eq, decide_eq_false_iff_not]); (try simp only [natc, at2_0, at2_1]); (try dsimp only [Ty.den]); (try simp only [natc] at *); (repeat' (first | apply And.intro | intro _)))))
    all_goals (try (simp only [IfP_iff, EqU_iff, Obl_iff, and_true, true_and, inI_iff, decide_eq_true_eq, decide_eq_false_iff_not]; (try simp only [natc, at2_0, at2_1]); (try dsimp only [Ty.den]); try simp only [natc] at *))
    all_goals ((repeat' (first | apply And.intro | intro _)) <;> first | omega | (simp only [List.length_append, List.length_cons, List.length_nil]; omega) | grind)
theorem la_heldRows (X L : List (List Int)) (k0 : Int) (hx : X = mrk k0 L) (h0 : 0 ≤ k0) (h1 : k0 + totR L ≤ 1000000000) (hl : L.length ≤ 1048576) (hm : ∀ k : Int, 0 ≤ k → k < L.length → (getR .int L k).length ≤ 1048576) :
    Spec2 Try.prog 38 [.sl (.sl .int) fun _ => X, .int fun _ => k0] [] [.int fun _ => k0 + totR L] [] := by
  refine fnS [] [4] Try.func38 rfl (by decide) rfl (by decide) (by kernel_rfl) rfl (by simp [Try.ntmps38]) ?_
  cbv
  have hX : X.length = L.length := by rw [hx, mrk_len]
  have hX2 : ∀ k : Int, k < (X.length : Int) → k < (L.length : Int) := fun k => by omega
  refine loopK (by kernel_rfl) (fun k : Int => 0 ≤ k ∧ k ≤ L.length) (fun k => ⟨mkT 21 [(0, .sl (.sl .int) fun _ => X), (1, .int fun _ => k0 + totR (L.take k.toNat)), (5, .int fun _ => k)], [], 0⟩) (fun k => (L.length - k).toNat) (· + 1) 0 (by simp) ?_ ?_
  · cbv
    (simp only [IfP_iff, EqU_iff, Obl_iff, and_true, true_and, inI_iff, decide_eq_true_eq, decide_eq_false_iff_not]; (try simp only [natc, at2_0, at2_1]); (try dsimp only [Ty.den]); try simp only [natc] at *)
    simp [totR]
  · intro k hk
    have h4 : 0 ≤ k → k < (L.length : Int) → getI (.sl .int) X k = marks (k0 + totR (L.take k.toNat)) (getR .int L k).length := fun a b => by rw [hx]; exact mrk_get a b
    have h5 := totR_next (L := L) (k := k)
    have h6 := totR_take L k.toNat
    have h7 := totR_nn (L.take k.toNat)
    have h8 := take_all (l := L) (i := k)
    have h9 := totR_take L (k + 1).toNat
    cbv
    ((try simp only [IfP_iff, and_true, true_and, decide_eq_true_eq, decide_eq_false_iff_not]); (try simp only [natc, at2_0, at2_1]); (try dsimp only [Ty.den]); (try simp only [natc] at *); (repeat' (first | apply And.intro | intro _)))
    repeat' (first | ((first | refine call_q (la_heldInts2 (getI (.sl .int) X k) (getR .int L k).length (k0 + totR (L.take k.toNat)) (h4 hk.1 (hX2 k (by assumption))) (by omega) (by have := hX2 k (by assumption); omega) (hm k hk.1 (hX2 k (by assumption)))) (by cbv) ?_ | refine call_pure (la_heldInts2 (getI (.sl .int) X k) (getR .int L k).length (k0 + totR (L.take k.toNat)) (h4 hk.1 (hX2 k (by assumption))) (by omega) (by have := hX2 k (by assumption); omega) (hm k hk.1 (hX2 k (by assumption)))) (by cbv) ?_); cbv; ((try simp only [IfP_iff, and_true, true_and, decide_eq_true_eq, decide_eq_false_iff_not]); (try simp only [natc, at2_0, at2_1]); (try dsimp only [Ty.den]); (try simp only [natc] at *); (repeat' (first | apply And.intro | intro _)))))
    all_goals (try (simp only [IfP_iff, EqU_iff, Obl_iff, and_true, true_and, inI_iff, decide_eq_true_eq, decide_eq_false_iff_not]; (try simp only [natc, at2_0, at2_1]); (try dsimp only [Ty.den]); try simp only [natc] at *))
    all_goals ((repeat' (first | apply And.intro | intro _)) <;> first | omega | (simp only [List.length_append, List.length_cons, List.length_nil]; omega) | grind)
/-- Pairs, numbered. -/
def marksP (k0 : Int) (n : Nat) : List (Int × Int) := (List.range n).map fun i : Nat => (k0 + 2 * (i : Int), k0 + 2 * (i : Int) + 1)
theorem marksP_len (k0 : Int) (n : Nat) : (marksP k0 n).length = n := by simp [marksP]
theorem marksP_flat (k0 : Int) (n : Nat) : flat2 (marksP k0 n) = vals (marksI k0 (n * 2)) := by
  induction n with
  | zero => rfl
  | succ n ih =>
    have e1 : marksP k0 (n + 1) = marksP k0 n ++ [(k0 + 2 * (n : Int), k0 + 2 * (n : Int) + 1)] := by simp [marksP, List.range_succ]
    have e2 : marksI k0 ((n + 1) * 2) = marksI k0 (n * 2) ++ [k0 + 2 * (n : Int), k0 + 2 * (n : Int) + 1] := by
      rw [show (n + 1) * 2 = n * 2 + 1 + 1 by omega]
      simp only [marksI, List.range_succ, List.map_append, List.map_cons, List.map_nil, List.append_assoc, List.cons_append, List.nil_append]
      congr 2
      · omega
      · congr 1; omega
    rw [e1, e2]
    have e3 : ∀ (a b : List (Int × Int)), flat2 (a ++ b) = flat2 a ++ flat2 b := fun a b => by simp [flat2]
    have e4 : ∀ (a b : List Int), vals (a ++ b) = vals a ++ vals b := fun a b => by simp [vals]
    rw [e3, e4, ih]
    rfl
theorem la_markPairs (l : List (Int × Int)) (k0 : Int) (h0 : 0 ≤ k0) (h1 : k0 ≤ 1000000000) (hl : l.length ≤ 1048576) : Spec2 Try.prog 37 [.ref 0, .int fun _ => k0] [some (.row 85 (.pr .int .int) fun _ => l)] [.int fun _ => k0 + l.length * 2] [some (.row 85 (.pr .int .int) fun _ => marksP k0 l.length)] := by
  refine ⟨by kernel_rfl, by simp, fun w val vs hH hv => ?_⟩
  match vs, hv with
  | [v, u], hv =>
  simp only [VRelL, VRel, and_true] at hv
  obtain ⟨⟨_, rfl⟩, rfl⟩ := hv
  obtain ⟨xs, k1, k2, k3⟩ := hH.blk 0 _ rfl
  have hxs := pairs_repL k2
  subst hxs
  have ho : OwnPairs 0 (val 0).v l w := k1
  refine (markPairs w 0 (val 0).v l k0 h0 (by omega) ho (by omega)).mono ?_
  rintro e w' ⟨rfl, hm, hg⟩
  refine ⟨_, val, rfl, ?_, ⟨fun m B hB => ?_, fun m B hB g hg' => ?_, fun m k B C hne hB hC => ?_⟩, fun m B hB g hg' => ?_, fun m hm => rfl, ?_⟩
  · rw [own_as k1] at hg
    exact ⟨hg.os, hg.tape, hg.output, hg.size, fun b hb hp => hg.block b hb fun e => hp ⟨0, _, rfl, by rw [k3, ← e]; simp⟩⟩
  · cases m with
    | succ m => simp at hB
    | zero =>
      cases hB
      refine ⟨flat2 (marksP k0 l.length), ?_, repL_pairs, k3⟩
      rw [marksP_flat]
      show w'.ownsRow 0 _ 2 (val 0).v (marksP k0 l.length).length _
      rw [marksP_len]
      exact hm
  · cases m with
    | succ m => simp at hB
    | zero => exact Nat.lt_of_lt_of_le (hH.lt 0 _ rfl g hg') hg.size
  · cases m with
    | succ m => simp at hB
    | zero => cases k with
      | succ k => simp at hC
      | zero => exact (hne rfl).elim
  · cases m with
    | succ m => simp at hB
    | zero => exact .inr ⟨0, _, rfl, hg'⟩
  · show VRel _ _ _ _ _ _
    simp only [VRel]
theorem la_eqSpace (L : List (List Int)) (l : List (Int × Int)) : Spec2 Try.prog 9 [.agg (.pr (.sl (.sl .int)) (.sl (.pr .int .int))) fun _ => (L, l), .agg (.pr (.sl (.sl .int)) (.sl (.pr .int .int))) fun _ => (L, l)] [] [.bool fun _ => true] [] :=
  toSpec2 (Abs.law_eqSpace (L, l)) rfl fun ok w val v h => iBool ok w val v h
end Go.Proofs.Ytlfdimhnielleaa.M
/- A Space is copied; its numbers are changed. -/
namespace Go.Proofs.Ytlfdimhnielleaa.M
open Go.RowKit Abs
set_option linter.unusedSimpArgs false
set_option linter.unusedVariables false
set_option maxRecDepth 100000
set_option maxHeartbeats 4000000
theorem la_markSpace (L : List (List Int)) (l : List (Int × Int)) (k0 : Int) (h0 : 0 ≤ k0) (h1 : k0 + totR L ≤ 1000000000) (hL : L.length ≤ 1048576) (hm : ∀ k : Int, 0 ≤ k → k < L.length → (getR .int L k).length ≤ 1048576) (hl : l.length ≤ 1048576) :
    Spec2 Try.prog 10 [.cells [.ref 0, .ref 1], .int fun _ => k0] [some (.rows 40 3 .int fun _ => L), some (.row 85 (.pr .int .int) fun _ => l)] [.int fun _ => k0 + totR L + l.length * 2] [some (.rows 40 3 .int fun _ => mrk k0 L), some (.row 85 (.pr .int .int) fun _ => marksP (k0 + totR L) l.length)] := by
  have ht := totR_nn L
  refine fnS [0, 1] [4] Try.func10 rfl (by decide) rfl (by decide) (by kernel_rfl) rfl (by simp [Try.ntmps10]) ?_
  cbv
  (refine call_own 0 (la_markRows L k0 h0 h1 hL hm) (by cbv) (by cbv; simp only [or_true, true_or, and_true]) ?_; cbv; ((try simp only [IfP_iff, and_true, true_and, decide_eq_true_eq, decide_eq_false_iff_not]); (try simp only [natc, at2_0, at2_1]); (try dsimp only [Ty.den]); (try simp only [natc] at *); (repeat' (first | apply And.intro | intro _))))
  (refine call_own 1 (la_markPairs l (k0 + totR L) (by omega) h1 hl) (by cbv) (by cbv; simp only [or_true, true_or, and_true]) ?_; cbv; ((try simp only [IfP_iff, and_true, true_and, decide_eq_true_eq, decide_eq_false_iff_not]); (try simp only [natc, at2_0, at2_1]); (try dsimp only [Ty.den]); (try simp only [natc] at *); (repeat' (first | apply And.intro | intro _))))
  all_goals (try (simp only [IfP_iff, EqU_iff, Obl_iff, and_true, true_and, inI_iff, decide_eq_true_eq, decide_eq_false_iff_not]; (try simp only [natc, at2_0, at2_1]); (try dsimp only [Ty.den]); try simp only [natc] at *))
end Go.Proofs.Ytlfdimhnielleaa.M
/- What the laws' walks need besides. -/
namespace Go.Proofs.Ytlfdimhnielleaa.M
open Go.RowKit Abs
set_option linter.unusedSimpArgs false
set_option linter.unusedVariables false
set_option maxRecDepth 100000
set_option maxHeartbeats 4000000
theorem getR_mem {L : List (List Int)} {k : Int} (h0 : 0 ≤ k) (h1 : k < (L.length : Int)) : getR .int L k ∈ L := List.mem_of_getElem? (getR_get (t := .int) h0 h1)
end Go.Proofs.Ytlfdimhnielleaa.M

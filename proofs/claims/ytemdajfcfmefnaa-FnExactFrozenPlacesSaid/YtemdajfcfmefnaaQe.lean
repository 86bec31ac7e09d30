/- Ns, Ni, Cmp, Nl, Ng, Nm, Li, Lg, Ls, Lt, Lw, in one text. -/
import Derived.Test.YtemdajfcfmefnaaQg
import Derived.Test.YtemdajfcfmefnaaQd
/- The spec side of neighbours. -/
namespace Go.Proofs.Ytemdajfcfmefnaa.M
open Go.RowKit Abs
set_option linter.unusedSimpArgs false
set_option maxRecDepth 100000
abbrev TP : Ty := .pr .int .int
def hit (a b : Int) (e : Int × Int) : Bool := e.1 == a && e.2 == b || e.1 == b && e.2 == a
def nearB (m : List (Int × Int)) (a b : Int) : Bool := m.any (hit a b)
theorem near_hit {m : List (Int × Int)} {a b k : Int} (h0 : 0 ≤ k) (h1 : k < (m.length : Int)) (h : hit a b (getI TP m k) = true) : nearB m a b = true :=
  List.any_eq_true.2 ⟨_, List.mem_of_getElem? (getI_get (t := TP) h0 h1), h⟩
theorem near_next {m : List (Int × Int)} {a b k : Int} (h0 : 0 ≤ k) (h1 : k < (m.length : Int)) : nearB (m.take (k + 1).toNat) a b = (nearB (m.take k.toNat) a b || hit a b (getI TP m k)) := by
  unfold nearB
  rw [take_getI (t := TP) h0 h1, List.any_append]
  simp
theorem sp_in (a b c : Int) : Spec2 Try.prog 49 [.int fun _ => a, .int fun _ => b, .int fun _ => c] [] [.bool fun _ => decide (b ≤ a) && decide (a ≤ c)] [] := by
  refine fnS [] [6] Try.func49 rfl (by decide) rfl (by decide) (by kernel_rfl) rfl (by simp [Try.ntmps49]) ?_
  cbv
  simp only [IfP_iff, EqU_iff, Obl_iff, and_true, true_and, inI_iff, decide_eq_true_eq, decide_eq_false_iff_not]
  grind
theorem sp_near (n : Int) (l : List (Int × Int)) (a b : Int) (hl : l.length ≤ 1048576) : Spec2 Try.prog 81 [.agg (.pr .int (.sl (.pr .int .int))) fun _ => (n, l), .int fun _ => a, .int fun _ => b] [] [.bool fun _ => nearB l a b] [] := by
  refine fnS [] [6] Try.func81 rfl (by decide) rfl (by decide) (by kernel_rfl) rfl (by simp [Try.ntmps81]) ?_
  cbv
  refine loopK (by kernel_rfl) (fun k : Int => 0 ≤ k ∧ k ≤ l.length ∧ nearB (l.take k.toNat) a b = false) (fun k => ⟨mkT 43 [(1, .int fun _ => a), (2, .int fun _ => b), (3, .ptr 0 0), (7, .int fun _ => k)], [some (.box 29 [.int fun _ => n, .sl (.pr .int .int) fun _ => l])], 0⟩) (fun k => (l.length - k).toNat) (· + 1) 0 (by simp [nearB]) ?_ ?_
  · cbv
    simp only [IfP_iff, EqU_iff, Obl_iff, and_true, true_and, inI_iff, decide_eq_true_eq, decide_eq_false_iff_not]
  · intro k hk
    cbv
    simp only [IfP_iff, EqU_iff, Obl_iff, and_true, true_and, inI_iff, decide_eq_true_eq, decide_eq_false_iff_not]
    have h1 := near_hit (m := l) (a := a) (b := b) (k := k)
    have h2 := near_next (m := l) (a := a) (b := b) (k := k)
    have h3 := take_all (l := l) (i := k)
    simp only [hit] at h1 h2
    (repeat' (first | apply And.intro | intro _)) <;> first | omega | grind
def nbrs (m : List (Int × Int)) (v : Int) (k : Nat) : List Int := ((List.range k).map Int.ofNat).filter (nearB m v)
theorem nbrs_next {m : List (Int × Int)} {v k : Int} (h0 : 0 ≤ k) : nbrs m v (k + 1).toNat = nbrs m v k.toNat ++ if nearB m v k = true then [k] else [] := by
  have h2 : (k + 1).toNat = k.toNat + 1 := by omega
  have h3 : Int.ofNat k.toNat = k := by simp; omega
  unfold nbrs
  rw [h2, List.range_succ, List.map_append, List.filter_append, List.map_cons, List.map_nil, h3]
  simp [List.filter]
  split <;> simp_all
theorem nbrs_len {m : List (Int × Int)} {v k : Int} (h0 : 0 ≤ k) : ((nbrs m v k.toNat).length : Int) ≤ k := by
  have := List.length_filter_le (nearB m v) ((List.range k.toNat).map Int.ofNat)
  simp only [List.length_map, List.length_range] at this
  unfold nbrs
  omega
theorem sp_neighbors (n : Int) (l : List (Int × Int)) (v : Int) (hn : n ≤ 1048576) (hl : l.length ≤ 1048576) : Spec2 Try.prog 50 [.agg (.pr .int (.sl (.pr .int .int))) fun _ => (n, l), .int fun _ => v] [] [.ref 0] [some (.row 3 .int fun _ => nbrs l v n.toNat)] := by
  refine fnS [1] [4] Try.func50 rfl (by decide) rfl (by decide) (by kernel_rfl) rfl (by simp [Try.ntmps50]) ?_
  cbv
  refine loopK (by kernel_rfl) (fun k : Int => 0 ≤ k ∧ (k ≤ n ∨ k = 0)) (fun k => ⟨mkT 23 [(1, .int fun _ => v), (2, .ptr 0 0), (5, .ref 1), (6, .int fun _ => k)], [some (.box 29 [.int fun _ => n, .sl (.pr .int .int) fun _ => l]), some (.row 3 .int fun _ => nbrs l v k.toNat)], 0⟩) (fun k => (n - k).toNat) (· + 1) 0 (by simp) ?_ ?_
  · cbv
    simp only [IfP_iff, EqU_iff, Obl_iff, and_true, true_and, inI_iff, decide_eq_true_eq, decide_eq_false_iff_not]
    simp [nbrs]
  · intro k hk
    cbv
    have h2 := nbrs_next (m := l) (v := v) (k := k)
    have h3 := nbrs_len (m := l) (v := v) (k := k)
    ((try simp only [IfP_iff, and_true, true_and, decide_eq_true_eq, decide_eq_false_iff_not]); (repeat' (first | apply And.intro | intro _)))
    · refine call_pure (sp_near n l v k hl) (by cbv) ?_
      cbv
      ((try simp only [IfP_iff, EqU_iff, Obl_iff, and_true, true_and, inI_iff, decide_eq_true_eq, decide_eq_false_iff_not]); (repeat' (first | apply And.intro | intro _)) <;> first | omega | grind)
    · simp only [IfP_iff, EqU_iff, Obl_iff, and_true, true_and, inI_iff, decide_eq_true_eq, decide_eq_false_iff_not]
      grind
def edgeLt (p q : Int × Int) : Bool := decide (p.1 < q.1) || decide (p.1 = q.1) && decide (p.2 < q.2)
theorem sp_edge (p q : Int × Int) : Spec2 Try.prog 94 [.agg (.pr .int .int) fun _ => p, .agg (.pr .int .int) fun _ => q] [] [.bool fun _ => edgeLt p q] [] := by
  refine fnS [] [4] Try.func94 rfl (by decide) rfl (by decide) (by kernel_rfl) rfl (by simp [Try.ntmps94]) ?_
  cbv
  simp only [IfP_iff, EqU_iff, Obl_iff, and_true, true_and, inI_iff, decide_eq_true_eq, decide_eq_false_iff_not]
  unfold edgeLt
  ((try simp only [IfP_iff, EqU_iff, Obl_iff, and_true, true_and, inI_iff, decide_eq_true_eq, decide_eq_false_iff_not]); (repeat' (first | apply And.intro | intro _)) <;> first | omega | grind)
/-- The pair at this place is good. -/
def goodI (l : List (Int × Int)) (n k : Int) : Bool := decide (0 ≤ (getI (.pr .int .int) l k).1) && decide ((getI (.pr .int .int) l k).1 < (getI (.pr .int .int) l k).2) && decide ((getI (.pr .int .int) l k).2 < n) && (decide (k ≤ 0) || edgeLt (getI (.pr .int .int) l (k - 1)) (getI (.pr .int .int) l k))
def pairsOk (l : List (Int × Int)) (n : Int) : Bool := (List.range l.length).all fun k => goodI l n k
theorem pairs_bad {l : List (Int × Int)} {n k : Int} (h0 : 0 ≤ k) (h1 : k < (l.length : Int)) (h : goodI l n k = false) : pairsOk l n = false := by
  unfold pairsOk
  rw [List.all_eq_false]
  exact ⟨k.toNat, by simp; omega, by rw [show ((k.toNat : Nat) : Int) = k by omega, h]; simp⟩
theorem pairs_good {l : List (Int × Int)} {n : Int} (h : ∀ k : Int, 0 ≤ k → k < (l.length : Int) → goodI l n k = true) : pairsOk l n = true := by
  unfold pairsOk
  rw [List.all_eq_true]
  intro k hk
  exact h k (by omega) (by simp at hk; omega)
theorem sp_pairs (l : List (Int × Int)) (n : Int) (h0 : -1000000000 ≤ n) (h1 : n ≤ 1000000000) (hl : l.length ≤ 1048576) : Spec2 Try.prog 80 [.sl (.pr .int .int) fun _ => l, .int fun _ => n] [] [.bool fun _ => pairsOk l n] [] := by
  refine fnS [] [4] Try.func80 rfl (by decide) rfl (by decide) (by kernel_rfl) rfl (by simp [Try.ntmps80]) ?_
  cbv
  refine loopK (by kernel_rfl) (fun k : Int => 0 ≤ k ∧ k ≤ l.length ∧ ∀ j : Int, 0 ≤ j → j < k → goodI l n j = true) (fun k => ⟨mkT 52 [(0, .sl (.pr .int .int) fun _ => l), (1, .int fun _ => n), (5, .int fun _ => k)], [], 0⟩) (fun k => (l.length - k).toNat) (· + 1) 0 (by grind) ?_ ?_
  · cbv
    try simp only [IfP_iff, EqU_iff, Obl_iff, and_true, true_and, inI_iff, decide_eq_true_eq, decide_eq_false_iff_not]
  · intro k hk
    have h2 := pairs_bad (l := l) (n := n) (k := k)
    have h3 := pairs_good (l := l) (n := n)
    have h4 : goodI l n k = true → ∀ j : Int, 0 ≤ j → j < k + 1 → goodI l n j = true := fun h j h1 h2 => by
      by_cases hj : j = k
      · rw [hj]; exact h
      · exact hk.2.2 j h1 (by omega)
    have h5 : goodI l n k = _ := rfl
    conv at h5 => rhs; unfold goodI
    cbv
    ((try simp only [IfP_iff, and_true, true_and, decide_eq_true_eq, decide_eq_false_iff_not]); (repeat' (first | apply And.intro | intro _)))
    repeat' (first | ((first | refine call_q (sp_in _ _ _) (by cbv) ?_ | refine call_pure (sp_in _ _ _) (by cbv) ?_); cbv; ((try simp only [IfP_iff, and_true, true_and, decide_eq_true_eq, decide_eq_false_iff_not]); (repeat' (first | apply And.intro | intro _)))) | ((first | refine call_q (sp_edge _ _) (by cbv) ?_ | refine call_pure (sp_edge _ _) (by cbv) ?_); cbv; ((try simp only [IfP_iff, and_true, true_and, decide_eq_true_eq, decide_eq_false_iff_not]); (repeat' (first | apply And.intro | intro _)))))
    all_goals (try simp only [IfP_iff, EqU_iff, Obl_iff, and_true, true_and, inI_iff, decide_eq_true_eq, decide_eq_false_iff_not])
    all_goals ((repeat' (first | apply And.intro | intro _)) <;> first | omega | grind)
def graphOk (n : Int) (l : List (Int × Int)) : Bool := decide (0 ≤ n) && decide (n ≤ 8) && pairsOk l n
theorem sp_good (n : Int) (l : List (Int × Int)) (hl : l.length ≤ 1048576) : Spec2 Try.prog 48 [.agg (.pr .int (.sl (.pr .int .int))) fun _ => (n, l)] [] [.bool fun _ => graphOk n l] [] := by
  refine fnS [] [2] Try.func48 rfl (by decide) rfl (by decide) (by kernel_rfl) rfl (by simp [Try.ntmps48]) ?_
  cbv
  ((try simp only [IfP_iff, and_true, true_and, decide_eq_true_eq, decide_eq_false_iff_not]); (repeat' (first | apply And.intro | intro _)))
  ((first | refine call_q (sp_in _ _ _) (by cbv) ?_ | refine call_pure (sp_in _ _ _) (by cbv) ?_); cbv; ((try simp only [IfP_iff, and_true, true_and, decide_eq_true_eq, decide_eq_false_iff_not]); (repeat' (first | apply And.intro | intro _))))
  · rename_i h
    simp only [Bool.and_eq_true, decide_eq_true_eq] at h
    ((first | refine call_q (sp_pairs _ _ (by omega) (by omega) hl) (by cbv) ?_ | refine call_pure (sp_pairs _ _ (by omega) (by omega) hl) (by cbv) ?_); cbv; ((try simp only [IfP_iff, and_true, true_and, decide_eq_true_eq, decide_eq_false_iff_not]); (repeat' (first | apply And.intro | intro _))))
    simp only [IfP_iff, EqU_iff, Obl_iff, and_true, true_and, inI_iff, decide_eq_true_eq, decide_eq_false_iff_not]
    simp [graphOk, h]
  · simp only [IfP_iff, EqU_iff, Obl_iff, and_true, true_and, inI_iff, decide_eq_true_eq, decide_eq_false_iff_not]
    rename_i h
    simp only [graphOk, h]
    rfl
def okN (n : Int) (l : List (Int × Int)) (v : Int) : Bool := graphOk n l && (decide (0 ≤ v) && decide (v < n))
theorem sp_nbrsOf (n : Int) (l : List (Int × Int)) (v : Int) (hl : l.length ≤ 1048576) : Spec2 Try.prog 14 [.agg (.pr .int (.sl (.pr .int .int))) fun _ => (n, l), .int fun _ => v] [] [.ref 0, .bool fun _ => okN n l v] [some (.row 3 .int fun _ => if okN n l v = true then nbrs l v n.toNat else [])] := by
  refine fnS [1] [4, 5] Try.func14 rfl (by decide) rfl (by decide) (by kernel_rfl) rfl (by simp [Try.ntmps14]) ?_
  cbv
  ((try simp only [IfP_iff, and_true, true_and, decide_eq_true_eq, decide_eq_false_iff_not]); (repeat' (first | apply And.intro | intro _)))
  have h1 : graphOk n l = true → 0 ≤ n ∧ n ≤ 8 := by simp [graphOk]; omega
  have h2 : okN n l v = (graphOk n l && (decide (0 ≤ v) && decide (v < n))) := rfl
  repeat' (first | ((first | refine call_q (sp_good _ _ hl) (by cbv) ?_ | refine call_pure (sp_good _ _ hl) (by cbv) ?_); cbv; ((try simp only [IfP_iff, and_true, true_and, decide_eq_true_eq, decide_eq_false_iff_not]); (repeat' (first | apply And.intro | intro _)))) | ((first | refine call_q (sp_in _ _ _) (by cbv) ?_ | refine call_pure (sp_in _ _ _) (by cbv) ?_); cbv; ((try simp only [IfP_iff, and_true, true_and, decide_eq_true_eq, decide_eq_false_iff_not]); (repeat' (first | apply And.intro | intro _)))) | ((first | refine call_q (sp_neighbors _ _ _ (by grind) hl) (by cbv) ?_ | refine call_pure (sp_neighbors _ _ _ (by grind) hl) (by cbv) ?_); cbv; ((try simp only [IfP_iff, and_true, true_and, decide_eq_true_eq, decide_eq_false_iff_not]); (repeat' (first | apply And.intro | intro _)))))
  all_goals (try simp only [IfP_iff, EqU_iff, Obl_iff, and_true, true_and, inI_iff, decide_eq_true_eq, decide_eq_false_iff_not])
  all_goals ((repeat' (first | apply And.intro | intro _)) <;> first | omega | grind)
end Go.Proofs.Ytemdajfcfmefnaa.M
/- What the program answers: comparing lists of integers. -/
namespace Go.Proofs.Ytemdajfcfmefnaa.M
open Go.RowKit Abs
set_option linter.unusedSimpArgs false
set_option linter.unusedVariables false
set_option maxRecDepth 100000
def cmpI (a b : Int) : Int := if a < b then -1 else if b < a then 1 else 0
def cmpL : List Int → List Int → Int
  | [], [] => 0
  | [], _ :: _ => -1
  | _ :: _, [] => 1
  | a :: x, b :: y => if cmpI a b = 0 then cmpL x y else cmpI a b
theorem go_isNaN (a : Int) : Spec2 Try.prog 120 [.int fun _ => a] [] [.bool fun _ => false] [] := by
  refine fnS [] [2] Try.func120 rfl (by decide) rfl (by decide) (by kernel_rfl) rfl (by simp [Try.ntmps120]) ?_
  cbv
  simp only [IfP_iff, EqU_iff, Obl_iff, and_true, true_and, inI_iff, decide_eq_true_eq, decide_eq_false_iff_not]
  simp
theorem go_cmp (a b : Int) : Spec2 Try.prog 106 [.int fun _ => a, .int fun _ => b] [] [.int fun _ => cmpI a b] [] := by
  refine fnS [] [4] Try.func106 rfl (by decide) rfl (by decide) (by kernel_rfl) rfl (by simp [Try.ntmps106]) ?_
  cbv
  repeat' (((first | refine call_q (go_isNaN _) (by cbv) ?_ | refine call_pure (go_isNaN _) (by cbv) ?_); cbv; ((try simp only [IfP_iff, and_true, true_and, decide_eq_true_eq, decide_eq_false_iff_not]); (repeat' (first | apply And.intro | intro _)))))
  all_goals (try simp only [IfP_iff, EqU_iff, Obl_iff, and_true, true_and, inI_iff, decide_eq_true_eq, decide_eq_false_iff_not])
  all_goals (unfold cmpI)
  all_goals ((repeat' (first | apply And.intro | intro _)) <;> first | omega | grind)
theorem cmpL_take {x y : List Int} {k : Nat} (h : x.take k = y.take k) (hx : k ≤ x.length) (hy : k ≤ y.length) : cmpL x y = cmpL (x.drop k) (y.drop k) := by
  induction k generalizing x y with
  | zero => simp
  | succ k ih =>
    cases x with
    | nil => simp at hx
    | cons a x =>
      cases y with
      | nil => simp at hy
      | cons b y =>
        simp only [List.take_succ_cons, List.cons.injEq] at h
        simp only [List.length_cons] at hx hy
        simp only [cmpL, List.drop_succ_cons]
        rw [ih h.2 (by omega) (by omega), h.1]
        simp [cmpI]
theorem cmp_at {x y : List Int} {k : Int} (h0 : 0 ≤ k) (h1 : k < (x.length : Int)) (h2 : k < (y.length : Int)) (h : x.take k.toNat = y.take k.toNat) : cmpL x y = if cmpI (getI .int x k) (getI .int y k) = 0 then cmpL (x.drop (k + 1).toNat) (y.drop (k + 1).toNat) else cmpI (getI .int x k) (getI .int y k) := by
  have e : (k + 1).toNat = k.toNat + 1 := by omega
  have hx := getI_get (t := .int) h0 h1
  have hy := getI_get (t := .int) h0 h2
  obtain ⟨hx1, hx2⟩ := List.getElem?_eq_some_iff.1 hx
  obtain ⟨hy1, hy2⟩ := List.getElem?_eq_some_iff.1 hy
  rw [cmpL_take h (by omega) (by omega), List.drop_eq_getElem_cons hx1, List.drop_eq_getElem_cons hy1, hx2, hy2, e]
  rfl
theorem cmp_same {a b : Int} : cmpI a b = 0 ↔ a = b := by unfold cmpI; grind
theorem go_compare (x y : List Int) (hx : x.length ≤ 1048576) (hy : y.length ≤ 1048576) : Spec2 Try.prog 99 [.sl .int fun _ => x, .sl .int fun _ => y] [] [.int fun _ => cmpL x y] [] := by
  refine fnS [] [4] Try.func99 rfl (by decide) rfl (by decide) (by kernel_rfl) rfl (by simp [Try.ntmps99]) ?_
  cbv
  refine loopK (by kernel_rfl) (fun k : Int => 0 ≤ k ∧ k ≤ x.length ∧ (k ≤ y.length) ∧ x.take k.toNat = y.take k.toNat) (fun k => ⟨mkT 36 [(0, .sl .int fun _ => x), (1, .sl .int fun _ => y), (9, .sl .int fun _ => x), (10, .int fun _ => (x.length : Int)), (11, .int fun _ => k)], [], 0⟩) (fun k => (x.length - k).toNat) (· + 1) 0 (by simp) ?_ ?_
  · cbv
    try simp only [IfP_iff, EqU_iff, Obl_iff, and_true, true_and, inI_iff, decide_eq_true_eq, decide_eq_false_iff_not]
  · intro k hk
    have h1 := cmp_at (x := x) (y := y) (k := k)
    have h2 := cmpL_take (x := x) (y := y) (k := k.toNat)
    have h3 := take_getI (t := .int) (l := x) (i := k)
    have h4 := take_getI (t := .int) (l := y) (i := k)
    have h5 := @cmp_same (getI .int x k) (getI .int y k)
    have h6 : ∀ (l : List Int), cmpL [] l = if l.length = 0 then 0 else -1 := fun l => by cases l <;> simp [cmpL]
    have h7 : ∀ (l : List Int), cmpL l [] = if l.length = 0 then 0 else 1 := fun l => by cases l <;> simp [cmpL]
    have h8 : ∀ (l : List Int) (i : Nat), l.length ≤ i → l.drop i = [] := fun l i h => List.drop_eq_nil_of_le h
    have h9 : ∀ (l : List Int) (i : Nat), (l.drop i).length = l.length - i := fun l i => List.length_drop
    cbv
    ((try simp only [IfP_iff, and_true, true_and, decide_eq_true_eq, decide_eq_false_iff_not]); (repeat' (first | apply And.intro | intro _)))
    repeat' (((first | refine call_q (go_cmp _ _) (by cbv) ?_ | refine call_pure (go_cmp _ _) (by cbv) ?_); cbv; ((try simp only [IfP_iff, and_true, true_and, decide_eq_true_eq, decide_eq_false_iff_not]); (repeat' (first | apply And.intro | intro _)))))
    all_goals (try simp only [IfP_iff, EqU_iff, Obl_iff, and_true, true_and, inI_iff, decide_eq_true_eq, decide_eq_false_iff_not])
    all_goals ((repeat' (first | apply And.intro | intro _)) <;> first | omega | grind)
end Go.Proofs.Ytemdajfcfmefnaa.M
/- Pairs compared: by slices of two arrays. -/
namespace Go.Proofs.Ytemdajfcfmefnaa.Abs
open Go.RowKit
set_option linter.unusedVariables false
set_option linter.unusedSimpArgs false
set_option maxHeartbeats 4000000

abbrev TPc : Ty := .pr .int .int
theorem cmp2 (x y u v : Int) : Spec Try.prog 99 [.sl .int [x, y], .sl .int [u, v]] [.im .int (M.cmpL [x, y] [u, v])] :=
  M.toSpec (M.go_compare [x, y] [u, v] (by simp) (by simp)) M.rInt
theorem impl_cmpPairs (p q : Int × Int) : Spec Try.prog 96 [.agg TPc p, .agg TPc q] [.im .int (M.cmpL [p.1, p.2] [q.1, q.2])] := by
  obtain ⟨x, y⟩ := p
  obtain ⟨u, v⟩ := q
  (refine W.fn1 Try.func96 rfl (by decide) (by simp [Try.ntmps96]) rfl ?_; simp only [Try.ntmps96, List.length_cons, List.length_nil, Nat.zero_add, Nat.reduceAdd, Nat.reduceSub, List.replicate_succ, List.replicate_zero, List.cons_append, List.nil_append])
  repeat (first | (refine W.seq (fun Kc hKc => ?_)) | ((first | (refine W.region ?_; (repeat ((first | refine aseq_u rfl (fun K hK => ?_) | refine aseq_t rfl rfl rfl rfl (fun K hK => ?_) | refine aseq_f rfl rfl rfl rfl (fun K hK => ?_) | refine aseq_n rfl rfl rfl (fun K hK => ?_)); simp (disch := omega) only [wrap_id, AS.ev, AS.put, AS.new, sstep, qval, qbuiltin, binV, lenAV, optI, cv, inj, RA.av, cellsOfAV, cellsAV, unInj, pack, partVals, appStep, srcOf, splice, comp, capAV, argsOk, argOf, resAV, Res.av, Res.ra, Ty.n, zden, Ty.isPr, Option.map_none, Option.map_some, Option.some.injEq, List.getD_cons_zero, List.getD_cons_succ, List.getElem?_cons_zero, List.getElem?_cons_succ, List.set_cons_zero, List.set_cons_succ, List.length_cons, List.length_nil, List.map_cons, List.map_nil, List.nil_append, List.cons_append, Prod.mk.injEq, Int.cast_ofNat_Int, Int.natCast_zero, Int.natCast_one, and_assoc, exists_eq_left, exists_eq_left', exists_eq_right, exists_eq_right', exists_eq, exists_eq', exists_and_left, exists_and_right, exists_const, and_true, true_and, and_self, ite_true, ite_false, if_true, if_false, decide_true, decide_false, Bool.not_true, Bool.not_false, ne_eq, not_true, not_false_eq_true, Nat.zero_add, Nat.add_zero, Nat.reduceAdd, Nat.reduceMul, Nat.reduceSub, Nat.reduceLT, Nat.reduceLeDiff, Nat.reduceEqDiff, reduceIte, reduceCtorEq, Int.toNat_natCast, Int.toNat_zero, Int.toNat_one, Int.natCast_nonneg, Int.reduceToNat, Int.reduceAdd, Int.reduceSub, Int.reduceMul, Int.reduceLT, Int.reduceLE, Int.reduceNeg, Int.reduceEq, Int.reduceNe, ge_iff_le, gt_iff_lt, or_true, true_or, or_false, false_or, Nat.succ_ne_self, List.drop_zero, List.drop_succ_cons, List.take_succ_cons, List.take_zero, List.take_nil, dite_true, dite_false, tabs]; refine hK _ ?_; clear hK K)); refine aseq_end ?_) | (refine W.any mixed (by kernel_rfl) ?_; (repeat ((first | refine aqui_u rfl (fun K hK => qstep_val ?_) | refine aqui_t rfl rfl rfl rfl (fun K hK => qstep_val ?_) | refine aqui_f rfl rfl rfl rfl (fun K hK => ?_) | refine aqui_n rfl rfl rfl (fun K hK => ?_)); simp (disch := omega) only [wrap_id, AS.ev, AS.put, AS.new, sstep, qval, qbuiltin, binV, lenAV, optI, cv, inj, RA.av, cellsOfAV, cellsAV, unInj, pack, partVals, appStep, srcOf, splice, comp, capAV, argsOk, argOf, resAV, Res.av, Res.ra, Ty.n, zden, Ty.isPr, Option.map_none, Option.map_some, Option.some.injEq, List.getD_cons_zero, List.getD_cons_succ, List.getElem?_cons_zero, List.getElem?_cons_succ, List.set_cons_zero, List.set_cons_succ, List.length_cons, List.length_nil, List.map_cons, List.map_nil, List.nil_append, List.cons_append, Prod.mk.injEq, Int.cast_ofNat_Int, Int.natCast_zero, Int.natCast_one, and_assoc, exists_eq_left, exists_eq_left', exists_eq_right, exists_eq_right', exists_eq, exists_eq', exists_and_left, exists_and_right, exists_const, and_true, true_and, and_self, ite_true, ite_false, if_true, if_false, decide_true, decide_false, Bool.not_true, Bool.not_false, ne_eq, not_true, not_false_eq_true, Nat.zero_add, Nat.add_zero, Nat.reduceAdd, Nat.reduceMul, Nat.reduceSub, Nat.reduceLT, Nat.reduceLeDiff, Nat.reduceEqDiff, reduceIte, reduceCtorEq, Int.toNat_natCast, Int.toNat_zero, Int.toNat_one, Int.natCast_nonneg, Int.reduceToNat, Int.reduceAdd, Int.reduceSub, Int.reduceMul, Int.reduceLT, Int.reduceLE, Int.reduceNeg, Int.reduceEq, Int.reduceNe, ge_iff_le, gt_iff_lt, or_true, true_or, or_false, false_or, Nat.succ_ne_self, List.drop_zero, List.drop_succ_cons, List.take_succ_cons, List.take_zero, List.take_nil, dite_true, dite_false, tabs]; refine hK _ ?_; clear hK K)); refine aqui_end ?_) | (refine W.skip ?_) | (refine W.exit ?_)); (simp only [AX.seqd, AX.blk, Nat.reduceEqDiff, reduceIte, ite_true, ite_false, if_true, if_false]; (first | (refine hKc _ ?_; clear hKc Kc) | (clear hKc Kc; refine hKc _ ?_; clear hKc Kc) | (clear hKc Kc; clear hKc Kc; refine hKc _ ?_; clear hKc Kc) | (clear hKc Kc; clear hKc Kc; clear hKc Kc; refine hKc _ ?_; clear hKc Kc) | (clear hKc Kc; clear hKc Kc; clear hKc Kc; clear hKc Kc; refine hKc _ ?_; clear hKc Kc)))) | (refine W.block ?_) | (refine W.cond_t rfl ?_) | (refine W.cond_f rfl ?_))
  refine W.freeze 0 (t := TPc) (d := (x, y)) rfl rfl ?_
  refine W.freeze 1 (t := TPc) (d := (u, v)) rfl rfl ?_
  simp only [AS.freeze, AV.ice, List.map_cons, List.map_nil, Nat.reduceEqDiff, reduceIte, List.set_cons_zero, List.set_cons_succ]
  refine W.tail 3 mixed (by kernel_rfl) ?_
  refine aqui_v (v := .sl .int [x, y]) (slice_q rfl rfl ar79 sz3 rfl rfl rfl (by decide)) rfl (fun K hK => ?_)
  simp only [AS.put, List.set_cons_zero, List.set_cons_succ]; refine hK _ ?_; clear hK K
  refine aqui_v (v := .sl .int [u, v]) (slice_q rfl rfl ar79 sz3 rfl rfl rfl (by decide)) rfl (fun K hK => ?_)
  simp only [AS.put, List.set_cons_zero, List.set_cons_succ]; refine hK _ ?_; clear hK K
  (refine aqui_c (cmp2 _ _ _ _) rfl rfl rfl rfl (by exact ⟨.inl rfl, .inl rfl, trivial⟩) (fun K hK => ?_); simp only [resAV, Res.av, Res.ra, RA.av, inj, AS.put, AS.new, List.map_cons, List.map_nil, List.set_cons_zero, List.set_cons_succ, List.length_cons, List.length_nil, List.nil_append, List.cons_append, Nat.zero_add, Nat.reduceAdd]; refine hK _ ?_; clear hK K)
  refine aqui_end ?_
  repeat ((first | refine aseq_u rfl (fun K hK => ?_) | refine aseq_t rfl rfl rfl rfl (fun K hK => ?_) | refine aseq_f rfl rfl rfl rfl (fun K hK => ?_) | refine aseq_n rfl rfl rfl (fun K hK => ?_)); simp (disch := omega) only [wrap_id, AS.ev, AS.put, AS.new, sstep, qval, qbuiltin, binV, lenAV, optI, cv, inj, RA.av, cellsOfAV, cellsAV, unInj, pack, partVals, appStep, srcOf, splice, comp, capAV, argsOk, argOf, resAV, Res.av, Res.ra, Ty.n, zden, Ty.isPr, Option.map_none, Option.map_some, Option.some.injEq, List.getD_cons_zero, List.getD_cons_succ, List.getElem?_cons_zero, List.getElem?_cons_succ, List.set_cons_zero, List.set_cons_succ, List.length_cons, List.length_nil, List.map_cons, List.map_nil, List.nil_append, List.cons_append, Prod.mk.injEq, Int.cast_ofNat_Int, Int.natCast_zero, Int.natCast_one, and_assoc, exists_eq_left, exists_eq_left', exists_eq_right, exists_eq_right', exists_eq, exists_eq', exists_and_left, exists_and_right, exists_const, and_true, true_and, and_self, ite_true, ite_false, if_true, if_false, decide_true, decide_false, Bool.not_true, Bool.not_false, ne_eq, not_true, not_false_eq_true, Nat.zero_add, Nat.add_zero, Nat.reduceAdd, Nat.reduceMul, Nat.reduceSub, Nat.reduceLT, Nat.reduceLeDiff, Nat.reduceEqDiff, reduceIte, reduceCtorEq, Int.toNat_natCast, Int.toNat_zero, Int.toNat_one, Int.natCast_nonneg, Int.reduceToNat, Int.reduceAdd, Int.reduceSub, Int.reduceMul, Int.reduceLT, Int.reduceLE, Int.reduceNeg, Int.reduceEq, Int.reduceNe, ge_iff_le, gt_iff_lt, or_true, true_or, or_false, false_or, Nat.succ_ne_self, List.drop_zero, List.drop_succ_cons, List.take_succ_cons, List.take_zero, List.take_nil, dite_true, dite_false, tabs]; refine hK _ ?_; clear hK K)
  refine aseq_end ?_
  (simp only [AX.seqd, AX.blk, Nat.reduceEqDiff, reduceIte, ite_true, ite_false, if_true, if_false]; (first | (refine hKc _ ?_; clear hKc Kc) | (clear hKc Kc; refine hKc _ ?_; clear hKc Kc) | (clear hKc Kc; clear hKc Kc; refine hKc _ ?_; clear hKc Kc) | (clear hKc Kc; clear hKc Kc; clear hKc Kc; refine hKc _ ?_; clear hKc Kc) | (clear hKc Kc; clear hKc Kc; clear hKc Kc; clear hKc Kc; refine hKc _ ?_; clear hKc Kc)))
  (refine W.ret ?_; show (AX.ret = AX.normal ∨ AX.ret = AX.ret) ∧ _; refine ⟨.inr rfl, ?_⟩; simp only [resV, unInj, List.getD_cons_zero, List.getD_cons_succ, Ty.flat, Bool.and_self, true_and, Option.some.injEq, List.getElem?_cons_zero, List.getElem?_cons_succ, and_true])
end Go.Proofs.Ytemdajfcfmefnaa.Abs
/- What the program answers: the lists of neighbours. -/
namespace Go.Proofs.Ytemdajfcfmefnaa.M
open Go.RowKit Abs
set_option linter.unusedSimpArgs false
set_option linter.unusedVariables false
set_option maxRecDepth 100000
theorem im_isIndex (a b : Int) : Spec2 Try.prog 53 [.int fun _ => a, .int fun _ => b] [] [.bool fun _ => decide (0 ≤ a) && decide (a < b)] [] := by
  refine fnS [] [4] Try.func53 rfl (by decide) rfl (by decide) (by kernel_rfl) rfl (by simp [Try.ntmps53]) ?_
  cbv
  simp only [IfP_iff, EqU_iff, Obl_iff, and_true, true_and, inI_iff, decide_eq_true_eq, decide_eq_false_iff_not]
  grind
/-- The rows of neighbours, after the first edges. -/
def put1 (L : List (List Int)) (e : Int × Int) : List (List Int) := setI (setI L e.1 (getR .int L e.1 ++ [e.2])) e.2 (getR .int (setI L e.1 (getR .int L e.1 ++ [e.2])) e.2 ++ [e.1])
def nearR (m : List (Int × Int)) (n : Int) : List (List Int) := m.foldl put1 (List.replicate n.toNat [])
theorem put1_len (L : List (List Int)) (e : Int × Int) : (put1 L e).length = L.length := by simp [put1, setI]
theorem nearR_len (m : List (Int × Int)) (n : Int) : (nearR m n).length = n.toNat := by
  have : ∀ (m : List (Int × Int)) (L : List (List Int)), (m.foldl put1 L).length = L.length := fun m => by
    induction m with
    | nil => intro L; rfl
    | cons e m ih => intro L; rw [List.foldl_cons, ih, put1_len]
  unfold nearR
  rw [this]
  simp
theorem nearR_next {m : List (Int × Int)} {n k : Int} (h0 : 0 ≤ k) (h1 : k < (m.length : Int)) : nearR (m.take (k + 1).toNat) n = put1 (nearR (m.take k.toNat) n) (getI (.pr .int .int) m k) := by
  unfold nearR
  rw [take_getI (t := .pr .int .int) h0 h1, List.foldl_append]
  rfl
def rowV (v : Int) (m : List (Int × Int)) : List Int := m.filterMap fun e => if e.2 = v then some e.1 else if e.1 = v then some e.2 else none
theorem get_setI {L : List (List Int)} {i j : Int} {y : List Int} (h0 : 0 ≤ i) (h1 : i < (L.length : Int)) (h2 : 0 ≤ j) : getR .int (setI L i y) j = if j = i then y else getR .int L j := by
  unfold getR setI
  rw [List.getD_eq_getElem?_getD, List.getD_eq_getElem?_getD]
  by_cases h : j = i
  · subst h
    rw [List.getElem?_set_self (by omega), if_pos rfl]
    rfl
  · rw [List.getElem?_set_ne (by omega), if_neg h]
theorem put1_row {L : List (List Int)} {e : Int × Int} {v : Int} (h1 : 0 ≤ e.1 ∧ e.1 < L.length) (h2 : 0 ≤ e.2 ∧ e.2 < L.length) (h3 : e.1 ≠ e.2) (h4 : 0 ≤ v) :
    getR .int (put1 L e) v = getR .int L v ++ rowV v [e] := by
  have hl : ∀ (i : Int) (y : List Int), (setI L i y).length = L.length := fun i y => by simp [setI]
  unfold put1
  rw [get_setI h2.1 (by rw [hl]; exact h2.2) h4, get_setI h1.1 h1.2 h2.1, get_setI h1.1 h1.2 h4]
  unfold rowV
  by_cases a : v = e.2
  · have b : ¬ e.2 = e.1 := fun h => h3 h.symm
    simp [a, b]
  · by_cases b : v = e.1
    · simp [b, h3, Ne.symm h3]
    · simp [a, b, Ne.symm a, Ne.symm b]
theorem fold_row {v : Int} (h4 : 0 ≤ v) : ∀ (m : List (Int × Int)) (L : List (List Int)), (∀ e ∈ m, (0 ≤ e.1 ∧ e.1 < L.length) ∧ (0 ≤ e.2 ∧ e.2 < L.length) ∧ e.1 ≠ e.2) → getR .int (m.foldl put1 L) v = getR .int L v ++ rowV v m
  | [], L, _ => by simp [rowV]
  | e :: m, L, h => by
    obtain ⟨a, b, c⟩ := h e (by simp)
    rw [List.foldl_cons, fold_row h4 m (put1 L e) fun x hx => by rw [put1_len]; exact h x (by simp [hx]), put1_row a b c h4]
    simp only [rowV, List.append_assoc]
    congr 1
    rw [← List.filterMap_append]
    rfl
theorem nearR_row {m : List (Int × Int)} {n v : Int} (h4 : 0 ≤ v) (h : ∀ e ∈ m, 0 ≤ e.1 ∧ e.1 < e.2 ∧ e.2 < n) : getR .int (nearR m n) v = rowV v m := by
  unfold nearR
  rw [fold_row h4 m _ fun e he => by obtain ⟨a, b, c⟩ := h e he; simp; omega]
  unfold getR
  rw [List.getD_eq_getElem?_getD]
  by_cases hv : v.toNat < n.toNat
  · rw [List.getElem?_replicate_of_lt hv]; rfl
  · rw [List.getElem?_eq_none (by simp; omega)]; rfl
theorem rowV_len (v : Int) (m : List (Int × Int)) : (rowV v m).length ≤ m.length := List.length_filterMap_le _ _
theorem im_nearLists (l : List (Int × Int)) (n : Int) (h0 : 0 ≤ n) (h1 : n ≤ 1048576) (hl : l.length ≤ 1048576) (hg : ∀ e ∈ l, 0 ≤ e.1 ∧ e.1 < e.2 ∧ e.2 < n) :
    Spec2 Try.prog 54 [.sl (.pr .int .int) fun _ => l, .int fun _ => n] [] [.ref 0] [some (.rows 26 3 .int fun _ => nearR l n)] := by
  refine fnS [0] [4] Try.func54 rfl (by decide) rfl (by decide) (by kernel_rfl) rfl (by simp [Try.ntmps54]) ?_
  cbv
  ((try simp only [IfP_iff, and_true, true_and, decide_eq_true_eq, decide_eq_false_iff_not]); (repeat' (first | apply And.intro | intro _)))
  · ((try simp only [IfP_iff, EqU_iff, Obl_iff, and_true, true_and, inI_iff, decide_eq_true_eq, decide_eq_false_iff_not]); (repeat' (first | apply And.intro | intro _)) <;> first | omega | grind)
  refine loopK (by kernel_rfl) (fun k : Int => 0 ≤ k ∧ k ≤ l.length) (fun k => ⟨mkT 44 [(0, .sl (.pr .int .int) fun _ => l), (1, .int fun _ => n), (5, .ref 0), (12, .sl (.pr .int .int) fun _ => l), (13, .int fun _ => (l.length : Int)), (14, .int fun _ => k)], [some (.rows 26 3 .int fun _ => nearR (l.take k.toNat) n)], 0⟩) (fun k => (l.length - k).toNat) (· + 1) 0 (by simp) ?_ ?_
  · cbv
    simp only [IfP_iff, EqU_iff, Obl_iff, and_true, true_and, inI_iff, decide_eq_true_eq, decide_eq_false_iff_not]
    simp [nearR]
  · intro k hk
    have h2 : 0 ≤ k → k < l.length → 0 ≤ (getI (.pr .int .int) l k).1 ∧ (getI (.pr .int .int) l k).1 < (getI (.pr .int .int) l k).2 ∧ (getI (.pr .int .int) l k).2 < n := fun a b => hg _ (List.mem_of_getElem? (getI_get (t := .pr .int .int) a b))
    have h6 : ∀ v : Int, 0 ≤ v → (getR .int (nearR (l.take k.toNat) n) v).length ≤ 1048576 := fun v hv => by
      rw [nearR_row hv fun e he => hg e (List.mem_of_mem_take he)]
      have := rowV_len v (l.take k.toNat)
      rw [List.length_take] at this
      omega
    have h7 : ∀ (L : List (List Int)) (i : Int) (y : List Int), (setI L i y).length = L.length := fun L i y => by simp [setI]
    have h8 := @get_setI (nearR (l.take k.toNat) n)
    have h3 := nearR_len (l.take k.toNat) n
    have h4 := nearR_next (m := l) (n := n) (k := k)
    have h5 := take_all (l := l) (i := k)
    cbv
    ((try simp only [IfP_iff, and_true, true_and, decide_eq_true_eq, decide_eq_false_iff_not]); (repeat' (first | apply And.intro | intro _)))
    all_goals (try simp only [IfP_iff, EqU_iff, Obl_iff, and_true, true_and, inI_iff, decide_eq_true_eq, decide_eq_false_iff_not])
    all_goals ((repeat' (first | apply And.intro | intro _)) <;> first | omega | (simp only [put1] at h4; grind))
end Go.Proofs.Ytemdajfcfmefnaa.M
/- What the program answers: Graphs. -/
namespace Go.Proofs.Ytemdajfcfmefnaa.M
open Go.RowKit Abs
set_option linter.unusedSimpArgs false
set_option linter.unusedVariables false
set_option maxRecDepth 100000
theorem im_cmp (p q : Int × Int) : Spec2 Try.prog 96 [.agg (.pr .int .int) fun _ => p, .agg (.pr .int .int) fun _ => q] [] [.int fun _ => cmpL [p.1, p.2] [q.1, q.2]] [] :=
  toSpec2 (Abs.impl_cmpPairs p q) rfl fun ok w val v h => iInt ok w val v h
theorem cmp_edge (p q : Int × Int) : (0 ≤ cmpL [p.1, p.2] [q.1, q.2]) ↔ edgeLt p q = false := by
  simp only [cmpL, cmpI, edgeLt]
  grind
/-- A pair of two different numbers below n, the less one first. -/
def pairB (n : Int) (q : Int × Int) : Bool := decide (0 ≤ q.1) && decide (q.1 < q.2) && decide (q.2 < n)
theorem im_isPair (q : Int × Int) (n : Int) : Spec2 Try.prog 95 [.agg (.pr .int .int) fun _ => q, .int fun _ => n] [] [.bool fun _ => pairB n q] [] := by
  refine fnS [] [4] Try.func95 rfl (by decide) rfl (by decide) (by kernel_rfl) rfl (by simp [Try.ntmps95]) ?_
  have h1 : pairB n q = _ := rfl
  conv at h1 => rhs; unfold pairB
  have h2 : at2 q 0 = q.1 := rfl
  have h3 : at2 q 1 = q.2 := rfl
  cbv
  all_goals (try simp only [IfP_iff, EqU_iff, Obl_iff, and_true, true_and, inI_iff, decide_eq_true_eq, decide_eq_false_iff_not])
  all_goals ((repeat' (first | apply And.intro | intro _)) <;> first | omega | grind)
theorem im_arePairs (l : List (Int × Int)) (n : Int) (hl : l.length ≤ 1048576) : Spec2 Try.prog 83 [.sl (.pr .int .int) fun _ => l, .int fun _ => n] [] [.bool fun _ => pairsOk l n] [] := by
  refine fnS [] [4] Try.func83 rfl (by decide) rfl (by decide) (by kernel_rfl) rfl (by simp [Try.ntmps83]) ?_
  cbv
  refine loopK (by kernel_rfl) (fun k : Int => 0 ≤ k ∧ k ≤ l.length ∧ ∀ j : Int, 0 ≤ j → j < k → goodI l n j = true) (fun k => ⟨mkT 33 [(0, .sl (.pr .int .int) fun _ => l), (1, .int fun _ => n), (7, .sl (.pr .int .int) fun _ => l), (8, .int fun _ => (l.length : Int)), (9, .int fun _ => k)], [], 0⟩) (fun k => (l.length - k).toNat) (· + 1) 0 (by grind) ?_ ?_
  · cbv
    try simp only [IfP_iff, EqU_iff, Obl_iff, and_true, true_and, inI_iff, decide_eq_true_eq, decide_eq_false_iff_not]
  · intro k hk
    have h2 := pairs_bad (l := l) (n := n) (k := k)
    have h3 := pairs_good (l := l) (n := n)
    have h4 : goodI l n k = true → ∀ j : Int, 0 ≤ j → j < k + 1 → goodI l n j = true := fun h j h1 h2 => by
      by_cases hj : j = k
      · rw [hj]; exact h
      · exact hk.2.2 j h1 (by omega)
    have h5 : goodI l n k = _ := rfl
    conv at h5 => rhs; unfold goodI
    have h7 : pairB n (getI (.pr .int .int) l k) = _ := rfl
    conv at h7 => rhs; unfold pairB
    have h6 := cmp_edge (getI (.pr .int .int) l (k - 1)) (getI (.pr .int .int) l k)
    cbv
    ((try simp only [IfP_iff, and_true, true_and, decide_eq_true_eq, decide_eq_false_iff_not]); (repeat' (first | apply And.intro | intro _)))
    repeat' (first | ((first | refine call_q (im_isPair (getI (.pr .int .int) l k) n) (by cbv) ?_ | refine call_pure (im_isPair (getI (.pr .int .int) l k) n) (by cbv) ?_); cbv; ((try simp only [IfP_iff, and_true, true_and, decide_eq_true_eq, decide_eq_false_iff_not]); (repeat' (first | apply And.intro | intro _)))) | ((first | refine call_q (im_cmp _ _) (by cbv) ?_ | refine call_pure (im_cmp _ _) (by cbv) ?_); cbv; ((try simp only [IfP_iff, and_true, true_and, decide_eq_true_eq, decide_eq_false_iff_not]); (repeat' (first | apply And.intro | intro _)))))
    all_goals (try simp only [IfP_iff, EqU_iff, Obl_iff, and_true, true_and, inI_iff, decide_eq_true_eq, decide_eq_false_iff_not])
    all_goals ((repeat' (first | apply And.intro | intro _)) <;> first | omega | grind)
theorem im_graph (n : Int) (l : List (Int × Int)) (hl : l.length ≤ 1048576) : Spec2 Try.prog 52 [.agg (.pr .int (.sl (.pr .int .int))) fun _ => (n, l)] [] [.bool fun _ => graphOk n l] [] := by
  refine fnS [] [2] Try.func52 rfl (by decide) rfl (by decide) (by kernel_rfl) rfl (by simp [Try.ntmps52]) ?_
  have h1 : graphOk n l = (decide (0 ≤ n) && decide (n ≤ 8) && pairsOk l n) := rfl
  cbv
  ((try simp only [IfP_iff, and_true, true_and, decide_eq_true_eq, decide_eq_false_iff_not]); (repeat' (first | apply And.intro | intro _)))
  repeat' (((first | refine call_q (im_arePairs _ _ hl) (by cbv) ?_ | refine call_pure (im_arePairs _ _ hl) (by cbv) ?_); cbv; ((try simp only [IfP_iff, and_true, true_and, decide_eq_true_eq, decide_eq_false_iff_not]); (repeat' (first | apply And.intro | intro _)))))
  all_goals (try simp only [IfP_iff, EqU_iff, Obl_iff, and_true, true_and, inI_iff, decide_eq_true_eq, decide_eq_false_iff_not])
  all_goals ((repeat' (first | apply And.intro | intro _)) <;> first | omega | grind)
end Go.Proofs.Ytemdajfcfmefnaa.M
/- Neighbours: the two answers are one. -/
namespace Go.Proofs.Ytemdajfcfmefnaa.M
open Go.RowKit Abs
set_option linter.unusedSimpArgs false
set_option linter.unusedVariables false
set_option maxRecDepth 100000
/-- What a good graph's edges are. -/
theorem graph_edges {n : Int} {l : List (Int × Int)} (h : graphOk n l = true) : (0 ≤ n ∧ n ≤ 8) ∧ (∀ e ∈ l, 0 ≤ e.1 ∧ e.1 < e.2 ∧ e.2 < n) ∧ l.Pairwise fun p q => edgeLt p q = true := by
  simp only [graphOk, Bool.and_eq_true, decide_eq_true_eq] at h
  obtain ⟨⟨h0, h1⟩, h2⟩ := h
  have h3 : ∀ k : Nat, k < l.length → goodI l n k = true := fun k hk => List.all_eq_true.1 h2 k (by simpa using hk)
  have h4 : ∀ (k : Nat) (e : Int × Int), l[k]? = some e → getI (.pr .int .int) l k = e := fun k e he => by
    obtain ⟨hk, he'⟩ := List.getElem?_eq_some_iff.1 he
    unfold getI
    rw [List.getD_eq_getElem?_getD]
    simp [he]
  refine ⟨⟨h0, h1⟩, fun e he => ?_, ?_⟩
  · obtain ⟨k, hk⟩ := List.mem_iff_getElem?.1 he
    have := h3 k (List.getElem?_eq_some_iff.1 hk).1
    simp only [goodI, h4 k e hk, Bool.and_eq_true, decide_eq_true_eq] at this
    exact ⟨this.1.1.1, this.1.1.2, this.1.2⟩
  · have adj : ∀ k, (hk : k + 1 < l.length) → edgeLt l[k] l[k + 1] = true := fun k hk => by
      have := h3 (k + 1) hk
      simp only [goodI, Bool.and_eq_true, Bool.or_eq_true, decide_eq_true_eq] at this
      have e1 := h4 (k + 1) l[k + 1] (List.getElem?_eq_getElem hk)
      have e2 := h4 k l[k] (List.getElem?_eq_getElem (by omega))
      rw [show (((k + 1 : Nat) : Int) - 1) = (k : Int) by omega, e1, e2] at this
      rcases this.2 with h | h
      · omega
      · exact h
    have tr : ∀ p q r : Int × Int, edgeLt p q = true → edgeLt q r = true → edgeLt p r = true := fun p q r => by simp only [edgeLt]; grind
    rw [List.pairwise_iff_getElem]
    intro i j hi hj hij
    obtain ⟨d, rfl⟩ : ∃ d, j = i + 1 + d := ⟨j - i - 1, by omega⟩
    induction d with
    | zero => exact adj i hj
    | succ d ih => exact tr _ _ _ (ih (by omega) (by omega)) (adj (i + 1 + d) hj)
theorem sorted_eq : ∀ {x y : List Int}, x.Pairwise (· < ·) → y.Pairwise (· < ·) → (∀ a, a ∈ x ↔ a ∈ y) → x = y
  | [], [], _, _, _ => rfl
  | [], b :: y, _, _, h => by have := (h b).2 (by simp); simp at this
  | a :: x, [], _, _, h => by have := (h a).1 (by simp); simp at this
  | a :: x, b :: y, hx, hy, h => by
    rw [List.pairwise_cons] at hx hy
    have hab : a = b := by
      have h1 := (h a).1 (by simp)
      have h2 := (h b).2 (by simp)
      simp only [List.mem_cons] at h1 h2
      rcases h1 with h1 | h1 <;> rcases h2 with h2 | h2
      · exact h1
      · exact h1
      · exact h2.symm
      · have := hy.1 a h1; have := hx.1 b h2; omega
    subst hab
    rw [sorted_eq hx.2 hy.2 fun c => ?_]
    have hc := h c
    simp only [List.mem_cons] at hc
    constructor
    · intro hm
      rcases hc.1 (.inr hm) with e | e
      · have := hx.1 c hm; omega
      · exact e
    · intro hm
      rcases hc.2 (.inr hm) with e | e
      · have := hy.1 c hm; omega
      · exact e
theorem row_nbrs {n v : Int} {l : List (Int × Int)} (h : graphOk n l = true) (hv : 0 ≤ v) : rowV v l = nbrs l v n.toNat := by
  obtain ⟨⟨h0, h1⟩, h2, h3⟩ := graph_edges h
  refine sorted_eq ?_ ?_ fun a => ?_
  · unfold rowV
    rw [List.pairwise_filterMap]
    refine List.Pairwise.imp_of_mem ?_ h3
    intro p q hp hq hpq a ha b hb
    have := h2 p hp
    have := h2 q hq
    simp only [edgeLt, Bool.or_eq_true, Bool.and_eq_true, decide_eq_true_eq] at hpq
    split at ha <;> split at hb <;> (try split at ha) <;> (try split at hb) <;> simp only [Option.some.injEq, reduceCtorEq] at ha hb <;> omega
  · unfold nbrs
    refine List.Pairwise.filter _ ?_
    rw [List.pairwise_map]
    exact List.Pairwise.imp (fun {a b} h => by simpa using h) List.pairwise_lt_range
  · unfold rowV nbrs nearB hit
    simp only [List.mem_filterMap, List.mem_filter, List.mem_map, List.mem_range, List.any_eq_true, Bool.or_eq_true, Bool.and_eq_true, beq_iff_eq]
    constructor
    · rintro ⟨e, he, ha⟩
      have := h2 e he
      refine ⟨⟨a.toNat, ?_⟩, e, he, ?_⟩
      · split at ha <;> (try split at ha) <;> simp only [Option.some.injEq, reduceCtorEq] at ha <;> simp <;> omega
      · split at ha <;> (try split at ha) <;> simp only [Option.some.injEq, reduceCtorEq] at ha <;> omega
    · rintro ⟨_, e, he, ha⟩
      have := h2 e he
      refine ⟨e, he, ?_⟩
      rcases ha with ha | ha
      · rw [if_neg (by omega), if_pos ha.1, ha.2]
      · rw [if_pos ha.2, ha.1]
theorem im_nbrs_bad (n : Int) (l : List (Int × Int)) (v : Int) (hl : l.length ≤ 1048576) (hb : okN n l v = false) : Spec2 Try.prog 16 [.agg (.pr .int (.sl (.pr .int .int))) fun _ => (n, l), .int fun _ => v] [] [.ref 0, .bool fun _ => false] [some (.row 3 .int fun _ => [])] := by
  refine fnS [1] [4, 5] Try.func16 rfl (by decide) rfl (by decide) (by kernel_rfl) rfl (by simp [Try.ntmps16]) ?_
  simp only [okN] at hb
  cbv
  ((try simp only [IfP_iff, and_true, true_and, decide_eq_true_eq, decide_eq_false_iff_not]); (repeat' (first | apply And.intro | intro _)))
  repeat' (first | ((first | refine call_q (im_graph _ _ hl) (by cbv) ?_ | refine call_pure (im_graph _ _ hl) (by cbv) ?_); cbv; ((try simp only [IfP_iff, and_true, true_and, decide_eq_true_eq, decide_eq_false_iff_not]); (repeat' (first | apply And.intro | intro _)))) | ((first | refine call_q (im_isIndex _ _) (by cbv) ?_ | refine call_pure (im_isIndex _ _) (by cbv) ?_); cbv; ((try simp only [IfP_iff, and_true, true_and, decide_eq_true_eq, decide_eq_false_iff_not]); (repeat' (first | apply And.intro | intro _)))))
  all_goals (try simp only [IfP_iff, EqU_iff, Obl_iff, and_true, true_and, inI_iff, decide_eq_true_eq, decide_eq_false_iff_not])
  all_goals (first | omega | (exfalso; grind) | skip)
theorem im_nbrs_ok (n : Int) (l : List (Int × Int)) (v : Int) (hl : l.length ≤ 1048576) (hb : okN n l v = true) : Spec2 Try.prog 16 [.agg (.pr .int (.sl (.pr .int .int))) fun _ => (n, l), .int fun _ => v] [] [.elem 0 fun _ => v, .bool fun _ => true] [some (.rows 26 3 .int fun _ => nearR l n)] := by
  refine fnS [1] [4, 5] Try.func16 rfl (by decide) rfl (by decide) (by kernel_rfl) rfl (by simp [Try.ntmps16]) ?_
  simp only [okN, Bool.and_eq_true, decide_eq_true_eq] at hb
  obtain ⟨hg, hv0, hv1⟩ := hb
  obtain ⟨⟨h0, h1⟩, h2, h3⟩ := graph_edges hg
  have h4 := nearR_len l n
  cbv
  ((try simp only [IfP_iff, and_true, true_and, decide_eq_true_eq, decide_eq_false_iff_not]); (repeat' (first | apply And.intro | intro _)))
  repeat' (first | ((first | refine call_q (im_graph _ _ hl) (by cbv) ?_ | refine call_pure (im_graph _ _ hl) (by cbv) ?_); cbv; ((try simp only [IfP_iff, and_true, true_and, decide_eq_true_eq, decide_eq_false_iff_not]); (repeat' (first | apply And.intro | intro _)))) | ((first | refine call_q (im_isIndex _ _) (by cbv) ?_ | refine call_pure (im_isIndex _ _) (by cbv) ?_); cbv; ((try simp only [IfP_iff, and_true, true_and, decide_eq_true_eq, decide_eq_false_iff_not]); (repeat' (first | apply And.intro | intro _)))) | ((first | refine call_q (im_nearLists _ _ h0 (by omega) hl h2) (by cbv) ?_ | refine call_pure (im_nearLists _ _ h0 (by omega) hl h2) (by cbv) ?_); cbv; ((try simp only [IfP_iff, and_true, true_and, decide_eq_true_eq, decide_eq_false_iff_not]); (repeat' (first | apply And.intro | intro _)))))
  all_goals (try simp only [IfP_iff, EqU_iff, Obl_iff, and_true, true_and, inI_iff, decide_eq_true_eq, decide_eq_false_iff_not])
  all_goals ((repeat' (first | apply And.intro | intro _)) <;> first | omega | grind)
end Go.Proofs.Ytemdajfcfmefnaa.M
/- The helpers of the laws over rows of integers. -/
namespace Go.Proofs.Ytemdajfcfmefnaa.M
open Go.RowKit Abs
set_option linter.unusedSimpArgs false
set_option linter.unusedVariables false
set_option maxRecDepth 100000
/-- A row of rows that is handed back: its row alone. -/
theorem Spec2.pick {P : Program} {f : FuncId} {args : List AV} {e e2 : TypeId} {t : Ty} {l : Unit → List (List t.den)} {i : Unit → Int} {b : Unit → Bool} (h : Spec2 P f args [] [.elem 0 i, .bool b] [some (.rows e e2 t l)]) : Spec2 P f args [] [.ref 0, .bool b] [some (.row e2 t fun _ => getR t (l ()) (i ()))] := by
  refine ⟨h.1, by simp, fun w val vs hH hv => (h.2.2 w val vs hH hv).mono fun x w' ⟨v, val', he, hp⟩ => ?_⟩
  obtain ⟨us, hu1, hu2⟩ := hp.res
  match us, hu2 with
  | [u1, u2], hu2 =>
  simp only [VRelL, VRel] at hu2
  obtain ⟨⟨_, hi0, hi1⟩, hb, _⟩ := hu2
  have hbk := hp.heap.blk 0 _ rfl
  obtain ⟨k1, k2, k3, k4⟩ := hbk
  have hhs : (val' 0).hs.length = (l ()).length := by have := k1.1; simpa using this
  have hlt : (i ()).toNat < (l ()).length := by rw [← hhs]; exact (List.getElem?_eq_some_iff.1 hi1).1
  obtain ⟨h', xs, m1, m2, m3⟩ := k2 _ _ (getR_get (i := i ()) hi0 (by omega))
  rw [hi1] at m1
  cases m1
  have inF : ∀ g, ownB u1 = some g → g ∈ (val' 0).F := fun g hg => (k3 g).2 (.inr ⟨u1, List.mem_of_getElem? hi1, hg⟩)
  refine ⟨v, fun _ => ⟨u1, [], (ownB u1).toList⟩, he, hp.fr, ⟨fun n B hB => ?_, fun n B hB g hg => ?_, fun n m B C hne hB hC => ?_⟩, fun n B hB g hg => ?_, fun n hn => by simp at hn, [u1, u2], hu1, ?_⟩
  · cases n with
    | succ n => simp at hB
    | zero =>
      cases hB
      exact ⟨xs, m2, m3, rfl⟩
  · cases n with
    | succ n => simp at hB
    | zero => exact hp.heap.lt 0 _ rfl g (inF g (by simpa using hg))
  · cases n with
    | succ n => simp at hB
    | zero =>
      cases m with
      | succ m => simp at hC
      | zero => exact (hne rfl).elim
  · cases n with
    | succ n => simp at hB
    | zero => exact hp.own 0 _ rfl g (inF g (by simpa using hg))

  · simp only [VRelL, VRel]
    exact ⟨⟨by simp, trivial⟩, hb, trivial⟩
theorem la_eqInts (x y : List Int) (hx : x.length ≤ 1048576) : Spec2 Try.prog 17 [.sl .int fun _ => x, .sl .int fun _ => y] [] [.bool fun _ => decide (x = y)] [] := by
  refine fnS [] [4] Try.func17 rfl (by decide) rfl (by decide) (by kernel_rfl) rfl (by simp [Try.ntmps17]) ?_
  cbv
  ((try simp only [IfP_iff, and_true, true_and, decide_eq_true_eq, decide_eq_false_iff_not]); (repeat' (first | apply And.intro | intro _)))
  · simp only [IfP_iff, EqU_iff, Obl_iff, and_true, true_and, inI_iff, decide_eq_true_eq, decide_eq_false_iff_not]
    grind
  refine loopK (by kernel_rfl) (fun k : Int => 0 ≤ k ∧ k ≤ x.length ∧ x.take k.toNat = y.take k.toNat) (fun k => ⟨mkT 26 [(0, .sl .int fun _ => x), (1, .sl .int fun _ => y), (5, .int fun _ => k)], [], 0⟩) (fun k => (x.length - k).toNat) (· + 1) 0 (by simp) ?_ ?_
  · cbv
    try simp only [IfP_iff, EqU_iff, Obl_iff, and_true, true_and, inI_iff, decide_eq_true_eq, decide_eq_false_iff_not]
  · intro k hk
    have h3 := take_getI (t := .int) (l := x) (i := k)
    have h4 := take_getI (t := .int) (l := y) (i := k)
    have h5 := take_all (l := x) (i := k)
    have h6 := take_all (l := y) (i := k)
    cbv
    ((try simp only [IfP_iff, and_true, true_and, decide_eq_true_eq, decide_eq_false_iff_not]); (repeat' (first | apply And.intro | intro _)))
    all_goals (try simp only [IfP_iff, EqU_iff, Obl_iff, and_true, true_and, inI_iff, decide_eq_true_eq, decide_eq_false_iff_not])
    all_goals ((repeat' (first | apply And.intro | intro _)) <;> first | omega | grind)
def marks (k0 : Int) (n : Nat) : List Int := (List.range n).map fun i : Nat => k0 + (i : Int)
theorem marks_len (k0 : Int) (n : Nat) : (marks k0 n).length = n := by simp [marks]
theorem marks_get {k0 k : Int} {n : Nat} (h0 : 0 ≤ k) (h1 : k < n) : getI .int (marks k0 n) k = k0 + k := by
  have h := getI_get (t := .int) (l := marks k0 n) h0 (by rw [marks_len]; exact h1)
  have h2 : k.toNat < n := by omega
  simp only [marks, List.getElem?_map, List.getElem?_range h2, Option.map_some, Option.some.injEq] at h
  have h3 : getI .int (marks k0 n) k = k0 + ((k.toNat : Nat) : Int) := h.symm
  have h4 : ((k.toNat : Nat) : Int) = k := by omega
  rw [h4] at h3
  exact h3
theorem marks_set {k0 k : Int} {l : List Int} (h0 : 0 ≤ k) (h1 : k < (l.length : Int)) : setI (marks k0 k.toNat ++ l.drop k.toNat) k (k0 + k) = marks k0 (k + 1).toNat ++ l.drop (k + 1).toNat := by
  have e : (k + 1).toNat = k.toNat + 1 := by omega
  have hlt : k.toNat < l.length := by omega
  unfold setI
  rw [List.set_append, if_neg (by rw [marks_len]; omega), marks_len, Nat.sub_self, List.drop_eq_getElem_cons hlt, List.set_cons_zero, e]
  simp only [marks, List.range_succ, List.map_append, List.map_cons, List.map_nil, List.append_assoc, List.cons_append, List.nil_append]
  rw [show ((k.toNat : Nat) : Int) = k by omega]
theorem la_markInts (l : List Int) (k0 : Int) (h0 : 0 ≤ k0) (h1 : k0 ≤ 1000000000) (hl : l.length ≤ 1048576) : Spec2 Try.prog 20 [.ref 0, .int fun _ => k0] [some (.row 3 .int fun _ => l)] [.int fun _ => k0 + l.length] [some (.row 3 .int fun _ => marks k0 l.length)] := by
  refine fnS [0] [4] Try.func20 rfl (by decide) rfl (by decide) (by kernel_rfl) rfl (by simp [Try.ntmps20]) ?_
  cbv
  refine loopK (by kernel_rfl) (fun k : Int => 0 ≤ k ∧ k ≤ l.length) (fun k => ⟨mkT 19 [(0, .ref 0), (1, .int fun _ => k0 + k), (5, .int fun _ => k)], [some (.row 3 .int fun _ => marks k0 k.toNat ++ l.drop k.toNat)], 1⟩) (fun k => (l.length - k).toNat) (· + 1) 0 (by simp) ?_ ?_
  · cbv
    simp only [IfP_iff, EqU_iff, Obl_iff, and_true, true_and, inI_iff, decide_eq_true_eq, decide_eq_false_iff_not]
    simp [marks]
  · intro k hk
    have h2 := marks_set (k0 := k0) (k := k) (l := l)
    have h3 : (marks k0 k.toNat ++ l.drop k.toNat).length = l.length := by rw [List.length_append, marks_len, List.length_drop]; omega
    have h4 : ¬ k < (l.length : Int) → marks k0 k.toNat ++ l.drop k.toNat = marks k0 l.length := fun h => by
      have e : k.toNat = l.length := by omega
      rw [e]; simp
    cbv
    ((try simp only [IfP_iff, and_true, true_and, decide_eq_true_eq, decide_eq_false_iff_not]); (repeat' (first | apply And.intro | intro _)))
    all_goals (try simp only [IfP_iff, EqU_iff, Obl_iff, and_true, true_and, inI_iff, decide_eq_true_eq, decide_eq_false_iff_not])
    all_goals ((repeat' (first | apply And.intro | intro _)) <;> first | omega | grind)
theorem la_heldInts (n : Nat) (k0 : Int) (h0 : 0 ≤ k0) (h1 : k0 ≤ 1000000000) (hl : n ≤ 1048576) : Spec2 Try.prog 21 [.sl .int fun _ => marks k0 n, .int fun _ => k0] [] [.int fun _ => k0 + n] [] := by
  refine fnS [] [4] Try.func21 rfl (by decide) rfl (by decide) (by kernel_rfl) rfl (by simp [Try.ntmps21]) ?_
  cbv
  refine loopK (by kernel_rfl) (fun k : Int => 0 ≤ k ∧ k ≤ n) (fun k => ⟨mkT 21 [(0, .sl .int fun _ => marks k0 n), (1, .int fun _ => k0 + k), (5, .int fun _ => k)], [], 0⟩) (fun k => (n - k).toNat) (· + 1) 0 (by simp) ?_ ?_
  · cbv
    simp only [IfP_iff, EqU_iff, Obl_iff, and_true, true_and, inI_iff, decide_eq_true_eq, decide_eq_false_iff_not]
    simp
  · intro k hk
    have h2 := marks_get (k0 := k0) (k := k) (n := n)
    have h3 := marks_len k0 n
    cbv
    ((try simp only [IfP_iff, and_true, true_and, decide_eq_true_eq, decide_eq_false_iff_not]); (repeat' (first | apply And.intro | intro _)))
    all_goals (try simp only [IfP_iff, EqU_iff, Obl_iff, and_true, true_and, inI_iff, decide_eq_true_eq, decide_eq_false_iff_not])
    all_goals ((repeat' (first | apply And.intro | intro _)) <;> first | omega | grind)
end Go.Proofs.Ytemdajfcfmefnaa.M
/- The helpers of the laws over Graphs. -/
namespace Go.Proofs.Ytemdajfcfmefnaa.M
open Go.RowKit Abs
set_option linter.unusedSimpArgs false
set_option linter.unusedVariables false
set_option maxRecDepth 100000
theorem iBool {b : Bool} (ok : Nat → Prop) (w : World) (val : Nat → Bd) (v : Value) (h : IRel ok w .bool b v) : VRel NoB w 0 val (.bool fun _ => b) v := by
  have h2 : Rep ok w .bool b [v] := h
  unfold Rep at h2
  simp only [VRel]
  simpa using h2
theorem la_szGraph (n : Int) (l : List (Int × Int)) (k : Int) (h0 : 0 ≤ k) (h1 : k ≤ 1048576) : Spec2 Try.prog 13 [.agg (.pr .int (.sl (.pr .int .int))) fun _ => (n, l), .int fun _ => k] [] [.int fun _ => if (l.length : Int) ≤ k then k - l.length else -1] [] :=
  toSpec2 (Abs.law_szGraph (n, l) k h0 h1) rfl fun ok w val v h => iInt ok w val v h
theorem la_eqGraph (n : Int) (l : List (Int × Int)) : Spec2 Try.prog 18 [.agg (.pr .int (.sl (.pr .int .int))) fun _ => (n, l), .agg (.pr .int (.sl (.pr .int .int))) fun _ => (n, l)] [] [.bool fun _ => true] [] :=
  toSpec2 (Abs.law_eqGraph (n, l)) rfl fun ok w val v h => iBool ok w val v h
theorem repL_pairs {ok : Nat → Prop} {w : World} {l : List (Int × Int)} : RepL ok w (.pr .int .int) l (flat2 l) :=
  ⟨by rw [flat2_length]; rfl, fun i y hy => by
    unfold Rep
    refine ⟨[.int .i64 y.1], [.int .i64 y.2], ?_, by unfold Rep; rfl, by unfold Rep; rfl⟩
    obtain ⟨h1, h2⟩ := flat2_get l i y hy
    have l1 := List.getElem?_eq_some_iff.1 h1
    have l2 := List.getElem?_eq_some_iff.1 h2
    show ((flat2 l).drop (i * 2)).take 2 = _
    rw [List.drop_eq_getElem_cons l1.1, l1.2, List.drop_eq_getElem_cons l2.1, l2.2]; rfl⟩
theorem pairs_repL {ok : Nat → Prop} {w : World} {l : List (Int × Int)} {xs : List Value} (h : RepL ok w (.pr .int .int) l xs) : xs = flat2 l := by
  obtain ⟨h1, h2⟩ := h
  have h1' : xs.length = l.length * 2 := h1
  have key : ∀ (i : Nat) (y : Int × Int), l[i]? = some y → xs[i * 2]? = some (.int .i64 y.1) ∧ xs[i * 2 + 1]? = some (.int .i64 y.2) := fun i y hy => by
    have hr := h2 i y hy
    unfold Rep at hr
    obtain ⟨c1, c2, e, k1, k2⟩ := hr
    unfold Rep at k1 k2
    subst k1
    subst k2
    have e' : (xs.drop (i * 2)).take 2 = [.int .i64 y.1, .int .i64 y.2] := e
    have e0 : ((xs.drop (i * 2)).take 2)[0]? = some (.int .i64 y.1) := by rw [e']; rfl
    have e1 : ((xs.drop (i * 2)).take 2)[1]? = some (.int .i64 y.2) := by rw [e']; rfl
    rw [List.getElem?_take_of_lt (by omega), List.getElem?_drop] at e0 e1
    exact ⟨by simpa using e0, e1⟩
  apply List.ext_getElem?
  intro j
  by_cases hj : j < l.length * 2
  · have hi : j / 2 < l.length := by omega
    obtain ⟨a1, a2⟩ := key (j / 2) _ (List.getElem?_eq_getElem hi)
    obtain ⟨b1, b2⟩ := flat2_get l (j / 2) _ (List.getElem?_eq_getElem hi)
    rcases Nat.mod_two_eq_zero_or_one j with hm | hm
    · rw [show j = j / 2 * 2 by omega, a1, b1]
    · rw [show j = j / 2 * 2 + 1 by omega, a2, b2]
  · rw [List.getElem?_eq_none (by omega), List.getElem?_eq_none (by rw [flat2_length]; omega)]
theorem own_size {w : World} {base : Nat} {e : TypeId} {k : Nat} {v : Value} {n : Nat} {xs : List Value} (h : w.ownsRow base e k v n xs) : ∀ g, ownB v = some g → g < w.heap.size := fun g hg => by
  rcases h.2 with ⟨rfl, _⟩ | ⟨g', cap, cur, rfl, hb, hh, _⟩
  · cases hg
  · cases hg; exact (Array.getElem?_eq_some_iff.1 hh).1
theorem la_toGraph (n : Int) (l : List (Int × Int)) (hl : l.length ≤ 1048576) : Spec2 Try.prog 15 [.agg (.pr .int (.sl (.pr .int .int))) fun _ => (n, l)] [] [.cells [.int fun _ => n, .ref 0]] [some (.row 79 (.pr .int .int) fun _ => l)] := by
  refine ⟨by kernel_rfl, by simp, fun w val vs hH hv => ?_⟩
  match vs, hv with
  | [v], hv =>
  simp only [VRelL, and_true] at hv
  have ha : Abs.ArgRel w (.agg TG (n, l)) v := ofA_arg rfl hv
  obtain ⟨a, cap, rfl, h2, h3⟩ := Abs.arg_graph ha
  refine (toGraph w n a l cap h2 hl).mono ?_
  rintro e w' ⟨s, rfl, ho, hb⟩
  refine ⟨_, fun _ => ⟨s, [], (ownB s).toList⟩, rfl, ⟨hb.os, hb.tape, hb.output, hb.size, fun b hb' _ => hb.block b hb'⟩, ⟨fun m B hB => ?_, fun m B hB g hg => ?_, fun m k B C hne hB hC => ?_⟩, fun m B hB g hg => ?_, fun m hm => by simp at hm, ?_⟩
  · cases m with
    | succ m => simp at hB
    | zero => cases hB; exact ⟨flat2 l, own_le ho (Nat.zero_le _), repL_pairs, rfl⟩
  · exact own_size ho g (by simpa using hg)
  · cases m with
    | succ m => simp at hB
    | zero =>
      cases k with
      | succ k => simp at hC
      | zero => exact (hne rfl).elim
  · exact .inl (Abs.own_blk ho g (by simpa using hg))
  · show VRel _ _ _ _ _ _
    simp only [VRel]
    refine ⟨[.int .i64 n, s], rfl, by simp [VRelL, VRel], fun u hu => ?_⟩
    rcases List.mem_cons.1 hu with rfl | hu
    · rfl
    · simp only [List.mem_singleton] at hu
      subst hu
      exact Rep.one (Abs.own_pairs ho) _ (by simp)
theorem la_markGraph (n : Int) (l : List (Int × Int)) (k0 : Int) (h0 : 0 ≤ k0) (h1 : k0 ≤ 1000000000) (hl : l.length ≤ 1048576) : Spec2 Try.prog 19 [.cells [.int fun _ => n, .ref 0], .int fun _ => k0] [some (.row 79 (.pr .int .int) fun _ => l)] [.int fun _ => k0 + l.length * 2] [none] := by
  refine ⟨by kernel_rfl, by simp, fun w val vs hH hv => ?_⟩
  match vs, hv with
  | [v, u], hv =>
  simp only [VRelL, VRel, and_true] at hv
  obtain ⟨⟨cs, rfl, hcs, _⟩, rfl⟩ := hv
  match cs, hcs with
  | [c1, c2], hcs =>
  simp only [VRelL, VRel, and_true] at hcs
  obtain ⟨rfl, _, rfl⟩ := hcs
  obtain ⟨xs, k1, k2, k3⟩ := hH.blk 0 _ rfl
  have hxs := pairs_repL k2
  subst hxs
  have ho : OwnPairs 0 (val 0).v l w := k1
  refine (markGraph w 0 n (val 0).v l k0 h0 (by omega) ho (by omega)).mono ?_
  rintro e w' ⟨rfl, hg⟩
  refine ⟨_, val, rfl, ?_, ⟨fun m B hB => ?_, fun m B hB g hg => ?_, fun m k B C hne hB hC => ?_⟩, fun m B hB g hg => ?_, fun m hm => rfl, ?_⟩
  · rw [own_as k1] at hg
    exact ⟨hg.os, hg.tape, hg.output, hg.size, fun b hb hp => hg.block b hb fun e => hp ⟨0, _, rfl, by rw [k3, ← e]; simp⟩⟩
  · cases m <;> simp at hB
  · cases m <;> simp at hB
  · cases m <;> simp at hB
  · cases m <;> simp at hB
  · show VRel _ _ _ _ _ _
    simp only [VRel]
end Go.Proofs.Ytemdajfcfmefnaa.M
/- The helpers of the laws over rows of rows, and over Spaces. -/
namespace Go.Proofs.Ytemdajfcfmefnaa.M
open Go.RowKit Abs
set_option linter.unusedSimpArgs false
set_option linter.unusedVariables false
set_option maxRecDepth 100000
set_option maxHeartbeats 4000000
def totR : List (List Int) → Int
  | [] => 0
  | r :: L => r.length + totR L
theorem totR_nn : ∀ L : List (List Int), 0 ≤ totR L
  | [] => by simp [totR]
  | r :: L => by have := totR_nn L; simp only [totR]; omega
theorem totR_app : ∀ A B : List (List Int), totR (A ++ B) = totR A + totR B
  | [], B => by simp [totR]
  | r :: A, B => by simp only [List.cons_append, totR, totR_app A B]; omega
theorem totR_take (L : List (List Int)) (k : Nat) : totR (L.take k) ≤ totR L := by
  have := totR_app (L.take k) (L.drop k)
  rw [List.take_append_drop] at this
  have := totR_nn (L.drop k)
  omega
def mrk : Int → List (List Int) → List (List Int)
  | _, [] => []
  | k0, r :: L => marks k0 r.length :: mrk (k0 + r.length) L
theorem mrk_len : ∀ (k0 : Int) (L : List (List Int)), (mrk k0 L).length = L.length
  | _, [] => rfl
  | k0, r :: L => by simp [mrk, mrk_len]
theorem mrk_app : ∀ (k0 : Int) (A B : List (List Int)), mrk k0 (A ++ B) = mrk k0 A ++ mrk (k0 + totR A) B
  | k0, [], B => by simp [mrk, totR]
  | k0, r :: A, B => by simp only [List.cons_append, mrk, mrk_app (k0 + r.length) A B, totR, Int.add_assoc]
theorem take_getR {L : List (List Int)} {k : Int} (h0 : 0 ≤ k) (h1 : k < (L.length : Int)) : L.take (k + 1).toNat = L.take k.toNat ++ [getR .int L k] := by
  have h2 : (k + 1).toNat = k.toNat + 1 := by omega
  rw [h2, List.take_add_one, getR_get (t := .int) h0 h1]
  rfl
theorem drop_getR {L : List (List Int)} {k : Int} (h0 : 0 ≤ k) (h1 : k < (L.length : Int)) : L.drop k.toNat = getR .int L k :: L.drop (k + 1).toNat := by
  have h2 : (k + 1).toNat = k.toNat + 1 := by omega
  have hlt : k.toNat < L.length := by omega
  have h := getR_get (t := .int) h0 h1
  have e : L[k.toNat]'hlt = getR .int L k := (List.getElem?_eq_some_iff.1 h).2
  rw [List.drop_eq_getElem_cons hlt, h2]
  exact congrArg (· :: L.drop (k.toNat + 1)) e
theorem totR_next {L : List (List Int)} {k : Int} (h0 : 0 ≤ k) (h1 : k < (L.length : Int)) : totR (L.take (k + 1).toNat) = totR (L.take k.toNat) + ((getR .int L k).length : Int) := by
  rw [take_getR h0 h1, totR_app]; simp [totR]
/-- The rows, the first ones numbered. -/
def half (k0 : Int) (L : List (List Int)) (k : Int) : List (List Int) := mrk k0 (L.take k.toNat) ++ L.drop k.toNat
theorem half_len {k0 : Int} {L : List (List Int)} {k : Int} : (half k0 L k).length = L.length := by
  unfold half; rw [List.length_append, mrk_len, ← List.length_append, List.take_append_drop]
theorem half_get {k0 : Int} {L : List (List Int)} {k : Int} (h0 : 0 ≤ k) (h1 : k < (L.length : Int)) : getR .int (half k0 L k) k = getR .int L k := by
  have e : (half k0 L k)[k.toNat]? = L[k.toNat]? := by
    unfold half
    rw [List.getElem?_append_right (by rw [mrk_len, List.length_take]; omega), mrk_len, List.length_take, Nat.min_eq_left (by omega), Nat.sub_self, List.getElem?_drop]
    simp
  unfold getR
  rw [List.getD_eq_getElem?_getD, List.getD_eq_getElem?_getD, e]
theorem half_set {k0 : Int} {L : List (List Int)} {k : Int} (h0 : 0 ≤ k) (h1 : k < (L.length : Int)) : setI (half k0 L k) k (marks (k0 + totR (L.take k.toNat)) (getR .int L k).length) = half k0 L (k + 1) := by
  have hlt : k.toNat < L.length := by omega
  unfold half setI
  rw [List.set_append, if_neg (by rw [mrk_len, List.length_take]; omega), mrk_len, List.length_take, Nat.min_eq_left (by omega), Nat.sub_self, drop_getR h0 h1, List.set_cons_zero, take_getR h0 h1, mrk_app]
  simp [mrk]
theorem half_end {k0 : Int} {L : List (List Int)} {k : Int} (h : ¬ k < (L.length : Int)) : half k0 L k = mrk k0 L := by
  unfold half; rw [List.take_of_length_le (by omega), List.drop_of_length_le (by omega), List.append_nil]
theorem half_zero {k0 : Int} {L : List (List Int)} : half k0 L 0 = L := by simp [half, mrk]
theorem mrk_get {k0 : Int} {L : List (List Int)} {k : Int} (h0 : 0 ≤ k) (h1 : k < (L.length : Int)) : getI (.sl .int) (mrk k0 L) k = marks (k0 + totR (L.take k.toNat)) (getR .int L k).length := by
  have h2 := half_set (k0 := k0) h0 h1
  have e : (mrk k0 L)[k.toNat]? = some (marks (k0 + totR (L.take k.toNat)) (getR .int L k).length) := by
    have e1 : L = L.take k.toNat ++ (getR .int L k :: L.drop (k + 1).toNat) := by rw [← drop_getR h0 h1, List.take_append_drop]
    have e2 : mrk k0 L = mrk k0 (L.take k.toNat) ++ mrk (k0 + totR (L.take k.toNat)) (getR .int L k :: L.drop (k + 1).toNat) := by
      rw [← mrk_app, ← e1]
    rw [e2, List.getElem?_append_right (by rw [mrk_len, List.length_take]; omega), mrk_len, List.length_take, Nat.min_eq_left (by omega), Nat.sub_self]
    rfl
  unfold getI
  rw [List.getD_eq_getElem?_getD]
  exact (congrArg (fun o : Option (List Int) => o.getD (zden (.sl .int))) e)
theorem half_lt {k0 : Int} {L : List (List Int)} {k : Int} (h : k < ((half k0 L k).length : Int)) : k < (L.length : Int) := by rw [half_len] at h; exact h
theorem la_heldInts2 (l : List Int) (n : Nat) (k0 : Int) (h : l = marks k0 n) (h0 : 0 ≤ k0) (h1 : k0 ≤ 1000000000) (hl : n ≤ 1048576) : Spec2 Try.prog 21 [.sl .int fun _ => l, .int fun _ => k0] [] [.int fun _ => k0 + n] [] := by
  subst h; exact la_heldInts n k0 h0 h1 hl
theorem la_markRows (L : List (List Int)) (k0 : Int) (h0 : 0 ≤ k0) (h1 : k0 + totR L ≤ 1000000000) (hl : L.length ≤ 1048576) (hm : ∀ k : Int, 0 ≤ k → k < L.length → (getR .int L k).length ≤ 1048576) :
    Spec2 Try.prog 37 [.ref 0, .int fun _ => k0] [some (.rows 26 3 .int fun _ => L)] [.int fun _ => k0 + totR L] [some (.rows 26 3 .int fun _ => mrk k0 L)] := by
  refine fnS [0] [4] Try.func37 rfl (by decide) rfl (by decide) (by kernel_rfl) rfl (by simp [Try.ntmps37]) ?_
  cbv
  refine loopK (by kernel_rfl) (fun k : Int => 0 ≤ k ∧ k ≤ L.length) (fun k => ⟨mkT 19 [(0, .ref 0), (1, .int fun _ => k0 + totR (L.take k.toNat)), (5, .int fun _ => k)], [some (.rows 26 3 .int fun _ => half k0 L k)], 1⟩) (fun k => (L.length - k).toNat) (· + 1) 0 (by simp) ?_ ?_
  · cbv
    (simp only [IfP_iff, EqU_iff, Obl_iff, and_true, true_and, inI_iff, decide_eq_true_eq, decide_eq_false_iff_not]; (try simp only [natc, at2_0, at2_1]); (try dsimp only [Ty.den]); try simp only [natc] at *)
    simp [half_zero, totR]
  · intro k hk
    have h2 := half_set (k0 := k0) (L := L) (k := k)
    have h3 := half_len (k0 := k0) (L := L) (k := k)
    have h4 := half_end (k0 := k0) (L := L) (k := k)
    have h5 := totR_next (L := L) (k := k)
    have h6 := totR_take L k.toNat
    have h7 := totR_nn (L.take k.toNat)
    have h8 := take_all (l := L) (i := k)
    have h9 := totR_take L (k + 1).toNat
    cbv
    ((try simp only [IfP_iff, and_true, true_and, decide_eq_true_eq, decide_eq_false_iff_not]); (try simp only [natc, at2_0, at2_1]); (try dsimp only [Ty.den]); (try simp only [natc] at *); (repeat' (first | apply And.intro | intro _)))
    repeat' (first | (refine call_own 0 (Spec2.elem (t := .int) (e := 26) (i := k) (L := half k0 L k) (l := getR .int L k) rfl (by omega) (by assumption) (half_get hk.1 (half_lt (by assumption))) (la_markInts (getR .int L k) (k0 + totR (L.take k.toNat)) (by omega) (by have := half_lt (k0 := k0) (L := L) (k := k) (by assumption); omega) (hm k hk.1 (half_lt (by assumption))))) (by cbv) (by cbv; simp only [or_true, true_or, and_true]) ?_; cbv; ((try simp only [IfP_iff, and_true, true_and, decide_eq_true_eq, decide_eq_false_iff_not]); (try simp only [natc, at2_0, at2_1]); (try dsimp only [Ty.den]); (try simp only [natc] at *); (repeat' (first | apply And.intro | intro _)))))
    all_goals (try (simp only [IfP_iff, EqU_iff, Obl_iff, and_true, true_and, inI_iff, decide_eq_true_eq, decide_eq_false_iff_not]; (try simp only [natc, at2_0, at2_1]); (try dsimp only [Ty.den]); try simp only [natc] at *))
    all_goals ((repeat' (first | apply And.intro | intro _)) <;> first | omega | (simp only [List.length_append, List.length_cons, List.length_nil]; omega) | grind)
theorem la_heldRows (X L : List (List Int)) (k0 : Int) (hx : X = mrk k0 L) (h0 : 0 ≤ k0) (h1 : k0 + totR L ≤ 1000000000) (hl : L.length ≤ 1048576) (hm : ∀ k : Int, 0 ≤ k → k < L.length → (getR .int L k).length ≤ 1048576) :
    Spec2 Try.prog 38 [.sl (.sl .int) fun _ => X, .int fun _ => k0] [] [.int fun _ => k0 + totR L] [] := by
  refine fnS [] [4] Try.func38 rfl (by decide) rfl (by decide) (by kernel_rfl) rfl (by simp [Try.ntmps38]) ?_
  cbv
  have hX : X.length = L.length := by rw [hx, mrk_len]
  have hX2 : ∀ k : Int, k < (X.length : Int) → k < (L.length : Int) := fun k => by omega
  refine loopK (by kernel_rfl) (fun k : Int => 0 ≤ k ∧ k ≤ L.length) (fun k => ⟨mkT 21 [(0, .sl (.sl .int) fun _ => X), (1, .int fun _ => k0 + totR (L.take k.toNat)), (5, .int fun _ => k)], [], 0⟩) (fun k => (L.length - k).toNat) (· + 1) 0 (by simp) ?_ ?_
  · cbv
    (simp only [IfP_iff, EqU_iff, Obl_iff, and_true, true_and, inI_iff, decide_eq_true_eq, decide_eq_false_iff_not]; (try simp only [natc, at2_0, at2_1]); (try dsimp only [Ty.den]); try simp only [natc] at *)
    simp [totR]
  · intro k hk
    have h4 : 0 ≤ k → k < (L.length : Int) → getI (.sl .int) X k = marks (k0 + totR (L.take k.toNat)) (getR .int L k).length := fun a b => by rw [hx]; exact mrk_get a b
    have h5 := totR_next (L := L) (k := k)
    have h6 := totR_take L k.toNat
    have h7 := totR_nn (L.take k.toNat)
    have h8 := take_all (l := L) (i := k)
    have h9 := totR_take L (k + 1).toNat
    cbv
    ((try simp only [IfP_iff, and_true, true_and, decide_eq_true_eq, decide_eq_false_iff_not]); (try simp only [natc, at2_0, at2_1]); (try dsimp only [Ty.den]); (try simp only [natc] at *); (repeat' (first | apply And.intro | intro _)))
    repeat' (first | ((first | refine call_q (la_heldInts2 (getI (.sl .int) X k) (getR .int L k).length (k0 + totR (L.take k.toNat)) (h4 hk.1 (hX2 k (by assumption))) (by omega) (by have := hX2 k (by assumption); omega) (hm k hk.1 (hX2 k (by assumption)))) (by cbv) ?_ | refine call_pure (la_heldInts2 (getI (.sl .int) X k) (getR .int L k).length (k0 + totR (L.take k.toNat)) (h4 hk.1 (hX2 k (by assumption))) (by omega) (by have := hX2 k (by assumption); omega) (hm k hk.1 (hX2 k (by assumption)))) (by cbv) ?_); cbv; ((try simp only [IfP_iff, and_true, true_and, decide_eq_true_eq, decide_eq_false_iff_not]); (try simp only [natc, at2_0, at2_1]); (try dsimp only [Ty.den]); (try simp only [natc] at *); (repeat' (first | apply And.intro | intro _)))))
    all_goals (try (simp only [IfP_iff, EqU_iff, Obl_iff, and_true, true_and, inI_iff, decide_eq_true_eq, decide_eq_false_iff_not]; (try simp only [natc, at2_0, at2_1]); (try dsimp only [Ty.den]); try simp only [natc] at *))
    all_goals ((repeat' (first | apply And.intro | intro _)) <;> first | omega | (simp only [List.length_append, List.length_cons, List.length_nil]; omega) | grind)
theorem la_sameRows (X Y : List (List Int)) (he : X = Y) (hl : X.length ≤ 1048576) (hm : ∀ k : Int, 0 ≤ k → k < X.length → (getR .int X k).length ≤ 1048576) :
    Spec2 Try.prog 36 [.sl (.sl .int) fun _ => X, .sl (.sl .int) fun _ => Y] [] [.bool fun _ => true] [] := by
  subst he
  refine fnS [] [4] Try.func36 rfl (by decide) rfl (by decide) (by kernel_rfl) rfl (by simp [Try.ntmps36]) ?_
  cbv
  ((try simp only [IfP_iff, and_true, true_and, decide_eq_true_eq, decide_eq_false_iff_not]); (try simp only [natc, at2_0, at2_1]); (try dsimp only [Ty.den]); (try simp only [natc] at *); (repeat' (first | apply And.intro | intro _)))
  · (simp only [IfP_iff, EqU_iff, Obl_iff, and_true, true_and, inI_iff, decide_eq_true_eq, decide_eq_false_iff_not]; (try simp only [natc, at2_0, at2_1]); (try dsimp only [Ty.den]); try simp only [natc] at *)
    grind
  refine loopK (by kernel_rfl) (fun k : Int => 0 ≤ k ∧ k ≤ X.length) (fun k => ⟨mkT 27 [(0, .sl (.sl .int) fun _ => X), (1, .sl (.sl .int) fun _ => X), (5, .int fun _ => k)], [], 0⟩) (fun k => (X.length - k).toNat) (· + 1) 0 (by simp) ?_ ?_
  · cbv
    (simp only [IfP_iff, EqU_iff, Obl_iff, and_true, true_and, inI_iff, decide_eq_true_eq, decide_eq_false_iff_not]; (try simp only [natc, at2_0, at2_1]); (try dsimp only [Ty.den]); try simp only [natc] at *)
  · intro k hk
    cbv
    ((try simp only [IfP_iff, and_true, true_and, decide_eq_true_eq, decide_eq_false_iff_not]); (try simp only [natc, at2_0, at2_1]); (try dsimp only [Ty.den]); (try simp only [natc] at *); (repeat' (first | apply And.intro | intro _)))
    repeat' (first | ((first | refine call_q (la_eqInts (getI (.sl .int) X k) (getI (.sl .int) X k) (hm k hk.1 (by assumption))) (by cbv) ?_ | refine call_pure (la_eqInts (getI (.sl .int) X k) (getI (.sl .int) X k) (hm k hk.1 (by assumption))) (by cbv) ?_); cbv; ((try simp only [IfP_iff, and_true, true_and, decide_eq_true_eq, decide_eq_false_iff_not]); (try simp only [natc, at2_0, at2_1]); (try dsimp only [Ty.den]); (try simp only [natc] at *); (repeat' (first | apply And.intro | intro _)))))
    all_goals (try (simp only [IfP_iff, EqU_iff, Obl_iff, and_true, true_and, inI_iff, decide_eq_true_eq, decide_eq_false_iff_not]; (try simp only [natc, at2_0, at2_1]); (try dsimp only [Ty.den]); try simp only [natc] at *))
    all_goals ((repeat' (first | apply And.intro | intro _)) <;> first | omega | (simp only [List.length_append, List.length_cons, List.length_nil]; omega) | grind)
/-- Pairs, numbered. -/
def marksP (k0 : Int) (n : Nat) : List (Int × Int) := (List.range n).map fun i : Nat => (k0 + 2 * (i : Int), k0 + 2 * (i : Int) + 1)
theorem marksP_len (k0 : Int) (n : Nat) : (marksP k0 n).length = n := by simp [marksP]
theorem marksP_flat (k0 : Int) (n : Nat) : flat2 (marksP k0 n) = vals (marksI k0 (n * 2)) := by
  induction n with
  | zero => rfl
  | succ n ih =>
    have e1 : marksP k0 (n + 1) = marksP k0 n ++ [(k0 + 2 * (n : Int), k0 + 2 * (n : Int) + 1)] := by simp [marksP, List.range_succ]
    have e2 : marksI k0 ((n + 1) * 2) = marksI k0 (n * 2) ++ [k0 + 2 * (n : Int), k0 + 2 * (n : Int) + 1] := by
      rw [show (n + 1) * 2 = n * 2 + 1 + 1 by omega]
      simp only [marksI, List.range_succ, List.map_append, List.map_cons, List.map_nil, List.append_assoc, List.cons_append, List.nil_append]
      congr 2
      · omega
      · congr 1; omega
    rw [e1, e2]
    have e3 : ∀ (a b : List (Int × Int)), flat2 (a ++ b) = flat2 a ++ flat2 b := fun a b => by simp [flat2]
    have e4 : ∀ (a b : List Int), vals (a ++ b) = vals a ++ vals b := fun a b => by simp [vals]
    rw [e3, e4, ih]
    rfl
theorem la_markPairs (l : List (Int × Int)) (k0 : Int) (h0 : 0 ≤ k0) (h1 : k0 ≤ 1000000000) (hl : l.length ≤ 1048576) : Spec2 Try.prog 56 [.ref 0, .int fun _ => k0] [some (.row 79 (.pr .int .int) fun _ => l)] [.int fun _ => k0 + l.length * 2] [some (.row 79 (.pr .int .int) fun _ => marksP k0 l.length)] := by
  refine ⟨by kernel_rfl, by simp, fun w val vs hH hv => ?_⟩
  match vs, hv with
  | [v, u], hv =>
  simp only [VRelL, VRel, and_true] at hv
  obtain ⟨⟨_, rfl⟩, rfl⟩ := hv
  obtain ⟨xs, k1, k2, k3⟩ := hH.blk 0 _ rfl
  have hxs := pairs_repL k2
  subst hxs
  have ho : OwnPairs 0 (val 0).v l w := k1
  refine (markPairs w 0 (val 0).v l k0 h0 (by omega) ho (by omega)).mono ?_
  rintro e w' ⟨rfl, hm, hg⟩
  refine ⟨_, val, rfl, ?_, ⟨fun m B hB => ?_, fun m B hB g hg' => ?_, fun m k B C hne hB hC => ?_⟩, fun m B hB g hg' => ?_, fun m hm => rfl, ?_⟩
  · rw [own_as k1] at hg
    exact ⟨hg.os, hg.tape, hg.output, hg.size, fun b hb hp => hg.block b hb fun e => hp ⟨0, _, rfl, by rw [k3, ← e]; simp⟩⟩
  · cases m with
    | succ m => simp at hB
    | zero =>
      cases hB
      refine ⟨flat2 (marksP k0 l.length), ?_, repL_pairs, k3⟩
      rw [marksP_flat]
      show w'.ownsRow 0 _ 2 (val 0).v (marksP k0 l.length).length _
      rw [marksP_len]
      exact hm
  · cases m with
    | succ m => simp at hB
    | zero => exact Nat.lt_of_lt_of_le (hH.lt 0 _ rfl g hg') hg.size
  · cases m with
    | succ m => simp at hB
    | zero => cases k with
      | succ k => simp at hC
      | zero => exact (hne rfl).elim
  · cases m with
    | succ m => simp at hB
    | zero => exact .inr ⟨0, _, rfl, hg'⟩
  · show VRel _ _ _ _ _ _
    simp only [VRel]
theorem la_szSpace (L : List (List Int)) (l : List (Int × Int)) (k : Int) (h0 : 0 ≤ k) (h1 : k ≤ 1048576) : Spec2 Try.prog 22 [.agg (.pr (.sl (.sl .int)) (.sl (.pr .int .int))) fun _ => (L, l), .int fun _ => k] [] [.int fun _ => Abs.spaceLeft L l k] [] :=
  toSpec2 (Abs.law_szSpace (L, l) k h0 h1) rfl fun ok w val v h => iInt ok w val v h
theorem la_eqSpace (L : List (List Int)) (l : List (Int × Int)) : Spec2 Try.prog 26 [.agg (.pr (.sl (.sl .int)) (.sl (.pr .int .int))) fun _ => (L, l), .agg (.pr (.sl (.sl .int)) (.sl (.pr .int .int))) fun _ => (L, l)] [] [.bool fun _ => true] [] :=
  toSpec2 (Abs.law_eqSpace (L, l)) rfl fun ok w val v h => iBool ok w val v h
end Go.Proofs.Ytemdajfcfmefnaa.M
/- A Space is copied; its numbers are changed. -/
namespace Go.Proofs.Ytemdajfcfmefnaa.M
open Go.RowKit Abs
set_option linter.unusedSimpArgs false
set_option linter.unusedVariables false
set_option maxRecDepth 100000
set_option maxHeartbeats 4000000
theorem repL_ints {ok : Nat → Prop} {w : World} {l : List Int} : RepL ok w .int l (vals l) :=
  ⟨by simp [vals, Ty.n], fun i y hy => by
    unfold Rep
    show ((vals l).drop (i * 1)).take 1 = _
    have hlt := (List.getElem?_eq_some_iff.1 hy)
    have h2 : (vals l)[i]? = some (.int .i64 y) := by unfold vals; rw [List.getElem?_map, hy]; rfl
    obtain ⟨h3, h4⟩ := List.getElem?_eq_some_iff.1 h2
    rw [Nat.mul_one, List.drop_eq_getElem_cons h3, h4]; rfl⟩
theorem la_toSpace (L : List (List Int)) (l : List (Int × Int)) (hL : L.length ≤ 1048576) (hm : ∀ s ∈ L, s.length ≤ 1048576) (hl : l.length ≤ 1048576) :
    Spec2 Try.prog 24 [.agg (.pr (.sl (.sl .int)) (.sl (.pr .int .int))) fun _ => (L, l)] [] [.cells [.ref 0, .ref 1]] [some (.rows 26 3 .int fun _ => L), some (.row 79 (.pr .int .int) fun _ => l)] := by
  refine ⟨by kernel_rfl, by simp, fun w val vs hH hv => ?_⟩
  match vs, hv with
  | [v], hv =>
  simp only [VRelL, and_true] at hv
  have ha : Abs.ArgRel w (.agg (.pr (.sl (.sl .int)) (.sl (.pr .int .int))) (L, l)) v := ofA_arg rfl hv
  obtain ⟨a, cap, a', cap', rfl, h2, h3, h4, h5, h6⟩ := Abs.arg_space ha
  refine (toSpace w a L cap a' l cap' h2 h3 hL hm hl).mono ?_
  rintro e w' ⟨v, s, M, rfl, ho, hp, hM, hb⟩
  obtain ⟨g, rs, hvv, hg0, hgM, hown, hrows, hrM⟩ := ho
  have hvb : ownB v = some g := by rw [hvv]; rfl
  obtain ⟨hlen, hr1, hr2⟩ := hrows
  have hob : ∀ (i : Nat) (h : Value), rs[i]? = some h → h.ownBlock = ownB h := fun i h hi => by
    obtain ⟨r, hr⟩ : ∃ r, L[i]? = some r := ⟨_, List.getElem?_eq_getElem (by rw [← hlen]; exact (List.getElem?_eq_some_iff.1 hi).1)⟩
    exact own_as (hr1 i h r hi hr)
  have hbase : ∀ (i : Nat) (h : Value) (b : Nat), rs[i]? = some h → ownB h = some b → g + 1 ≤ b ∧ b < M := fun i h b hi hbb => by
    obtain ⟨r, hr⟩ : ∃ r, L[i]? = some r := ⟨_, List.getElem?_eq_getElem (by rw [← hlen]; exact (List.getElem?_eq_some_iff.1 hi).1)⟩
    exact ⟨Abs.own_blk (hr1 i h r hi hr) b hbb, hrM i h b hi (by rw [hob i h hi]; exact hbb)⟩
  have hsM : ∀ b, ownB s = some b → M ≤ b := fun b hbb => Abs.own_blk hp b hbb
  have hMw : g < w'.heap.size := own_size hown g hvb
  have hF : ∀ b, b ∈ (g :: rs.filterMap ownB) ↔ ownB v = some b ∨ ∃ h ∈ rs, ownB h = some b := fun b => by
    rw [hvb]
    simp only [List.mem_cons, List.mem_filterMap, Option.some.injEq]
    constructor
    · rintro (rfl | h)
      · exact .inl rfl
      · exact .inr h
    · rintro (rfl | h)
      · exact .inl rfl
      · exact .inr h
  have hFin : ∀ b, b ∈ (g :: rs.filterMap ownB) → w.heap.size ≤ b ∧ b < M ∧ b < w'.heap.size := fun b hbm => by
    rcases (hF b).1 hbm with h | ⟨h, hh, hbb⟩
    · rw [hvb] at h; cases h; exact ⟨hg0, hgM, hMw⟩
    · obtain ⟨i, hi⟩ := List.mem_iff_getElem?.1 hh
      have := hbase i h b hi hbb
      obtain ⟨r, hr⟩ : ∃ r, L[i]? = some r := ⟨_, List.getElem?_eq_getElem (by rw [← hlen]; exact (List.getElem?_eq_some_iff.1 hi).1)⟩
      exact ⟨by omega, this.2, own_size (hr1 i h r hi hr) b hbb⟩
  refine ⟨_, fun n => if n = 0 then ⟨v, rs, g :: rs.filterMap ownB⟩ else ⟨s, [], (ownB s).toList⟩, rfl, ⟨hb.os, hb.tape, hb.output, hb.size, fun b hb' _ => hb.block b hb'⟩, ⟨fun m B hB => ?_, fun m B hB b hbm => ?_, fun m k B C hne hB hC b hbm hbk => ?_⟩, fun m B hB b hbm => ?_, fun m hm => by simp at hm, ?_⟩
  · match m, hB with
    | 0, hB =>
      cases hB
      refine ⟨own_le hown (Nat.zero_le _), fun i y hi => ?_, hF, fun i j h h' b hi hj hb1 hb2 => ?_, fun h hh b hb1 hb2 => ?_⟩
      · obtain ⟨h, hi'⟩ : ∃ h, rs[i]? = some h := ⟨_, List.getElem?_eq_getElem (by rw [hlen]; exact (List.getElem?_eq_some_iff.1 hi).1)⟩
        exact ⟨h, vals y, hi', own_le (hr1 i h y hi' hi) (Nat.zero_le _), repL_ints⟩
      · rcases Nat.lt_trichotomy i j with hij | hij | hij
        · exact (hr2 i j h h' b hi hj hij (by rw [hob i h hi]; exact hb1) (by rw [hob j h' hj]; exact hb2)).elim
        · exact hij
        · exact (hr2 j i h' h b hj hi hij (by rw [hob j h' hj]; exact hb2) (by rw [hob i h hi]; exact hb1)).elim
      · obtain ⟨i, hi⟩ := List.mem_iff_getElem?.1 hh
        have := (hbase i h b hi hb1).1
        have hb3 : ownB v = some b := hb2
        rw [hvb] at hb3
        cases hb3
        omega
    | 1, hB => cases hB; exact ⟨flat2 l, own_le hp (Nat.zero_le _), repL_pairs, rfl⟩
    | m + 2, hB => simp at hB
  · match m, hB with
    | 0, hB => exact (hFin b hbm).2.2
    | 1, hB => exact own_size hp b (by simpa using hbm)
    | m + 2, hB => simp at hB
  · have key : ∀ b, b ∈ (g :: rs.filterMap ownB) → b ∈ (ownB s).toList → False := fun b h1 h2 => by
      have := (hFin b h1).2.1
      have := hsM b (by simpa using h2)
      omega
    match m, k, hB, hC with
    | 0, 0, _, _ => exact hne rfl
    | 0, 1, _, _ => exact key b hbm hbk
    | 1, 0, _, _ => exact key b hbk hbm
    | 1, 1, _, _ => exact hne rfl
    | m + 2, _, hB, _ => simp at hB
    | 0, k + 2, _, hC => simp at hC
    | 1, k + 2, _, hC => simp at hC
  · match m, hB with
    | 0, hB => exact .inl (hFin b hbm).1
    | 1, hB => exact .inl (by have := hsM b (by simpa using hbm); omega)
    | m + 2, hB => simp at hB
  · show VRel _ _ _ _ _ _
    simp only [VRel]
    refine ⟨[v, s], rfl, by simp [VRelL, VRel], fun u hu => ?_⟩
    rcases List.mem_cons.1 hu with rfl | hu
    · rw [hvv]; rfl
    · simp only [List.mem_singleton] at hu
      subst hu
      exact Rep.one (Abs.own_pairs hp) _ (by simp)
theorem la_markSpace (L : List (List Int)) (l : List (Int × Int)) (k0 : Int) (h0 : 0 ≤ k0) (h1 : k0 + totR L ≤ 1000000000) (hL : L.length ≤ 1048576) (hm : ∀ k : Int, 0 ≤ k → k < L.length → (getR .int L k).length ≤ 1048576) (hl : l.length ≤ 1048576) :
    Spec2 Try.prog 27 [.cells [.ref 0, .ref 1], .int fun _ => k0] [some (.rows 26 3 .int fun _ => L), some (.row 79 (.pr .int .int) fun _ => l)] [.int fun _ => k0 + totR L + l.length * 2] [some (.rows 26 3 .int fun _ => mrk k0 L), some (.row 79 (.pr .int .int) fun _ => marksP (k0 + totR L) l.length)] := by
  have ht := totR_nn L
  refine fnS [0, 1] [4] Try.func27 rfl (by decide) rfl (by decide) (by kernel_rfl) rfl (by simp [Try.ntmps27]) ?_
  cbv
  (refine call_own 0 (la_markRows L k0 h0 h1 hL hm) (by cbv) (by cbv; simp only [or_true, true_or, and_true]) ?_; cbv; ((try simp only [IfP_iff, and_true, true_and, decide_eq_true_eq, decide_eq_false_iff_not]); (try simp only [natc, at2_0, at2_1]); (try dsimp only [Ty.den]); (try simp only [natc] at *); (repeat' (first | apply And.intro | intro _))))
  (refine call_own 1 (la_markPairs l (k0 + totR L) (by omega) h1 hl) (by cbv) (by cbv; simp only [or_true, true_or, and_true]) ?_; cbv; ((try simp only [IfP_iff, and_true, true_and, decide_eq_true_eq, decide_eq_false_iff_not]); (try simp only [natc, at2_0, at2_1]); (try dsimp only [Ty.den]); (try simp only [natc] at *); (repeat' (first | apply And.intro | intro _))))
  all_goals (try (simp only [IfP_iff, EqU_iff, Obl_iff, and_true, true_and, inI_iff, decide_eq_true_eq, decide_eq_false_iff_not]; (try simp only [natc, at2_0, at2_1]); (try dsimp only [Ty.den]); try simp only [natc] at *))
end Go.Proofs.Ytemdajfcfmefnaa.M
/- What the laws' walks need besides. -/
namespace Go.Proofs.Ytemdajfcfmefnaa.M
open Go.RowKit Abs
set_option linter.unusedSimpArgs false
set_option linter.unusedVariables false
set_option maxRecDepth 100000
set_option maxHeartbeats 4000000
theorem rowsLeft_tot : ∀ {l : List (List Int)} {r : Int}, 0 ≤ r → 0 ≤ Abs.rowsLeft l r → Abs.rowsLeft l r + totR l ≤ r
  | [], r, h, _ => by simp [Abs.rowsLeft, totR]
  | x :: l, r, h, h2 => by
    unfold Abs.rowsLeft at h2 ⊢
    by_cases hx : (x.length : Int) ≤ r
    · rw [if_pos hx] at h2 ⊢
      have := rowsLeft_tot (l := l) (r := r - x.length) (by omega) h2
      simp only [totR]
      omega
    · rw [if_neg hx] at h2; omega
theorem spaceLeft_tot {L : List (List Int)} {l : List (Int × Int)} {k : Int} (h : 0 ≤ k) (h2 : 0 ≤ Abs.spaceLeft L l k) : Abs.spaceLeft L l k ≤ k ∧ (L.length : Int) + totR L + l.length ≤ k := by
  have h3 := totR_nn L
  unfold Abs.spaceLeft at h2 ⊢
  split at h2
  · omega
  · rename_i hg
    rw [if_neg hg]
    split at h2
    · rename_i hm
      rw [if_pos hm]
      unfold Abs.gridLeft at *
      by_cases hx : (L.length : Int) ≤ k
      · rw [if_pos hx] at *
        have := rowsLeft_tot (l := L) (r := k - L.length) (by omega) (by omega)
        omega
      · rw [if_neg hx] at *; omega
    · omega
theorem getR_mem {L : List (List Int)} {k : Int} (h0 : 0 ≤ k) (h1 : k < (L.length : Int)) : getR .int L k ∈ L := List.mem_of_getElem? (getR_get (t := .int) h0 h1)
theorem la_same (x : List Int) (hx : x.length ≤ 1048576) : Spec2 Try.prog 17 [.sl .int fun _ => x, .sl .int fun _ => x] [] [.bool fun _ => true] [] := by
  have h := la_eqInts x x hx
  simp only [decide_true] at h
  exact h
end Go.Proofs.Ytemdajfcfmefnaa.M

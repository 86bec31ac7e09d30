/- The spec side of neighbours. -/
import Derived.Test.YtbkdmnohpjihgaaMu
namespace Go.Proofs.Ytbkdmnohpjihgaa.M
open Go.RowKit Abs
set_option linter.unusedSimpArgs false
set_option maxRecDepth 100000
abbrev TP : Ty := .pr .int .int
def hit (a b : Int) (e : Int × Int) : Bool := e.1 == a && e.2 == b || e.1 == b && e.2 == a
def nearB (m : List (Int × Int)) (a b : Int) : Bool := m.any (hit a b)
theorem near_hit {m : List (Int × Int)} {a b k : Int} (h0 : 0 ≤ k) (h1 : k < (m.length : Int)) (h : hit a b (getI TP m k) = true) : nearB m a b = true :=
  List.any_eq_true.2 ⟨_, List.mem_of_getElem? (getI_get (t := TP) h0 h1), h⟩
theorem near_next {m : List (Int × Int)} {a b k : Int} (h0 : 0 ≤ k) (h1 : k < (m.length : Int)) : nearB (m.take (k + 1).toNat) a b = (nearB (m.take k.toNat) a b || hit a b (getI TP m k)) := by
  unfold nearB
  rw [take_getI (t := TP) h0 h1, List.any_append]
  simp
theorem sp_in (a b c : Int) : Spec2 Try.prog 56 [.int fun _ => a, .int fun _ => b, .int fun _ => c] [] [.bool fun _ => decide (b ≤ a) && decide (a ≤ c)] [] := by
  refine fnS [] [6] Try.func56 rfl (by decide) rfl (by decide) (by kernel_rfl) rfl (by simp [Try.ntmps56]) ?_
  cbv
  simp only [IfP_iff, EqU_iff, Obl_iff, and_true, true_and, inI_iff, decide_eq_true_eq, decide_eq_false_iff_not]
  grind
theorem sp_near (n : Int) (l : List (Int × Int)) (a b : Int) (hl : l.length ≤ 1048576) : Spec2 Try.prog 94 [.agg (.pr .int (.sl (.pr .int .int))) fun _ => (n, l), .int fun _ => a, .int fun _ => b] [] [.bool fun _ => nearB l a b] [] := by
  refine fnS [] [6] Try.func94 rfl (by decide) rfl (by decide) (by kernel_rfl) rfl (by simp [Try.ntmps94]) ?_
  cbv
  refine loopK (by kernel_rfl) (fun k : Int => 0 ≤ k ∧ k ≤ l.length ∧ nearB (l.take k.toNat) a b = false) (fun k => ⟨mkT 43 [(1, .int fun _ => a), (2, .int fun _ => b), (3, .ptr 0 0), (7, .int fun _ => k)], [some (.box 29 [.int fun _ => n, .sl (.pr .int .int) fun _ => l])], 0⟩) (fun k => (l.length - k).toNat) (· + 1) 0 (by simp [nearB]) ?_ ?_
  · cbv
    simp only [IfP_iff, EqU_iff, Obl_iff, and_true, true_and, inI_iff, decide_eq_true_eq, decide_eq_false_iff_not]
  · intro k hk
    cbv
    simp only [IfP_iff, EqU_iff, Obl_iff, and_true, true_and, inI_iff, decide_eq_true_eq, decide_eq_false_iff_not]
    have h1 := near_hit (m := l) (a := a) (b := b) (k := k)
    have h2 := near_next (m := l) (a := a) (b := b) (k := k)
    have h3 := take_all (l := l) (i := k)
    simp only [hit] at h1 h2
    (repeat' (first | apply And.intro | intro _)) <;> first | omega | grind
def nbrs (m : List (Int × Int)) (v : Int) (k : Nat) : List Int := ((List.range k).map Int.ofNat).filter (nearB m v)
theorem nbrs_next {m : List (Int × Int)} {v k : Int} (h0 : 0 ≤ k) : nbrs m v (k + 1).toNat = nbrs m v k.toNat ++ if nearB m v k = true then [k] else [] := by
  have h2 : (k + 1).toNat = k.toNat + 1 := by omega
  have h3 : Int.ofNat k.toNat = k := by simp; omega
  unfold nbrs
  rw [h2, List.range_succ, List.map_append, List.filter_append, List.map_cons, List.map_nil, h3]
  simp [List.filter]
  split <;> simp_all
theorem nbrs_len {m : List (Int × Int)} {v k : Int} (h0 : 0 ≤ k) : ((nbrs m v k.toNat).length : Int) ≤ k := by
  have := List.length_filter_le (nearB m v) ((List.range k.toNat).map Int.ofNat)
  simp only [List.length_map, List.length_range] at this
  unfold nbrs
  omega
theorem sp_neighbors (n : Int) (l : List (Int × Int)) (v : Int) (hn : n ≤ 1048576) (hl : l.length ≤ 1048576) : Spec2 Try.prog 57 [.agg (.pr .int (.sl (.pr .int .int))) fun _ => (n, l), .int fun _ => v] [] [.ref 0] [some (.row 3 .int fun _ => nbrs l v n.toNat)] := by
  refine fnS [1] [4] Try.func57 rfl (by decide) rfl (by decide) (by kernel_rfl) rfl (by simp [Try.ntmps57]) ?_
  cbv
  refine loopK (by kernel_rfl) (fun k : Int => 0 ≤ k ∧ (k ≤ n ∨ k = 0)) (fun k => ⟨mkT 23 [(1, .int fun _ => v), (2, .ptr 0 0), (5, .ref 1), (6, .int fun _ => k)], [some (.box 29 [.int fun _ => n, .sl (.pr .int .int) fun _ => l]), some (.row 3 .int fun _ => nbrs l v k.toNat)], 0⟩) (fun k => (n - k).toNat) (· + 1) 0 (by simp) ?_ ?_
  · cbv
    simp only [IfP_iff, EqU_iff, Obl_iff, and_true, true_and, inI_iff, decide_eq_true_eq, decide_eq_false_iff_not]
    simp [nbrs]
  · intro k hk
    cbv
    have h2 := nbrs_next (m := l) (v := v) (k := k)
    have h3 := nbrs_len (m := l) (v := v) (k := k)
    ((try simp only [IfP_iff, and_true, true_and, decide_eq_true_eq, decide_eq_false_iff_not]); (repeat' (first | apply And.intro | intro _)))
    · refine call_pure (sp_near n l v k hl) (by cbv) ?_
      cbv
      ((try simp only [IfP_iff, EqU_iff, Obl_iff, and_true, true_and, inI_iff, decide_eq_true_eq, decide_eq_false_iff_not]); (repeat' (first | apply And.intro | intro _)) <;> first | omega | grind)
    · simp only [IfP_iff, EqU_iff, Obl_iff, and_true, true_and, inI_iff, decide_eq_true_eq, decide_eq_false_iff_not]
      grind
def edgeLt (p q : Int × Int) : Bool := decide (p.1 < q.1) || decide (p.1 = q.1) && decide (p.2 < q.2)
theorem sp_edge (p q : Int × Int) : Spec2 Try.prog 108 [.agg (.pr .int .int) fun _ => p, .agg (.pr .int .int) fun _ => q] [] [.bool fun _ => edgeLt p q] [] := by
  refine fnS [] [4] Try.func108 rfl (by decide) rfl (by decide) (by kernel_rfl) rfl (by simp [Try.ntmps108]) ?_
  cbv
  simp only [IfP_iff, EqU_iff, Obl_iff, and_true, true_and, inI_iff, decide_eq_true_eq, decide_eq_false_iff_not]
  unfold edgeLt
  ((try simp only [IfP_iff, EqU_iff, Obl_iff, and_true, true_and, inI_iff, decide_eq_true_eq, decide_eq_false_iff_not]); (repeat' (first | apply And.intro | intro _)) <;> first | omega | grind)
/-- The pair at this place is good. -/
def goodI (l : List (Int × Int)) (n k : Int) : Bool := decide (0 ≤ (getI (.pr .int .int) l k).1) && decide ((getI (.pr .int .int) l k).1 < (getI (.pr .int .int) l k).2) && decide ((getI (.pr .int .int) l k).2 < n) && (decide (k ≤ 0) || edgeLt (getI (.pr .int .int) l (k - 1)) (getI (.pr .int .int) l k))
def pairsOk (l : List (Int × Int)) (n : Int) : Bool := (List.range l.length).all fun k => goodI l n k
theorem pairs_bad {l : List (Int × Int)} {n k : Int} (h0 : 0 ≤ k) (h1 : k < (l.length : Int)) (h : goodI l n k = false) : pairsOk l n = false := by
  unfold pairsOk
  rw [List.all_eq_false]
  exact ⟨k.toNat, by simp; omega, by rw [show ((k.toNat : Nat) : Int) = k by omega, h]; simp⟩
theorem pairs_good {l : List (Int × Int)} {n : Int} (h : ∀ k : Int, 0 ≤ k → k < (l.length : Int) → goodI l n k = true) : pairsOk l n = true := by
  unfold pairsOk
  rw [List.all_eq_true]
  intro k hk
  exact h k (by omega) (by simp at hk; omega)
theorem sp_pairs (l : List (Int × Int)) (n : Int) (h0 : -1000000000 ≤ n) (h1 : n ≤ 1000000000) (hl : l.length ≤ 1048576) : Spec2 Try.prog 93 [.sl (.pr .int .int) fun _ => l, .int fun _ => n] [] [.bool fun _ => pairsOk l n] [] := by
  refine fnS [] [4] Try.func93 rfl (by decide) rfl (by decide) (by kernel_rfl) rfl (by simp [Try.ntmps93]) ?_
  cbv
  refine loopK (by kernel_rfl) (fun k : Int => 0 ≤ k ∧ k ≤ l.length ∧ ∀ j : Int, 0 ≤ j → j < k → goodI l n j = true) (fun k => ⟨mkT 52 [(0, .sl (.pr .int .int) fun _ => l), (1, .int fun _ => n), (5, .int fun _ => k)], [], 0⟩) (fun k => (l.length - k).toNat) (· + 1) 0 (by grind) ?_ ?_
  · cbv
    try simp only [IfP_iff, EqU_iff, Obl_iff, and_true, true_and, inI_iff, decide_eq_true_eq, decide_eq_false_iff_not]
  · intro k hk
    have h2 := pairs_bad (l := l) (n := n) (k := k)
    have h3 := pairs_good (l := l) (n := n)
    have h4 : goodI l n k = true → ∀ j : Int, 0 ≤ j → j < k + 1 → goodI l n j = true := fun h j h1 h2 => by
      by_cases hj : j = k
      · rw [hj]; exact h
      · exact hk.2.2 j h1 (by omega)
    have h5 : goodI l n k = _ := rfl
    conv at h5 => rhs; unfold goodI
    cbv
    ((try simp only [IfP_iff, and_true, true_and, decide_eq_true_eq, decide_eq_false_iff_not]); (repeat' (first | apply And.intro | intro _)))
    repeat' (first | ((first | refine call_q (sp_in _ _ _) (by cbv) ?_ | refine call_pure (sp_in _ _ _) (by cbv) ?_); cbv; ((try simp only [IfP_iff, and_true, true_and, decide_eq_true_eq, decide_eq_false_iff_not]); (repeat' (first | apply And.intro | intro _)))) | ((first | refine call_q (sp_edge _ _) (by cbv) ?_ | refine call_pure (sp_edge _ _) (by cbv) ?_); cbv; ((try simp only [IfP_iff, and_true, true_and, decide_eq_true_eq, decide_eq_false_iff_not]); (repeat' (first | apply And.intro | intro _)))))
    all_goals (try simp only [IfP_iff, EqU_iff, Obl_iff, and_true, true_and, inI_iff, decide_eq_true_eq, decide_eq_false_iff_not])
    all_goals ((repeat' (first | apply And.intro | intro _)) <;> first | omega | grind)
def graphOk (n : Int) (l : List (Int × Int)) : Bool := decide (0 ≤ n) && decide (n ≤ 8) && pairsOk l n
theorem sp_good (n : Int) (l : List (Int × Int)) (hl : l.length ≤ 1048576) : Spec2 Try.prog 55 [.agg (.pr .int (.sl (.pr .int .int))) fun _ => (n, l)] [] [.bool fun _ => graphOk n l] [] := by
  refine fnS [] [2] Try.func55 rfl (by decide) rfl (by decide) (by kernel_rfl) rfl (by simp [Try.ntmps55]) ?_
  cbv
  ((try simp only [IfP_iff, and_true, true_and, decide_eq_true_eq, decide_eq_false_iff_not]); (repeat' (first | apply And.intro | intro _)))
  ((first | refine call_q (sp_in _ _ _) (by cbv) ?_ | refine call_pure (sp_in _ _ _) (by cbv) ?_); cbv; ((try simp only [IfP_iff, and_true, true_and, decide_eq_true_eq, decide_eq_false_iff_not]); (repeat' (first | apply And.intro | intro _))))
  · rename_i h
    simp only [Bool.and_eq_true, decide_eq_true_eq] at h
    ((first | refine call_q (sp_pairs _ _ (by omega) (by omega) hl) (by cbv) ?_ | refine call_pure (sp_pairs _ _ (by omega) (by omega) hl) (by cbv) ?_); cbv; ((try simp only [IfP_iff, and_true, true_and, decide_eq_true_eq, decide_eq_false_iff_not]); (repeat' (first | apply And.intro | intro _))))
    simp only [IfP_iff, EqU_iff, Obl_iff, and_true, true_and, inI_iff, decide_eq_true_eq, decide_eq_false_iff_not]
    simp [graphOk, h]
  · simp only [IfP_iff, EqU_iff, Obl_iff, and_true, true_and, inI_iff, decide_eq_true_eq, decide_eq_false_iff_not]
    rename_i h
    simp only [graphOk, h]
    rfl
def okN (n : Int) (l : List (Int × Int)) (v : Int) : Bool := graphOk n l && (decide (0 ≤ v) && decide (v < n))
theorem sp_nbrsOf (n : Int) (l : List (Int × Int)) (v : Int) (hl : l.length ≤ 1048576) : Spec2 Try.prog 16 [.agg (.pr .int (.sl (.pr .int .int))) fun _ => (n, l), .int fun _ => v] [] [.ref 0, .bool fun _ => okN n l v] [some (.row 3 .int fun _ => if okN n l v = true then nbrs l v n.toNat else [])] := by
  refine fnS [1] [4, 5] Try.func16 rfl (by decide) rfl (by decide) (by kernel_rfl) rfl (by simp [Try.ntmps16]) ?_
  cbv
  ((try simp only [IfP_iff, and_true, true_and, decide_eq_true_eq, decide_eq_false_iff_not]); (repeat' (first | apply And.intro | intro _)))
  have h1 : graphOk n l = true → 0 ≤ n ∧ n ≤ 8 := by simp [graphOk]; omega
  have h2 : okN n l v = (graphOk n l && (decide (0 ≤ v) && decide (v < n))) := rfl
  repeat' (first | ((first | refine call_q (sp_good _ _ hl) (by cbv) ?_ | refine call_pure (sp_good _ _ hl) (by cbv) ?_); cbv; ((try simp only [IfP_iff, and_true, true_and, decide_eq_true_eq, decide_eq_false_iff_not]); (repeat' (first | apply And.intro | intro _)))) | ((first | refine call_q (sp_in _ _ _) (by cbv) ?_ | refine call_pure (sp_in _ _ _) (by cbv) ?_); cbv; ((try simp only [IfP_iff, and_true, true_and, decide_eq_true_eq, decide_eq_false_iff_not]); (repeat' (first | apply And.intro | intro _)))) | ((first | refine call_q (sp_neighbors _ _ _ (by grind) hl) (by cbv) ?_ | refine call_pure (sp_neighbors _ _ _ (by grind) hl) (by cbv) ?_); cbv; ((try simp only [IfP_iff, and_true, true_and, decide_eq_true_eq, decide_eq_false_iff_not]); (repeat' (first | apply And.intro | intro _)))))
  all_goals (try simp only [IfP_iff, EqU_iff, Obl_iff, and_true, true_and, inI_iff, decide_eq_true_eq, decide_eq_false_iff_not])
  all_goals ((repeat' (first | apply And.intro | intro _)) <;> first | omega | grind)
end Go.Proofs.Ytbkdmnohpjihgaa.M

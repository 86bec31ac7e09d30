/- The law FnExactNeighborsOf. -/
import Derived.Test.YtbkdmnohpjihgaaNm
import Derived.Test.YtbkdmnohpjihgaaLi
import Derived.Test.YtbkdmnohpjihgaaLg
namespace Go.Proofs.Ytbkdmnohpjihgaa.M
open Go.RowKit Abs
set_option linter.unusedSimpArgs false
set_option linter.unusedVariables false
set_option maxRecDepth 100000
set_option maxHeartbeats 4000000
theorem im_nbrsOf (n : Int) (l : List (Int × Int)) (v : Int) (hl : l.length ≤ 1048576) : Spec2 Try.prog 18 [.agg (.pr .int (.sl (.pr .int .int))) fun _ => (n, l), .int fun _ => v] [] [.ref 0, .bool fun _ => okN n l v] [some (.row 3 .int fun _ => if okN n l v = true then nbrs l v n.toNat else [])] := by
  cases h : okN n l v with
  | false =>
    simp only [Bool.false_eq_true, if_false]
    exact im_nbrs_bad n l v hl h
  | true =>
    simp only [if_true]
    have h2 := Spec2.pick (im_nbrs_ok n l v hl h)
    have h' := h
    simp only [okN, Bool.and_eq_true, decide_eq_true_eq] at h'
    have h3 : getR .int (nearR l n) v = nbrs l v n.toNat := by
      rw [nearR_row h'.2.1 (graph_edges h'.1).2.1, row_nbrs h'.1 h'.2.1]
    simp only [h3] at h2
    exact h2
theorem call_own {P : Unit → Program} {T : Unit → Tab} {S : AS} {ts : List TypeId} {f' : FuncId} {xs us args' res : List AV} {post : Hp} {K : AV → AS → Prop} {b : Blk} (n : Nat) (h : Spec2 (P ()) f' args' [some b] res post)
    (hH : preM S.H [n] [n] [some b]) (ha : argsM [n] (xs ++ []) (argVs (T ()) (dropC [n] S.H) ts (xs ++ [])) args') (hk : K (resA (rho [n] S.H.length post.length) res) (S.after [n] post)) : CallL P T S ts (.fn f' []) xs us K :=
  ⟨f', [], [n], args', [some b], res, post, rfl, by simp, h, hH, ha, hk⟩
theorem la_same (x : List Int) (hx : x.length ≤ 1048576) : Spec2 Try.prog 19 [.sl .int fun _ => x, .sl .int fun _ => x] [] [.bool fun _ => true] [] := by
  have h := la_eqInts x x hx
  simp only [decide_true] at h
  exact h
theorem law2 (n : Int) (l : List (Int × Int)) (v : Int) (hl : l.length ≤ 1048576) : Spec2 Try.prog 3 [.agg (.pr .int (.sl (.pr .int .int))) fun _ => (n, l), .int fun _ => v] [] [.bool fun _ => true] [] := by
  obtain ⟨R, b, s1, s2, hR⟩ : ∃ (R : List Int) (b : Bool), Spec2 Try.prog 16 [.agg (.pr .int (.sl (.pr .int .int))) fun _ => (n, l), .int fun _ => v] [] [.ref 0, .bool fun _ => b] [some (.row 3 .int fun _ => R)] ∧
      Spec2 Try.prog 18 [.agg (.pr .int (.sl (.pr .int .int))) fun _ => (n, l), .int fun _ => v] [] [.ref 0, .bool fun _ => b] [some (.row 3 .int fun _ => R)] ∧ R.length ≤ 1048576 :=
    ⟨_, _, sp_nbrsOf n l v hl, im_nbrsOf n l v hl, by
      split
      · rename_i h
        have h2 : 0 ≤ n ∧ n ≤ 8 := by simp [okN, graphOk] at h; omega
        have := nbrs_len (m := l) (v := v) h2.1
        omega
      · simp⟩
  have p1 : (0 : Int) ≤ 1 + (l.length : Int) * 2 := by omega
  have p2 : (0 : Int) ≤ 1 + (R.length : Int) := by omega
  refine fnS [] [4] Try.func3 rfl (by decide) rfl (by decide) (by kernel_rfl) rfl (by simp [Try.ntmps3]) ?_
  cbv
  repeat' (first | ((first | refine call_q (la_szGraph _ _ _ (by omega) (by omega)) (by cbv) ?_ | refine call_pure (la_szGraph _ _ _ (by omega) (by omega)) (by cbv) ?_); cbv; ((try simp only [IfP_iff, and_true, true_and, decide_eq_true_eq, decide_eq_false_iff_not]); (repeat' (first | apply And.intro | intro _)))) | ((first | refine call_q (la_toGraph _ _ hl) (by cbv) ?_ | refine call_pure (la_toGraph _ _ hl) (by cbv) ?_); cbv; ((try simp only [IfP_iff, and_true, true_and, decide_eq_true_eq, decide_eq_false_iff_not]); (repeat' (first | apply And.intro | intro _)))) | ((first | refine call_q s1 (by cbv) ?_ | refine call_pure s1 (by cbv) ?_); cbv; ((try simp only [IfP_iff, and_true, true_and, decide_eq_true_eq, decide_eq_false_iff_not]); (repeat' (first | apply And.intro | intro _)))) | ((first | refine call_q s2 (by cbv) ?_ | refine call_pure s2 (by cbv) ?_); cbv; ((try simp only [IfP_iff, and_true, true_and, decide_eq_true_eq, decide_eq_false_iff_not]); (repeat' (first | apply And.intro | intro _)))) | ((first | refine call_q (la_same _ hR) (by cbv) ?_ | refine call_pure (la_same _ hR) (by cbv) ?_); cbv; ((try simp only [IfP_iff, and_true, true_and, decide_eq_true_eq, decide_eq_false_iff_not]); (repeat' (first | apply And.intro | intro _)))) | ((first | refine call_q (la_eqGraph _ _) (by cbv) ?_ | refine call_pure (la_eqGraph _ _) (by cbv) ?_); cbv; ((try simp only [IfP_iff, and_true, true_and, decide_eq_true_eq, decide_eq_false_iff_not]); (repeat' (first | apply And.intro | intro _)))) | (refine call_own 3 (la_markGraph n l 1 (by omega) (by omega) hl) (by cbv) (by cbv; simp only [or_true, true_or, and_true]) ?_; cbv; ((try simp only [IfP_iff, and_true, true_and, decide_eq_true_eq, decide_eq_false_iff_not]); (repeat' (first | apply And.intro | intro _)))) | (refine call_own 5 (la_markInts R 1 (by omega) (by omega) hR) (by cbv) (by cbv; simp only [or_true, true_or, and_true]) ?_; cbv; ((try simp only [IfP_iff, and_true, true_and, decide_eq_true_eq, decide_eq_false_iff_not]); (repeat' (first | apply And.intro | intro _)))) | ((first | refine call_q (la_heldInts _ 1 (by omega) (by omega) hR) (by cbv) ?_ | refine call_pure (la_heldInts _ 1 (by omega) (by omega) hR) (by cbv) ?_); cbv; ((try simp only [IfP_iff, and_true, true_and, decide_eq_true_eq, decide_eq_false_iff_not]); (repeat' (first | apply And.intro | intro _)))))
  all_goals (try simp only [IfP_iff, EqU_iff, Obl_iff, and_true, true_and, inI_iff, decide_eq_true_eq, decide_eq_false_iff_not])
  all_goals (try simp only [if_pos (show (l.length : Int) ≤ 1048576 by omega)] at *)
  all_goals (first | omega | exact absurd (by assumption) (Int.not_lt.2 p1) | exact absurd (by assumption) (Int.not_lt.2 p2) | (simp at *; done))
theorem law2_big (n : Int) (l : List (Int × Int)) (v : Int) (hl : ¬ l.length ≤ 1048576) : Spec2 Try.prog 3 [.agg (.pr .int (.sl (.pr .int .int))) fun _ => (n, l), .int fun _ => v] [] [.bool fun _ => true] [] := by
  refine fnS [] [4] Try.func3 rfl (by decide) rfl (by decide) (by kernel_rfl) rfl (by simp [Try.ntmps3]) ?_
  cbv
  ((first | refine call_q (la_szGraph _ _ _ (by omega) (by omega)) (by cbv) ?_ | refine call_pure (la_szGraph _ _ _ (by omega) (by omega)) (by cbv) ?_); cbv; ((try simp only [IfP_iff, and_true, true_and, decide_eq_true_eq, decide_eq_false_iff_not]); (repeat' (first | apply And.intro | intro _))))
  · simp only [IfP_iff, EqU_iff, Obl_iff, and_true, true_and, inI_iff, decide_eq_true_eq, decide_eq_false_iff_not]
  · rename_i h
    have e : ¬ ((l.length : Int) ≤ 1048576) := by omega
    simp only [if_neg e] at h
    omega
end Go.Proofs.Ytbkdmnohpjihgaa.M
namespace Go.Proofs.Ytbkdmnohpjihgaa.Abs
theorem law_FnExactNeighborsOf (g : Int × List (Int × Int)) (v : Int) : Spec Try.prog 3 [.agg TG g, .int v] [.im .bool true] := by
  obtain ⟨n, l⟩ := g
  by_cases hl : l.length ≤ 1048576
  · exact M.toSpec (M.law2 n l v hl) M.rBool
  · exact M.toSpec (M.law2_big n l v hl) M.rBool
end Go.Proofs.Ytbkdmnohpjihgaa.Abs

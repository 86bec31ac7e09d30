/- The peeling of a Graph, on both sides. -/
import Derived.Test.YtibiacfhlbglnaaPeQ
import Derived.Test.YtibiacfhlbglnaaQc
namespace Go.Proofs.Ytibiacfhlbglnaa.M
open Go.RowKit Abs
set_option linter.unusedSimpArgs false
set_option linter.unusedVariables false
set_option maxRecDepth 100000
set_option maxHeartbeats 4000000
def cntB (q : Int → Bool) (a : List Int) : Int := (a.filter q).length
theorem cnt_next {q : Int → Bool} {a : List Int} {k : Int} (h0 : 0 ≤ k) (h1 : k < (a.length : Int)) : cntB q (a.take (k + 1).toNat) = cntB q (a.take k.toNat) + if q (gi a k) = true then 1 else 0 := by
  unfold cntB
  rw [take_gi h0 h1, List.filter_append, List.length_append]
  by_cases h : q (gi a k) = true
  · rw [List.filter_cons_of_pos h, if_pos h]; simp
  · rw [List.filter_cons_of_neg h, if_neg h]; simp
theorem cnt_in (q : Int → Bool) (a : List Int) : 0 ≤ cntB q a ∧ cntB q a ≤ a.length := by
  unfold cntB
  have := List.length_filter_le q a
  omega
theorem cnt_take (q : Int → Bool) (a : List Int) (k : Nat) : 0 ≤ cntB q (a.take k) ∧ cntB q (a.take k) ≤ a.length := by
  have h1 := cnt_in q (a.take k)
  have : (a.take k).length ≤ a.length := by rw [List.length_take]; omega
  omega
theorem im_missing (a b : List Int) (ha : a.length ≤ 1048576) (hb : b.length ≤ 1048576) : Spec2 Try.prog 122 [.sl .int fun _ => a, .sl .int fun _ => b] [] [.int fun _ => cntB (notB b) a] [] := by
  refine fnS [] [4] Try.func122 rfl (by decide) rfl (by decide) (by kernel_rfl) rfl (by simp [Try.ntmps122]) ?_
  cbv
  refine loopP (by kernel_rfl) (fun k : Int => 0 ≤ k ∧ k ≤ a.length) (fun k => [(10, .int fun _ => k), (5, .int fun _ => cntB (notB b) (a.take k.toNat))]) (fun _ => []) (fun k => (a.length - k).toNat) (· + 1) 0 (by simp) ?_ ?_
  · cbv
    (simp only [IfP_iff, EqU_iff, Obl_iff, and_true, true_and, inI_iff, decide_eq_true_eq, decide_eq_false_iff_not]; (try simp only [natc, getI_gi, at2_0, at2_1]); (try dsimp only [Ty.den]); try simp only [natc] at *)
    simp [cntB]
  · intro k hk
    have h1 := cnt_next (q := notB b) (a := a) (k := k) hk.1
    have h2 := cnt_take (notB b) a k.toNat
    have h3 := take_all (l := a) (i := k)
    have h4 : notB b (gi a k) = !hasB b (gi a k) := rfl
    cbv
    ((try simp only [IfP_iff, and_true, true_and, decide_eq_true_eq, decide_eq_false_iff_not]); (try simp only [natc, getI_gi, at2_0, at2_1]); (try dsimp only [Ty.den]); (try simp only [natc] at *); (repeat' (first | apply And.intro | intro _)))
    all_goals (repeat' (first | ((first | refine call_q (go_contains b _ hb) (by cbv) ?_ | refine call_pure (go_contains b _ hb) (by cbv) ?_); cbv; ((try simp only [IfP_iff, and_true, true_and, decide_eq_true_eq, decide_eq_false_iff_not]); (try simp only [natc, getI_gi, at2_0, at2_1]); (try dsimp only [Ty.den]); (try simp only [natc] at *); (repeat' (first | apply And.intro | intro _))))))
    all_goals (try (simp only [IfP_iff, EqU_iff, Obl_iff, and_true, true_and, inI_iff, decide_eq_true_eq, decide_eq_false_iff_not]; (try simp only [natc, getI_gi, at2_0, at2_1]); (try dsimp only [Ty.den]); try simp only [natc] at *))
    all_goals ((repeat' (first | apply And.intro | intro _)) <;> first | omega | (simp only [List.length_append, List.length_cons, List.length_nil]; omega) | grind)
theorem filt_next {q : Int → Bool} {a : List Int} {k : Int} (h0 : 0 ≤ k) (h1 : k < (a.length : Int)) : (a.take (k + 1).toNat).filter q = (a.take k.toNat).filter q ++ if q (gi a k) = true then [gi a k] else [] := by
  rw [take_gi h0 h1, List.filter_append]
  by_cases h : q (gi a k) = true
  · rw [List.filter_cons_of_pos h, if_pos h]; rfl
  · rw [List.filter_cons_of_neg h, if_neg h]; rfl
theorem filt_len (q : Int → Bool) (a : List Int) (k : Nat) : ((a.take k).filter q).length ≤ a.length := by
  have h1 := List.length_filter_le q (a.take k)
  have : (a.take k).length ≤ a.length := by rw [List.length_take]; omega
  omega
theorem sp_only (a b : List Int) (ha : a.length ≤ 1048576) (hb : b.length ≤ 1048576) : Spec2 Try.prog 119 [.sl .int fun _ => a, .sl .int fun _ => b] [] [.ref 0] [some (.row 3 .int fun _ => a.filter (notB b))] := by
  refine fnS [0] [4] Try.func119 rfl (by decide) rfl (by decide) (by kernel_rfl) rfl (by simp [Try.ntmps119]) ?_
  cbv
  refine loopP (by kernel_rfl) (fun k : Int => 0 ≤ k ∧ k ≤ a.length) (fun k => [(6, .int fun _ => k), (5, .ref 0), (7, .junk)]) (fun k => [(0, some (.row 3 .int fun _ => (a.take k.toNat).filter (notB b)))]) (fun k => (a.length - k).toNat) (· + 1) 0 (by simp) ?_ ?_
  · cbv
    (simp only [IfP_iff, EqU_iff, Obl_iff, and_true, true_and, inI_iff, decide_eq_true_eq, decide_eq_false_iff_not]; (try simp only [natc, getI_gi, at2_0, at2_1]); (try dsimp only [Ty.den]); try simp only [natc] at *)
    simp
  · intro k hk
    have h1 := filt_next (q := notB b) (a := a) (k := k) hk.1
    have h2 := filt_len (notB b) a k.toNat
    have h3 := take_all (l := a) (i := k)
    have h4 : notB b (gi a k) = !hasB b (gi a k) := rfl
    cbv
    ((try simp only [IfP_iff, and_true, true_and, decide_eq_true_eq, decide_eq_false_iff_not]); (try simp only [natc, getI_gi, at2_0, at2_1]); (try dsimp only [Ty.den]); (try simp only [natc] at *); (repeat' (first | apply And.intro | intro _)))
    all_goals (repeat' (first | ((first | refine call_q (sp_has b _ hb) (by cbv) ?_ | refine call_pure (sp_has b _ hb) (by cbv) ?_); cbv; ((try simp only [IfP_iff, and_true, true_and, decide_eq_true_eq, decide_eq_false_iff_not]); (try simp only [natc, getI_gi, at2_0, at2_1]); (try dsimp only [Ty.den]); (try simp only [natc] at *); (repeat' (first | apply And.intro | intro _))))))
    all_goals (try (simp only [IfP_iff, EqU_iff, Obl_iff, and_true, true_and, inI_iff, decide_eq_true_eq, decide_eq_false_iff_not]; (try simp only [natc, getI_gi, at2_0, at2_1]); (try dsimp only [Ty.den]); try simp only [natc] at *))
    all_goals ((repeat' (first | apply And.intro | intro _)) <;> first | omega | (simp only [List.length_append, List.length_cons, List.length_nil]; omega) | grind)
theorem near_nbrs {n x : Int} {l : List (Int × Int)} (h : graphOk n l = true) (h0 : 0 ≤ x) : getI (.sl .int) (nearR l n) x = nbrs l x n.toNat := by
  show getR .int (nearR l n) x = _
  rw [nearR_row h0 (graph_edges h).2.1, row_nbrs h h0]
theorem im_least (n : Int) (l : List (Int × Int)) (away : List Int) (hg : graphOk n l = true) (ha : away.length ≤ 1048576) : Spec2 Try.prog 87 [.sl (.sl .int) fun _ => nearR l n, .sl .int fun _ => away] [] [.int fun _ => (scI l n away n.toNat).1, .int fun _ => (scI l n away n.toNat).2] [] := by
  obtain ⟨g0, g1⟩ := (graph_edges hg).1
  have hn : ((nearR l n).length : Int) = n := by rw [nearR_len]; omega
  refine fnS [] [4, 5] Try.func87 rfl (by decide) rfl (by decide) (by kernel_rfl) rfl (by simp [Try.ntmps87]) ?_
  cbv
  refine loopP (by kernel_rfl) (fun k : Int => 0 ≤ k ∧ k ≤ n) (fun k => [(15, .int fun _ => k), (6, .int fun _ => (scI l n away k.toNat).1), (7, .int fun _ => (scI l n away k.toNat).2)]) (fun _ => []) (fun k => (n - k).toNat) (· + 1) 0 (by omega) ?_ ?_
  · cbv
    (simp only [IfP_iff, EqU_iff, Obl_iff, and_true, true_and, inI_iff, decide_eq_true_eq, decide_eq_false_iff_not]; (try simp only [natc, getI_gi, at2_0, at2_1]); (try dsimp only [Ty.den]); try simp only [natc] at *)
    simp [scI, hn]
  · intro k hk
    have h1 := scI_next (l := l) (n := n) (away := away) hk.1
    have h2 := scI_ok (away := away) hg hk.1 hk.2
    have h3 : ¬ k < n → k.toNat = n.toNat := by omega
    have h4 := near_nbrs hg hk.1
    have h5 : (nbrs l k n.toNat).length ≤ 1048576 := by have := nbrs_len (m := l) (v := k) g0; omega
    have h6 : notB away k = !hasB away k := rfl
    have h7 : cntB (notB away) (nbrs l k n.toNat) = dg l n away k := rfl
    have f1 : dg l n away k < (scI l n away k.toNat).2 → hasB away k = false → (scI l n away (k + 1).toNat).1 = k ∧ (scI l n away (k + 1).toNat).2 = dg l n away k := fun a b => by
      rw [h1]; unfold stI; rw [if_pos ⟨a, by rw [h6, b]; rfl⟩]; exact ⟨rfl, rfl⟩
    have f2 : ¬ dg l n away k < (scI l n away k.toNat).2 → (scI l n away (k + 1).toNat).1 = (scI l n away k.toNat).1 ∧ (scI l n away (k + 1).toNat).2 = (scI l n away k.toNat).2 := fun a => by
      rw [h1]; unfold stI; rw [if_neg fun z => a z.1]; exact ⟨rfl, rfl⟩
    have f3 : hasB away k = true → (scI l n away (k + 1).toNat).1 = (scI l n away k.toNat).1 ∧ (scI l n away (k + 1).toNat).2 = (scI l n away k.toNat).2 := fun a => by
      rw [h1]; unfold stI; rw [if_neg fun z => by rw [h6, a] at z; simp at z]; exact ⟨rfl, rfl⟩
    clear h1
    cbv
    ((try simp only [IfP_iff, and_true, true_and, decide_eq_true_eq, decide_eq_false_iff_not]); (try simp only [natc, getI_gi, at2_0, at2_1]); (try dsimp only [Ty.den]); (try simp only [natc] at *); (repeat' (first | apply And.intro | intro _)))
    all_goals (try rw [hn] at *)
    all_goals (repeat' (first | ((first | refine call_q (im_missing (getI (.sl .int) (nearR l n) k) away (by rw [h4]; exact h5) ha) (by cbv) ?_ | refine call_pure (im_missing (getI (.sl .int) (nearR l n) k) away (by rw [h4]; exact h5) ha) (by cbv) ?_); cbv; ((try simp only [IfP_iff, and_true, true_and, decide_eq_true_eq, decide_eq_false_iff_not]); (try simp only [natc, getI_gi, at2_0, at2_1]); (try dsimp only [Ty.den]); (try simp only [natc] at *); (repeat' (first | apply And.intro | intro _)))) | ((first | refine call_q (go_contains away _ ha) (by cbv) ?_ | refine call_pure (go_contains away _ ha) (by cbv) ?_); cbv; ((try simp only [IfP_iff, and_true, true_and, decide_eq_true_eq, decide_eq_false_iff_not]); (try simp only [natc, getI_gi, at2_0, at2_1]); (try dsimp only [Ty.den]); (try simp only [natc] at *); (repeat' (first | apply And.intro | intro _))))))
    all_goals (try simp only [h4, h7, hn] at *)
    all_goals (try (simp only [IfP_iff, EqU_iff, Obl_iff, and_true, true_and, inI_iff, decide_eq_true_eq, decide_eq_false_iff_not]; (try simp only [natc, getI_gi, at2_0, at2_1]); (try dsimp only [Ty.den]); try simp only [natc] at *))
    all_goals ((repeat' (first | apply And.intro | intro _)) <;> first | omega | (simp only [List.length_append, List.length_cons, List.length_nil]; omega) | grind)
theorem im_peeling_bad (n : Int) (l : List (Int × Int)) (hl : l.length ≤ 1048576) (hb : graphOk n l = false) : Spec2 Try.prog 40 [.agg (.pr .int (.sl (.pr .int .int))) fun _ => (n, l)] [] [.ref 0, .int fun _ => 0, .bool fun _ => false] [some (.row 3 .int fun _ => [])] := by
  refine fnS [1] [2, 3, 4] Try.func40 rfl (by decide) rfl (by decide) (by kernel_rfl) rfl (by simp [Try.ntmps40]) ?_
  cbv
  repeat' (first | ((first | refine call_q (im_graph n l hl) (by cbv) ?_ | refine call_pure (im_graph n l hl) (by cbv) ?_); cbv; ((try simp only [IfP_iff, and_true, true_and, decide_eq_true_eq, decide_eq_false_iff_not]); (try simp only [natc, getI_gi, at2_0, at2_1]); (try dsimp only [Ty.den]); (try simp only [natc] at *); (repeat' (first | apply And.intro | intro _)))))
  all_goals (try (simp only [IfP_iff, EqU_iff, Obl_iff, and_true, true_and, inI_iff, decide_eq_true_eq, decide_eq_false_iff_not]; (try simp only [natc, getI_gi, at2_0, at2_1]); (try dsimp only [Ty.den]); try simp only [natc] at *))
  all_goals (first | omega | (exfalso; grind) | skip)
theorem im_peeling_ok (n : Int) (l : List (Int × Int)) (hl : l.length ≤ 1048576) (hg : graphOk n l = true) : Spec2 Try.prog 40 [.agg (.pr .int (.sl (.pr .int .int))) fun _ => (n, l)] [] [.ref 0, .int fun _ => (peel l n n.toNat).2, .bool fun _ => true] [some (.row 3 .int fun _ => (peel l n n.toNat).1)] := by
  obtain ⟨⟨g0, g1⟩, g2, _⟩ := graph_edges hg
  refine fnS [2] [2, 3, 4] Try.func40 rfl (by decide) rfl (by decide) (by kernel_rfl) rfl (by simp [Try.ntmps40]) ?_
  cbv
  repeat' (first | ((first | refine call_q (im_graph n l hl) (by cbv) ?_ | refine call_pure (im_graph n l hl) (by cbv) ?_); cbv; ((try simp only [IfP_iff, and_true, true_and, decide_eq_true_eq, decide_eq_false_iff_not]); (try simp only [natc, getI_gi, at2_0, at2_1]); (try dsimp only [Ty.den]); (try simp only [natc] at *); (repeat' (first | apply And.intro | intro _)))) | ((first | refine call_q (im_nearLists l n g0 (by omega) hl g2) (by cbv) ?_ | refine call_pure (im_nearLists l n g0 (by omega) hl g2) (by cbv) ?_); cbv; ((try simp only [IfP_iff, and_true, true_and, decide_eq_true_eq, decide_eq_false_iff_not]); (try simp only [natc, getI_gi, at2_0, at2_1]); (try dsimp only [Ty.den]); (try simp only [natc] at *); (repeat' (first | apply And.intro | intro _)))))
  rotate_right 1
  · refine loopP (by kernel_rfl) (fun k : Int => 0 ≤ k ∧ k ≤ n) (fun k => [(22, .int fun _ => k), (6, .ref 2), (19, .junk), (7, .int fun _ => (peel l n k.toNat).2)]) (fun k => [(2, some (.row 3 .int fun _ => (peel l n k.toNat).1))]) (fun k => (n - k).toNat) (· + 1) 0 (by omega) ?_ ?_
    · cbv
      (simp only [IfP_iff, EqU_iff, Obl_iff, and_true, true_and, inI_iff, decide_eq_true_eq, decide_eq_false_iff_not]; (try simp only [natc, getI_gi, at2_0, at2_1]); (try dsimp only [Ty.den]); try simp only [natc] at *)
      simp [peel]
    · intro k hk
      have p1 := peel_next (l := l) (n := n) hk.1
      have p2 := peel_len l n k.toNat
      have p3 : ¬ k < n → k.toNat = n.toNat := by omega
      have p4 : mx (peel l n k.toNat).2 (scI l n (peel l n k.toNat).1 n.toNat).2 = max (peel l n k.toNat).2 (scI l n (peel l n k.toNat).1 n.toNat).2 := mx_max _ _
      have q1 : (peel l n (k + 1).toNat).1 = (peel l n k.toNat).1 ++ [(scI l n (peel l n k.toNat).1 n.toNat).1] := by rw [p1]
      have q2 : (peel l n (k + 1).toNat).2 = max (peel l n k.toNat).2 (scI l n (peel l n k.toNat).1 n.toNat).2 := by rw [p1]; exact p4
      clear p1 p4
      cbv
      ((try simp only [IfP_iff, and_true, true_and, decide_eq_true_eq, decide_eq_false_iff_not]); (try simp only [natc, getI_gi, at2_0, at2_1]); (try dsimp only [Ty.den]); (try simp only [natc] at *); (repeat' (first | apply And.intro | intro _)))
      repeat' (first | ((first | refine call_q (im_least n l (peel l n k.toNat).1 hg (by omega)) (by cbv) ?_ | refine call_pure (im_least n l (peel l n k.toNat).1 hg (by omega)) (by cbv) ?_); cbv; ((try simp only [IfP_iff, and_true, true_and, decide_eq_true_eq, decide_eq_false_iff_not]); (try simp only [natc, getI_gi, at2_0, at2_1]); (try dsimp only [Ty.den]); (try simp only [natc] at *); (repeat' (first | apply And.intro | intro _)))))
      all_goals (try (simp only [IfP_iff, EqU_iff, Obl_iff, and_true, true_and, inI_iff, decide_eq_true_eq, decide_eq_false_iff_not]; (try simp only [natc, getI_gi, at2_0, at2_1]); (try dsimp only [Ty.den]); try simp only [natc] at *))
      all_goals ((repeat' (first | apply And.intro | intro _)) <;> first | omega | (simp only [List.length_append, List.length_cons, List.length_nil]; omega) | grind)
  all_goals (try (simp only [IfP_iff, EqU_iff, Obl_iff, and_true, true_and, inI_iff, decide_eq_true_eq, decide_eq_false_iff_not]; (try simp only [natc, getI_gi, at2_0, at2_1]); (try dsimp only [Ty.den]); try simp only [natc] at *))
  all_goals ((repeat' (first | apply And.intro | intro _)) <;> first | omega | (simp only [List.length_append, List.length_cons, List.length_nil]; omega) | grind)
theorem sp_peel (n : Int) (l : List (Int × Int)) (hl : l.length ≤ 1048576) (hg : graphOk n l = true) : Spec2 Try.prog 84 [.agg (.pr .int (.sl (.pr .int .int))) fun _ => (n, l)] [] [.ref 0, .int fun _ => (peel l n n.toNat).2] [some (.row 3 .int fun _ => (peel l n n.toNat).1)] := by
  obtain ⟨⟨g0, g1⟩, g2, _⟩ := graph_edges hg
  refine fnS [1] [2, 3] Try.func84 rfl (by decide) rfl (by decide) (by kernel_rfl) rfl (by simp [Try.ntmps84]) ?_
  cbv
  refine loopP (by kernel_rfl) (fun k : Int => 0 ≤ k ∧ k ≤ n) (fun k => [(4, .ref 1), (10, .junk), (5, .int fun _ => (peel l n k.toNat).2)]) (fun k => [(1, some (.row 3 .int fun _ => (peel l n k.toNat).1))]) (fun k => (n - k).toNat) (· + 1) 0 (by omega) ?_ ?_
  · cbv
    (simp only [IfP_iff, EqU_iff, Obl_iff, and_true, true_and, inI_iff, decide_eq_true_eq, decide_eq_false_iff_not]; (try simp only [natc, getI_gi, at2_0, at2_1]); (try dsimp only [Ty.den]); try simp only [natc] at *)
    simp [peel]
  · intro k hk
    have p1 := peel_next (l := l) (n := n) hk.1
    have p2 := peel_len l n k.toNat
    have p3 : ¬ k < n → k.toNat = n.toNat := by omega
    have q1 : (peel l n (k + 1).toNat).1 = (peel l n k.toNat).1 ++ [(scI l n (peel l n k.toNat).1 n.toNat).1] := by rw [p1]
    have q2 : (peel l n (k + 1).toNat).2 = mx (peel l n k.toNat).2 (scI l n (peel l n k.toNat).1 n.toNat).2 := by rw [p1]
    have s1 : k < n → scS l n (peel l n k.toNat).1 n.toNat = scI l n (peel l n k.toNat).1 n.toNat := fun a => (sc_eq hg (by rw [p2]; omega)).1
    have p5 : ((peel l n k.toNat).1.length : Int) = k := by omega
    clear p1
    cbv
    ((try simp only [IfP_iff, and_true, true_and, decide_eq_true_eq, decide_eq_false_iff_not]); (try simp only [natc, getI_gi, at2_0, at2_1]); (try dsimp only [Ty.den]); (try simp only [natc] at *); (repeat' (first | apply And.intro | intro _)))
    · have hkn : k < n := by omega
      have s2 := s1 hkn
      refine loopP (by kernel_rfl) (fun j : Int => 0 ≤ j ∧ j ≤ n) (fun j => [(8, .int fun _ => j), (6, .int fun _ => (scS l n (peel l n k.toNat).1 j.toNat).1), (7, .int fun _ => (scS l n (peel l n k.toNat).1 j.toNat).2)]) (fun _ => []) (fun j => (n - j).toNat) (· + 1) 0 (by omega) ?_ ?_
      · cbv
        (simp only [IfP_iff, EqU_iff, Obl_iff, and_true, true_and, inI_iff, decide_eq_true_eq, decide_eq_false_iff_not]; (try simp only [natc, getI_gi, at2_0, at2_1]); (try dsimp only [Ty.den]); try simp only [natc] at *)
        simp [scS]
      · intro j hj
        have h1 := scS_next (l := l) (n := n) (away := (peel l n k.toNat).1) hj.1
        have h2 := scS_ok (away := (peel l n k.toNat).1) hg hj.1 hj.2
        have h3 : ¬ j < n → j.toNat = n.toNat := by omega
        have h5 : (nbrs l j n.toNat).length ≤ 1048576 := by have := nbrs_len (m := l) (v := j) g0; omega
        have h6 : notB (peel l n k.toNat).1 j = !hasB (peel l n k.toNat).1 j := rfl
        have h7 : ((List.filter (notB (peel l n k.toNat).1) (nbrs l j n.toNat)).length : Int) = dg l n (peel l n k.toNat).1 j := rfl
        have f1 : hasB (peel l n k.toNat).1 j = false → (scS l n (peel l n k.toNat).1 j.toNat).1 < 0 ∨ dg l n (peel l n k.toNat).1 j < (scS l n (peel l n k.toNat).1 j.toNat).2 → (scS l n (peel l n k.toNat).1 (j + 1).toNat).1 = j ∧ (scS l n (peel l n k.toNat).1 (j + 1).toNat).2 = dg l n (peel l n k.toNat).1 j := fun a b => by
          rw [h1]; unfold stS; rw [if_pos ⟨by rw [h6, a]; rfl, b⟩]; exact ⟨rfl, rfl⟩
        have f2 : ¬ (scS l n (peel l n k.toNat).1 j.toNat).1 < 0 → ¬ dg l n (peel l n k.toNat).1 j < (scS l n (peel l n k.toNat).1 j.toNat).2 → (scS l n (peel l n k.toNat).1 (j + 1).toNat).1 = (scS l n (peel l n k.toNat).1 j.toNat).1 ∧ (scS l n (peel l n k.toNat).1 (j + 1).toNat).2 = (scS l n (peel l n k.toNat).1 j.toNat).2 := fun a b => by
          rw [h1]; unfold stS; rw [if_neg fun z => z.2.elim a b]; exact ⟨rfl, rfl⟩
        have f3 : hasB (peel l n k.toNat).1 j = true → (scS l n (peel l n k.toNat).1 (j + 1).toNat).1 = (scS l n (peel l n k.toNat).1 j.toNat).1 ∧ (scS l n (peel l n k.toNat).1 (j + 1).toNat).2 = (scS l n (peel l n k.toNat).1 j.toNat).2 := fun a => by
          rw [h1]; unfold stS; rw [if_neg fun z => by rw [h6, a] at z; simp at z]; exact ⟨rfl, rfl⟩
        clear h1
        cbv
        ((try simp only [IfP_iff, and_true, true_and, decide_eq_true_eq, decide_eq_false_iff_not]); (try simp only [natc, getI_gi, at2_0, at2_1]); (try dsimp only [Ty.den]); (try simp only [natc] at *); (repeat' (first | apply And.intro | intro _)))
        all_goals (repeat' (first | ((first | refine call_q (sp_neighbors n l j (by omega) hl) (by cbv) ?_ | refine call_pure (sp_neighbors n l j (by omega) hl) (by cbv) ?_); cbv; ((try simp only [IfP_iff, and_true, true_and, decide_eq_true_eq, decide_eq_false_iff_not]); (try simp only [natc, getI_gi, at2_0, at2_1]); (try dsimp only [Ty.den]); (try simp only [natc] at *); (repeat' (first | apply And.intro | intro _)))) | ((first | refine call_q (sp_only (nbrs l j n.toNat) (peel l n k.toNat).1 h5 (by omega)) (by cbv) ?_ | refine call_pure (sp_only (nbrs l j n.toNat) (peel l n k.toNat).1 h5 (by omega)) (by cbv) ?_); cbv; ((try simp only [IfP_iff, and_true, true_and, decide_eq_true_eq, decide_eq_false_iff_not]); (try simp only [natc, getI_gi, at2_0, at2_1]); (try dsimp only [Ty.den]); (try simp only [natc] at *); (repeat' (first | apply And.intro | intro _)))) | ((first | refine call_q (sp_has (peel l n k.toNat).1 j (by omega)) (by cbv) ?_ | refine call_pure (sp_has (peel l n k.toNat).1 j (by omega)) (by cbv) ?_); cbv; ((try simp only [IfP_iff, and_true, true_and, decide_eq_true_eq, decide_eq_false_iff_not]); (try simp only [natc, getI_gi, at2_0, at2_1]); (try dsimp only [Ty.den]); (try simp only [natc] at *); (repeat' (first | apply And.intro | intro _)))) | ((first | refine call_q (sp_most _ _) (by cbv) ?_ | refine call_pure (sp_most _ _) (by cbv) ?_); cbv; ((try simp only [IfP_iff, and_true, true_and, decide_eq_true_eq, decide_eq_false_iff_not]); (try simp only [natc, getI_gi, at2_0, at2_1]); (try dsimp only [Ty.den]); (try simp only [natc] at *); (repeat' (first | apply And.intro | intro _))))))
        all_goals (try simp only [h7] at *)
        all_goals (try (simp only [IfP_iff, EqU_iff, Obl_iff, and_true, true_and, inI_iff, decide_eq_true_eq, decide_eq_false_iff_not]; (try simp only [natc, getI_gi, at2_0, at2_1]); (try dsimp only [Ty.den]); try simp only [natc] at *))
        all_goals ((repeat' (first | apply And.intro | intro _)) <;> first | omega | (simp only [List.length_append, List.length_cons, List.length_nil]; omega) | grind)
    all_goals (try (simp only [IfP_iff, EqU_iff, Obl_iff, and_true, true_and, inI_iff, decide_eq_true_eq, decide_eq_false_iff_not]; (try simp only [natc, getI_gi, at2_0, at2_1]); (try dsimp only [Ty.den]); try simp only [natc] at *))
    all_goals ((repeat' (first | apply And.intro | intro _)) <;> first | omega | (simp only [List.length_append, List.length_cons, List.length_nil]; omega) | grind)
def peelL (n : Int) (l : List (Int × Int)) : List Int := if graphOk n l = true then (peel l n n.toNat).1 else []
def peelD (n : Int) (l : List (Int × Int)) : Int := if graphOk n l = true then (peel l n n.toNat).2 else 0
theorem peel_bound (n : Int) (l : List (Int × Int)) : (peelL n l).length ≤ 1048576 := by
  unfold peelL
  split
  · rename_i h
    have := graph_edges h
    rw [peel_len]
    omega
  · simp
theorem sp_peelingOf (n : Int) (l : List (Int × Int)) (hl : l.length ≤ 1048576) : Spec2 Try.prog 38 [.agg (.pr .int (.sl (.pr .int .int))) fun _ => (n, l)] [] [.ref 0, .int fun _ => peelD n l, .bool fun _ => graphOk n l] [some (.row 3 .int fun _ => peelL n l)] := by
  unfold peelL peelD
  cases hb : graphOk n l with
  | false =>
    simp only [Bool.false_eq_true, if_false]
    refine fnS [1] [2, 3, 4] Try.func38 rfl (by decide) rfl (by decide) (by kernel_rfl) rfl (by simp [Try.ntmps38]) ?_
    cbv
    ((first | refine call_q (sp_good n l hl) (by cbv) ?_ | refine call_pure (sp_good n l hl) (by cbv) ?_); cbv; ((try simp only [IfP_iff, and_true, true_and, decide_eq_true_eq, decide_eq_false_iff_not]); (try simp only [natc, getI_gi, at2_0, at2_1]); (try dsimp only [Ty.den]); (try simp only [natc] at *); (repeat' (first | apply And.intro | intro _))))
    all_goals (try (simp only [IfP_iff, EqU_iff, Obl_iff, and_true, true_and, inI_iff, decide_eq_true_eq, decide_eq_false_iff_not]; (try simp only [natc, getI_gi, at2_0, at2_1]); (try dsimp only [Ty.den]); try simp only [natc] at *))
    all_goals (first | omega | (exfalso; grind) | skip)
  | true =>
    simp only [if_true]
    refine fnS [1] [2, 3, 4] Try.func38 rfl (by decide) rfl (by decide) (by kernel_rfl) rfl (by simp [Try.ntmps38]) ?_
    cbv
    repeat' (first | ((first | refine call_q (sp_good n l hl) (by cbv) ?_ | refine call_pure (sp_good n l hl) (by cbv) ?_); cbv; ((try simp only [IfP_iff, and_true, true_and, decide_eq_true_eq, decide_eq_false_iff_not]); (try simp only [natc, getI_gi, at2_0, at2_1]); (try dsimp only [Ty.den]); (try simp only [natc] at *); (repeat' (first | apply And.intro | intro _)))) | ((first | refine call_q (sp_peel n l hl hb) (by cbv) ?_ | refine call_pure (sp_peel n l hl hb) (by cbv) ?_); cbv; ((try simp only [IfP_iff, and_true, true_and, decide_eq_true_eq, decide_eq_false_iff_not]); (try simp only [natc, getI_gi, at2_0, at2_1]); (try dsimp only [Ty.den]); (try simp only [natc] at *); (repeat' (first | apply And.intro | intro _)))))
    all_goals (try (simp only [IfP_iff, EqU_iff, Obl_iff, and_true, true_and, inI_iff, decide_eq_true_eq, decide_eq_false_iff_not]; (try simp only [natc, getI_gi, at2_0, at2_1]); (try dsimp only [Ty.den]); try simp only [natc] at *))
    all_goals (first | omega | (exfalso; grind) | skip)
theorem im_peelingOf (n : Int) (l : List (Int × Int)) (hl : l.length ≤ 1048576) : Spec2 Try.prog 40 [.agg (.pr .int (.sl (.pr .int .int))) fun _ => (n, l)] [] [.ref 0, .int fun _ => peelD n l, .bool fun _ => graphOk n l] [some (.row 3 .int fun _ => peelL n l)] := by
  unfold peelL peelD
  cases hb : graphOk n l with
  | false =>
    simp only [Bool.false_eq_true, if_false]
    exact im_peeling_bad n l hl hb
  | true =>
    simp only [if_true]
    exact im_peeling_ok n l hl hb
end Go.Proofs.Ytibiacfhlbglnaa.M

/- Trees: the specification. -/
import Derived.Test.YtbpheblbbdiapabTaQVCircleOf
import Derived.Test.YtbpheblbbdiapabRgQVCircleOf
import Derived.Test.YtbpheblbbdiapabDeQVCircleOf
import Derived.Test.YtbpheblbbdiapabDfQVCircleOf
import Derived.Test.YtbpheblbbdiapabQeVCircleOf
import Derived.Test.YtbpheblbbdiapabQgVCircleOf
namespace Go.Proofs.Ytbpheblbbdiapab.M
open Go.RowKit Abs
set_option linter.unusedSimpArgs false
set_option linter.unusedVariables false
set_option maxRecDepth 100000
set_option maxHeartbeats 4000000
theorem sp_some (n : Int) (l : List (Int × Int)) (hl : l.length ≤ 1048576) : Spec2 Try.prog 60 [.agg (.pr .int (.sl (.pr .int .int))) fun _ => (n, l)] [] [.bool fun _ => someB n l] [] := by
  have h9 : someB n l = (graphOk n l && decide (0 < n)) := rfl
  refine fnS [] [2] Try.func60 rfl (by decide) rfl (by decide) (by kernel_rfl) rfl (by simp [Try.ntmps60]) ?_
  cbv
  repeat' (first | ((first | refine call_q (sp_good n l hl) (by cbv) ?_ | refine call_pure (sp_good n l hl) (by cbv) ?_); cbv; ((try simp only [IfP_iff, and_true, true_and, decide_eq_true_eq, decide_eq_false_iff_not]); (try simp only [natc, getI_gi, at2_0, at2_1]); (try dsimp only [Ty.den]); (try simp only [natc] at *); (repeat' (first | apply And.intro | intro _)))))
  all_goals (try (simp only [IfP_iff, EqU_iff, Obl_iff, and_true, true_and, inI_iff, decide_eq_true_eq, decide_eq_false_iff_not]; (try simp only [natc, getI_gi, at2_0, at2_1]); (try dsimp only [Ty.den]); try simp only [natc] at *))
  ((try simp only [IfP_iff, and_true, true_and, decide_eq_true_eq, decide_eq_false_iff_not]); (try simp only [natc, getI_gi, at2_0, at2_1]); (try dsimp only [Ty.den]); (try simp only [natc] at *); (repeat' (first | apply And.intro | intro _)))
  all_goals (try (simp only [IfP_iff, EqU_iff, Obl_iff, and_true, true_and, inI_iff, decide_eq_true_eq, decide_eq_false_iff_not]; (try simp only [natc, getI_gi, at2_0, at2_1]); (try dsimp only [Ty.den]); try simp only [natc] at *))
  all_goals ((repeat' (first | apply And.intro | intro _)) <;> first | omega | (simp only [List.length_append, List.length_cons, List.length_nil]; omega) | grind)
theorem shl_one {n : Int} (h0 : 0 ≤ n) (h1 : n ≤ 8) : inI (1 * 2 ^ (min n.toNat 64)) ∧ inI (1 * 2 ^ (min n.toNat 64) - 1) := by
  have : n = 0 ∨ n = 1 ∨ n = 2 ∨ n = 3 ∨ n = 4 ∨ n = 5 ∨ n = 6 ∨ n = 7 ∨ n = 8 := by omega
  rcases this with rfl | rfl | rfl | rfl | rfl | rfl | rfl | rfl | rfl <;> exact ⟨inI_iff.2 (by decide), inI_iff.2 (by decide)⟩
def bitAt (c i : Int) : Int := IntKind.i64.wrap (BitVec.ofInt 64 (c.fdiv (2 ^ (min i.toNat 64))) &&& BitVec.ofInt 64 1).toNat
theorem bit_all {n i : Int} (h0 : 0 ≤ n) (h1 : n ≤ 8) (i0 : 0 ≤ i) (i1 : i < n) : bitAt (1 * 2 ^ (min n.toNat 64) - 1) i = 1 := by
  have : n = 0 ∨ n = 1 ∨ n = 2 ∨ n = 3 ∨ n = 4 ∨ n = 5 ∨ n = 6 ∨ n = 7 ∨ n = 8 := by omega
  have h2 : i = 0 ∨ i = 1 ∨ i = 2 ∨ i = 3 ∨ i = 4 ∨ i = 5 ∨ i = 6 ∨ i = 7 := by omega
  rcases this with rfl | rfl | rfl | rfl | rfl | rfl | rfl | rfl | rfl <;> rcases h2 with rfl | rfl | rfl | rfl | rfl | rfl | rfl | rfl <;> first | omega | decide
theorem sp_bitsN (n c : Int) (h0 : 0 ≤ n) (h1 : n ≤ 8) (hc : c = 1 * 2 ^ (min n.toNat 64) - 1) : Spec2 Try.prog 91 [.int fun _ => n, .int fun _ => c] [] [.ref 0] [some (.row 3 .int fun _ => nodesL n)] := by
  have hb : ∀ i : Int, 0 ≤ i → i < n → bitAt c i = 1 := fun i a b => by rw [hc]; exact bit_all h0 h1 a b
  clear hc
  refine fnS [0] [4] Try.func91 rfl (by decide) rfl (by decide) (by kernel_rfl) rfl (by simp [Try.ntmps91]) ?_
  cbv
  refine loopP (by kernel_rfl) (fun i : Int => 0 ≤ i ∧ i ≤ n) (fun i => [(6, .int fun _ => i), (5, .ref 0), (7, .junk)]) (fun i => [(0, some (.row 3 .int fun _ => pref (fun _ => true) i.toNat))]) (fun i => (n - i).toNat) (· + 1) 0 (by omega) ?_ ?_
  · cbv
    (simp only [IfP_iff, EqU_iff, Obl_iff, and_true, true_and, inI_iff, decide_eq_true_eq, decide_eq_false_iff_not]; (try simp only [natc, getI_gi, at2_0, at2_1]); (try dsimp only [Ty.den]); try simp only [natc] at *)
    simp [pref]
  · intro i hi
    have h2 := pref_next (p := fun _ => true) hi.1
    have h3 := pref_len (p := fun _ => true) hi.1
    have h4 : ¬ i < n → pref (fun _ => true) i.toNat = nodesL n := fun h => by unfold nodesL; rw [show i = n by omega]
    have h5 : i < n → IntKind.i64.wrap (BitVec.ofInt 64 (c.fdiv (2 ^ (min i.toNat 64))) &&& BitVec.ofInt 64 1).toNat = 1 := fun h => hb i hi.1 h
    rw [if_pos rfl] at h2
    clear hb
    cbv
    ((try simp only [IfP_iff, and_true, true_and, decide_eq_true_eq, decide_eq_false_iff_not]); (try simp only [natc, getI_gi, at2_0, at2_1]); (try dsimp only [Ty.den]); (try simp only [natc] at *); (repeat' (first | apply And.intro | intro _)))
    all_goals (try (simp only [IfP_iff, EqU_iff, Obl_iff, and_true, true_and, inI_iff, decide_eq_true_eq, decide_eq_false_iff_not]; (try simp only [natc, getI_gi, at2_0, at2_1]); (try dsimp only [Ty.den]); try simp only [natc] at *))
    all_goals ((repeat' (first | apply And.intro | intro _)) <;> first | omega | (exact h4 (by assumption)) | (exact h2.symm) | (exact absurd (h5 (by assumption)) (by assumption)) | grind)
theorem sp_part (n : Int) (l : List (Int × Int)) (es : List Int) (hl : l.length ≤ 1048576) (he : es.length ≤ 1048576) (ha : ascB l.length es = true) : Spec2 Try.prog 81 [.agg (.pr .int (.sl (.pr .int .int))) fun _ => (n, l), .sl .int fun _ => es] [] [.cells [.int fun _ => n, .ref 0]] [some (.row 61 (.pr .int .int) fun _ => partL l es)] := by
  refine fnGE [5] [.cst 4 2 29] Try.func81 rfl (by decide) rfl (by kernel_rfl) (.inl rfl) (by kernel_rfl) (Nat.zero_le _) (by simp [Try.ntmps81]) ?_
  cbv
  ((try simp only [IfP_iff, and_true, true_and, decide_eq_true_eq, decide_eq_false_iff_not]); (try simp only [natc, getI_gi, at2_0, at2_1]); (try dsimp only [Ty.den]); (try simp only [natc] at *); (repeat' (first | apply And.intro | intro _)))
  all_goals (try ((simp only [IfP_iff, EqU_iff, Obl_iff, and_true, true_and, inI_iff, decide_eq_true_eq, decide_eq_false_iff_not]; (try simp only [natc, getI_gi, at2_0, at2_1]); (try dsimp only [Ty.den]); try simp only [natc] at *); done))
  refine loopE [5] (by kernel_rfl) (fun i : Int => 0 ≤ i ∧ i ≤ es.length) (fun i => [(6, .int fun _ => i), (9, .junk), (10, .junk)]) (fun i => [(2, some (.row 61 (.pr .int .int) fun _ => partL l (es.take i.toNat)))]) (fun i => (es.length - i).toNat) (· + 1) 0 (by omega) ?_ ?_
  · cbv
    (simp only [IfP_iff, EqU_iff, Obl_iff, and_true, true_and, inI_iff, decide_eq_true_eq, decide_eq_false_iff_not]; (try simp only [natc, getI_gi, at2_0, at2_1]); (try dsimp only [Ty.den]); try simp only [natc] at *)
    rfl
  · intro i hi
    have h1 : i < (es.length : Int) → partL l (es.take (i + 1).toNat) = partL l (es.take i.toNat) ++ [getI (.pr .int .int) l (gi es i)] := partL_next hi.1
    have h2 : i < (es.length : Int) → 0 ≤ gi es i ∧ gi es i < l.length := asc_at ha hi.1
    have h3 : ¬ i < (es.length : Int) → partL l (es.take i.toNat) = partL l es := fun h => by rw [List.take_of_length_le (by omega)]
    have h4 : (partL l (es.take i.toNat)).length ≤ 1048576 := by unfold partL; rw [List.length_map, List.length_take]; omega
    clear ha
    cbv
    ((try simp only [IfP_iff, and_true, true_and, decide_eq_true_eq, decide_eq_false_iff_not]); (try simp only [natc, getI_gi, at2_0, at2_1]); (try dsimp only [Ty.den]); (try simp only [natc] at *); (repeat' (first | apply And.intro | intro _)))
    · refine DrawL.layersS [] [4, 5] (fun _ _ => none) [([false, false, false, false, true, true, false, false, false, false, false, false, false, false], [0, 2, 6]), ([true, false, false, false, true, true, false, false, false, false, false, false, false, false], [1, 2, 6]), ([false, false, true, false, true, true, false, false, false, false, false, false, false, false], [0, 3, 6]), ([false, false, false, false, true, true, true, false, false, false, false, false, false, false], [0, 2, 7]), ([true, true, false, false, true, true, false, false, false, false, false, false, false, false], [2, 6]), ([true, false, true, false, true, true, false, false, false, false, false, false, false, false], [1, 3, 6]), ([true, false, false, false, true, true, true, false, false, false, false, false, false, false], [1, 2, 7]), ([false, false, true, true, true, true, false, false, false, false, false, false, false, false], [0, 6]), ([false, false, true, false, true, true, true, false, false, false, false, false, false, false], [0, 3, 7]), ([false, false, false, false, true, true, true, true, false, false, false, false, false, false], [0, 2]), ([true, true, true, false, true, true, false, false, false, false, false, false, false, false], [3, 6]), ([true, true, false, false, true, true, true, false, false, false, false, false, false, false], [2, 7]), ([true, false, true, true, true, true, false, false, false, false, false, false, false, false], [1, 6]), ([true, false, true, false, true, true, true, false, false, false, false, false, false, false], [1, 3, 7]), ([true, false, false, false, true, true, true, true, false, false, false, false, false, false], [1, 2]), ([false, false, true, true, true, true, true, false, false, false, false, false, false, false], [0, 7]), ([false, false, true, false, true, true, true, true, false, false, false, false, false, false], [0, 3]), ([true, true, true, true, true, true, false, false, false, false, false, false, false, false], [6]), ([true, true, true, false, true, true, true, false, false, false, false, false, false, false], [3, 7]), ([true, true, false, false, true, true, true, true, false, false, false, false, false, false], [2]), ([true, false, true, true, true, true, true, false, false, false, false, false, false, false], [1, 7]), ([true, false, true, false, true, true, true, true, false, false, false, false, false, false], [1, 3]), ([false, false, true, true, true, true, true, true, false, false, false, false, false, false], [0, 8]), ([true, true, true, true, true, true, true, false, false, false, false, false, false, false], [7]), ([true, true, true, false, true, true, true, true, false, false, false, false, false, false], [3]), ([true, false, true, true, true, true, true, true, false, false, false, false, false, false], [1, 8]), ([false, false, true, true, true, true, true, true, true, false, false, false, false, false], [0, 9]), ([true, true, true, true, true, true, true, true, false, false, false, false, false, false], [8]), ([true, false, true, true, true, true, true, true, true, false, false, false, false, false], [1, 9]), ([false, false, true, true, true, true, true, true, true, true, false, false, false, false], [0, 10]), ([true, true, true, true, true, true, true, true, true, false, false, false, false, false], [9]), ([true, false, true, true, true, true, true, true, true, true, false, false, false, false], [1, 10]), ([false, false, true, true, true, true, true, true, true, true, true, false, false, false], [0]), ([true, true, true, true, true, true, true, true, true, true, false, false, false, false], [10]), ([true, false, true, true, true, true, true, true, true, true, true, false, false, false], [1]), ([true, true, true, true, true, true, true, true, true, true, true, false, false, false], [11]), ([true, true, true, true, true, true, true, true, true, true, true, true, false, false], [12]), ([true, true, true, true, true, true, true, true, true, true, true, true, true, false], [13]), ([true, true, true, true, true, true, true, true, true, true, true, true, true, true], [])] (by kernel_rfl) (by rfl) ?_
      cbv
      (repeat' (first | apply And.intro | apply EqU.mk))
      all_goals (try trivial)
      all_goals (try (first | trivial | rfl))
      all_goals (try (simp only [IfP_iff, EqU_iff, Obl_iff, and_true, true_and, inI_iff, decide_eq_true_eq, decide_eq_false_iff_not]; (try simp only [natc, getI_gi, at2_0, at2_1]); (try dsimp only [Ty.den]); try simp only [natc] at *))
      all_goals ((repeat' (first | apply And.intro | intro _)) <;> first | omega | (exact h2 (by assumption)) | (exact ⟨hi.1, by assumption⟩) | (exact (h1 (by assumption)).symm) | grind)
    · refine EndG.plain [2] ?_
      cbv
      (simp only [IfP_iff, EqU_iff, Obl_iff, and_true, true_and, inI_iff, decide_eq_true_eq, decide_eq_false_iff_not]; (try simp only [natc, getI_gi, at2_0, at2_1]); (try dsimp only [Ty.den]); try simp only [natc] at *)
      exact h3 (by assumption)
theorem nodesL_len {n : Int} (h0 : 0 ≤ n) (h1 : n ≤ 8) : (nodesL n).length ≤ 1000 := by
  have := pref_len (p := fun _ => true) h0
  unfold nodesL
  omega
theorem partL_len {l : List (Int × Int)} {es : List Int} : (partL l es).length = es.length := by simp [partL]
theorem sp_tree7 (n : Int) (l : List (Int × Int)) (es : List Int) (hl : l.length ≤ 1048576) (he : es.length ≤ 1048576) (hg : graphOk n l = true) (n0 : 0 < n) : Spec2 Try.prog 54 [.agg (.pr .int (.sl (.pr .int .int))) fun _ => (n, l), .sl .int fun _ => es] [] [.bool fun _ => treeB n l es] [] := by
  obtain ⟨⟨g0, g1⟩, _, _⟩ := graph_edges hg
  have h9 : treeB n l es = _ := rfl
  conv at h9 => rhs; unfold treeB
  have hr := rise_asc l.length es
  by_cases hA : (es.length : Int) = n - 1 ∧ ascB l.length es = true
  case neg =>
    have h8 : treeB n l es = false := by
      rw [h9]
      cases h : decide ((es.length : Int) = n - 1) && ascB l.length es with
      | false => rfl
      | true =>
        simp only [Bool.and_eq_true, decide_eq_true_eq] at h
        exact absurd h hA
    rw [h8]
    refine fnS [] [4] Try.func54 rfl (by decide) rfl (by decide) (by kernel_rfl) rfl (by simp [Try.ntmps54]) ?_
    cbv
    ((try simp only [IfP_iff, and_true, true_and, decide_eq_true_eq, decide_eq_false_iff_not]); (try simp only [natc, getI_gi, at2_0, at2_1]); (try dsimp only [Ty.den]); (try simp only [natc] at *); (repeat' (first | apply And.intro | intro _)))
    all_goals (repeat' (first | ((first | refine call_q (sp_rising es 0 ((l.length : Int) - 1) he) (by cbv) ?_ | refine call_pure (sp_rising es 0 ((l.length : Int) - 1) he) (by cbv) ?_); cbv; ((try simp only [IfP_iff, and_true, true_and, decide_eq_true_eq, decide_eq_false_iff_not]); (try simp only [natc, getI_gi, at2_0, at2_1]); (try dsimp only [Ty.den]); (try simp only [natc] at *); (repeat' (first | apply And.intro | intro _))))))
    all_goals (try (simp only [IfP_iff, EqU_iff, Obl_iff, and_true, true_and, inI_iff, decide_eq_true_eq, decide_eq_false_iff_not]; (try simp only [natc, getI_gi, at2_0, at2_1]); (try dsimp only [Ty.den]); try simp only [natc] at *))
    all_goals (try ((try simp only [IfP_iff, and_true, true_and, decide_eq_true_eq, decide_eq_false_iff_not]); (try simp only [natc, getI_gi, at2_0, at2_1]); (try dsimp only [Ty.den]); (try simp only [natc] at *); (repeat' (first | apply And.intro | intro _))))
    all_goals (first | omega | (exfalso; exact hA ⟨by simpa using (by assumption : (!decide ((es.length : Int) = n - 1)) = false), by rw [← hr]; simpa using (by assumption : (!riseB es 0 ((l.length : Int) - 1)) = false)⟩))
  obtain ⟨hlen, ha⟩ := hA
  have hpl : (partL l es).length ≤ 1048576 := by rw [partL_len]; exact he
  have h7 := tree_eq n0 g1 (part_in hg ha)
  have h6 : treeB n l es = decide (((pcs (partL l es) (nodesL n) (nodesL n).length).1.length : Int) = 1) := by
    rw [h9, ← h7, ha, decide_eq_true hlen, Bool.true_and, Bool.true_and, decide_eq_decide]
    omega
  rw [ha] at hr
  obtain ⟨s1, s2⟩ := shl_one g0 g1
  rw [h6]
  refine fnS [] [4] Try.func54 rfl (by decide) rfl (by decide) (by kernel_rfl) rfl (by simp [Try.ntmps54]) ?_
  cbv
  ((try simp only [IfP_iff, and_true, true_and, decide_eq_true_eq, decide_eq_false_iff_not]); (try simp only [natc, getI_gi, at2_0, at2_1]); (try dsimp only [Ty.den]); (try simp only [natc] at *); (repeat' (first | apply And.intro | intro _)))
  all_goals (repeat' (first | ((first | refine call_q (sp_rising es 0 ((l.length : Int) - 1) he) (by cbv) ?_ | refine call_pure (sp_rising es 0 ((l.length : Int) - 1) he) (by cbv) ?_); cbv; ((try simp only [IfP_iff, and_true, true_and, decide_eq_true_eq, decide_eq_false_iff_not]); (try simp only [natc, getI_gi, at2_0, at2_1]); (try dsimp only [Ty.den]); (try simp only [natc] at *); (repeat' (first | apply And.intro | intro _))))))
  all_goals (try (simp only [IfP_iff, EqU_iff, Obl_iff, and_true, true_and, inI_iff, decide_eq_true_eq, decide_eq_false_iff_not]; (try simp only [natc, getI_gi, at2_0, at2_1]); (try dsimp only [Ty.den]); try simp only [natc] at *))
  all_goals (try ((try simp only [IfP_iff, and_true, true_and, decide_eq_true_eq, decide_eq_false_iff_not]); (try simp only [natc, getI_gi, at2_0, at2_1]); (try dsimp only [Ty.den]); (try simp only [natc] at *); (repeat' (first | apply And.intro | intro _))))
  all_goals (repeat' (first | ((first | refine call_q (sp_part n l es hl he ha) (by cbv) ?_ | refine call_pure (sp_part n l es hl he ha) (by cbv) ?_); cbv; ((try simp only [IfP_iff, and_true, true_and, decide_eq_true_eq, decide_eq_false_iff_not]); (try simp only [natc, getI_gi, at2_0, at2_1]); (try dsimp only [Ty.den]); (try simp only [natc] at *); (repeat' (first | apply And.intro | intro _)))) | ((first | refine call_q (sp_bitsN n _ g0 g1 rfl) (by cbv) ?_ | refine call_pure (sp_bitsN n _ g0 g1 rfl) (by cbv) ?_); cbv; ((try simp only [IfP_iff, and_true, true_and, decide_eq_true_eq, decide_eq_false_iff_not]); (try simp only [natc, getI_gi, at2_0, at2_1]); (try dsimp only [Ty.den]); (try simp only [natc] at *); (repeat' (first | apply And.intro | intro _)))) | ((first | refine call_q (sp_pieces n (partL l es) (nodesL n) hpl (nodesL_len g0 g1)) (by cbv) ?_ | refine call_pure (sp_pieces n (partL l es) (nodesL n) hpl (nodesL_len g0 g1)) (by cbv) ?_); cbv; ((try simp only [IfP_iff, and_true, true_and, decide_eq_true_eq, decide_eq_false_iff_not]); (try simp only [natc, getI_gi, at2_0, at2_1]); (try dsimp only [Ty.den]); (try simp only [natc] at *); (repeat' (first | apply And.intro | intro _))))))
  all_goals (try (exact absurd (by assumption : (!decide ((es.length : Int) = n - 1)) = true) (by simp [hlen])))
  all_goals (try (exact absurd (by assumption : (!riseB es 0 ((l.length : Int) - 1)) = true) (by rw [hr]; decide)))
  all_goals (try omega)
  all_goals (try (exact ⟨⟨g0, s1⟩⟩))
  all_goals (try (exact ⟨s2⟩))
  all_goals (try (simp only [IfP_iff, EqU_iff, Obl_iff, and_true, true_and, inI_iff, decide_eq_true_eq, decide_eq_false_iff_not]; (try simp only [natc, getI_gi, at2_0, at2_1]); (try dsimp only [Ty.den]); try simp only [natc] at *))
end Go.Proofs.Ytbpheblbbdiapab.M

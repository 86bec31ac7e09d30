/- CutOf: the program. -/
import Derived.Test.YtbpheblbbdiapabDnQVCutOf
import Derived.Test.YtbpheblbbdiapabTeQVCutOf
import Derived.Test.YtbpheblbbdiapabTbQVCutOf
import Derived.Test.YtbpheblbbdiapabTgQVCutOf
import Derived.Test.YtbpheblbbdiapabTjQVCutOf
import Derived.Test.YtbpheblbbdiapabLpQVCutOf
import Derived.Test.YtbpheblbbdiapabQgVCutOf
namespace Go.Proofs.Ytbpheblbbdiapab.M
open Go.RowKit Abs
set_option linter.unusedSimpArgs false
set_option linter.unusedVariables false
set_option maxRecDepth 100000
set_option maxHeartbeats 4000000
theorem im_missingL (a b : List Int) (ha : a.length ≤ 1048576) (hb : b.length ≤ 1048576) (hne : a ≠ []) : Spec2 Try.prog 66 [.sl .int fun _ => a, .sl .int fun _ => b] [] [.ref 0] [some (.row 3 .int fun _ => onlyL a b)] := im_miss a b ha hb
theorem im_forestLeft (n : Int) (l : List (Int × Int)) (es : List Int) (d : Int) (hl : l.length ≤ 1048576) (he : es.length ≤ 1048576) (hg : graphOk n l = true) (ha : ascB l.length (onlyL es [d]) = true) (hne : es ≠ []) : Spec2 Try.prog 45 [.agg (.pr .int (.sl (.pr .int .int))) fun _ => (n, l), .sl .int fun _ => es, .int fun _ => d] [] [.agg (.ar 7 .int) fun _ => forF (partL l (onlyL es [d]))] [] := by
  have ho : (onlyL es [d]).length ≤ 1048576 := Nat.le_trans (List.length_filter_le _ _) he
  have hd1 : [d].length ≤ 1048576 := by rw [List.length_cons, List.length_nil]; omega
  refine fnGE [1] [.car 6 8 59] Try.func45 rfl (by decide) rfl (by kernel_rfl) (.inl rfl) (by kernel_rfl) (Nat.zero_le _) (by simp [Try.ntmps45]) ?_
  cbv
  refine DrawL.layersS [(4, fun S => S.new (some 11) (.ref S.H.length) (.row 3 .int fun _ => onlyL es [d])), (5, fun S => S.put (some 12) (.agg (.ar 7 .int) fun _ => forF (partL l (onlyL es [d]))))] [1, 2] (fun _ _ => none) [([false, true, true, false, false, false, false], [0, 3]), ([true, true, true, false, false, false, false], [3]), ([false, true, true, true, false, false, false], [0, 4]), ([true, true, true, true, false, false, false], [4]), ([false, true, true, true, true, false, false], [0]), ([true, true, true, true, true, false, false], [5]), ([true, true, true, true, true, true, false], [6]), ([true, true, true, true, true, true, true], [])] (by kernel_rfl) (by rfl) ?_
  cbv
  (repeat' (first | apply And.intro | apply EqU.mk))
  all_goals (try trivial)
  all_goals (try (((first | refine call_q (im_missingL es [d] he hd1 hne) (by cbv) ?_ | refine call_pure (im_missingL es [d] he hd1 hne) (by cbv) ?_); cbv; ((try simp only [IfP_iff, and_true, true_and, decide_eq_true_eq, decide_eq_false_iff_not]); (try simp only [natc, getI_gi, at2_0, at2_1]); (try dsimp only [Ty.den]); (try simp only [natc] at *); (repeat' (first | apply And.intro | intro _))))))
  all_goals (try (((first | refine call_q (im_forestOf n l (onlyL es [d]) hl ho hg ha) (by cbv) ?_ | refine call_pure (im_forestOf n l (onlyL es [d]) hl ho hg ha) (by cbv) ?_); cbv; ((try simp only [IfP_iff, and_true, true_and, decide_eq_true_eq, decide_eq_false_iff_not]); (try simp only [natc, getI_gi, at2_0, at2_1]); (try dsimp only [Ty.den]); (try simp only [natc] at *); (repeat' (first | apply And.intro | intro _))))))
  all_goals (try (first | trivial | rfl))
  refine EndG.plain [] ?_
  cbv
  (simp only [IfP_iff, EqU_iff, Obl_iff, and_true, true_and, inI_iff, decide_eq_true_eq, decide_eq_false_iff_not]; (try simp only [natc, getI_gi, at2_0, at2_1]); (try dsimp only [Ty.den]); try simp only [natc] at *)
theorem im_connectsP (f : List Int) (a b : Int) (hf : f.length = 8) (a0 : 0 ≤ a) (a1 : a < 8) (b0 : 0 ≤ b) (b1 : b < 8) : Spec2 Try.prog 46 [.agg (.ar 7 .int) fun _ => f, .agg (.pr .int .int) fun _ => (a, b)] [] [.bool fun _ => decide (gi f a = gi f b)] [] := by
  refine fnS [] [4] Try.func46 rfl (by decide) rfl (by decide) (by kernel_rfl) rfl (by simp [Try.ntmps46]) ?_
  cbv
  ((try simp only [IfP_iff, and_true, true_and, decide_eq_true_eq, decide_eq_false_iff_not]); (try simp only [natc, getI_gi, at2_0, at2_1]); (try dsimp only [Ty.den]); (try simp only [natc] at *); (repeat' (first | apply And.intro | intro _)))
  all_goals (try (simp only [IfP_iff, EqU_iff, Obl_iff, and_true, true_and, inI_iff, decide_eq_true_eq, decide_eq_false_iff_not]; (try simp only [natc, getI_gi, at2_0, at2_1]); (try dsimp only [Ty.den]); try simp only [natc] at *))
  all_goals ((repeat' (first | apply And.intro | intro _)) <;> first | omega | (simp only [List.length_append, List.length_cons, List.length_nil]; omega) | grind)
theorem im_cutOf (n : Int) (l : List (Int × Int)) (es : List Int) (d : Int) (hl : l.length ≤ 1048576) (he : es.length ≤ 1048576) : Spec2 Try.prog 15 [.agg (.pr .int (.sl (.pr .int .int))) fun _ => (n, l), .sl .int fun _ => es, .int fun _ => d] [] [.ref 0, .bool fun _ => cutOk n l es d] [some (.row 3 .int fun _ => cutR n l es d)] := by
  have h9 := cut_ok_eq n l es d
  by_cases hk : cutOk n l es d = true
  case neg =>
    rw [Bool.not_eq_true] at hk
    have h8 : cutR n l es d = [] := by unfold cutR; rw [hk]; rfl
    rw [hk, h8]
    rw [hk] at h9
    refine fnS [1] [6, 7] Try.func15 rfl (by decide) rfl (by decide) (by kernel_rfl) rfl (by simp [Try.ntmps15]) ?_
    cbv
    repeat' (first | ((first | refine call_q (im_isTree n l es hl he) (by cbv) ?_ | refine call_pure (im_isTree n l es hl he) (by cbv) ?_); cbv; ((try simp only [IfP_iff, and_true, true_and, decide_eq_true_eq, decide_eq_false_iff_not]); (try simp only [natc, getI_gi, at2_0, at2_1]); (try dsimp only [Ty.den]); (try simp only [natc] at *); (repeat' (first | apply And.intro | intro _)))))
    all_goals (try (simp only [IfP_iff, EqU_iff, Obl_iff, and_true, true_and, inI_iff, decide_eq_true_eq, decide_eq_false_iff_not]; (try simp only [natc, getI_gi, at2_0, at2_1]); (try dsimp only [Ty.den]); try simp only [natc] at *))
    ((try simp only [IfP_iff, and_true, true_and, decide_eq_true_eq, decide_eq_false_iff_not]); (try simp only [natc, getI_gi, at2_0, at2_1]); (try dsimp only [Ty.den]); (try simp only [natc] at *); (repeat' (first | apply And.intro | intro _)))
    all_goals (repeat' (first | ((first | refine call_q (go_contains es d he) (by cbv) ?_ | refine call_pure (go_contains es d he) (by cbv) ?_); cbv; ((try simp only [IfP_iff, and_true, true_and, decide_eq_true_eq, decide_eq_false_iff_not]); (try simp only [natc, getI_gi, at2_0, at2_1]); (try dsimp only [Ty.den]); (try simp only [natc] at *); (repeat' (first | apply And.intro | intro _))))))
    all_goals (try (simp only [IfP_iff, EqU_iff, Obl_iff, and_true, true_and, inI_iff, decide_eq_true_eq, decide_eq_false_iff_not]; (try simp only [natc, getI_gi, at2_0, at2_1]); (try dsimp only [Ty.den]); try simp only [natc] at *))
    all_goals (try ((try simp only [IfP_iff, and_true, true_and, decide_eq_true_eq, decide_eq_false_iff_not]); (try simp only [natc, getI_gi, at2_0, at2_1]); (try dsimp only [Ty.den]); (try simp only [natc] at *); (repeat' (first | apply And.intro | intro _))))
    all_goals (try (exfalso; simp_all; done))
    all_goals (try (simp only [IfP_iff, EqU_iff, Obl_iff, and_true, true_and, inI_iff, decide_eq_true_eq, decide_eq_false_iff_not]; (try simp only [natc, getI_gi, at2_0, at2_1]); (try dsimp only [Ty.den]); try simp only [natc] at *))
    all_goals ((repeat' (first | apply And.intro | intro _)) <;> first | omega | (simp only [List.length_append, List.length_cons, List.length_nil]; omega) | grind)
  have h8 : cutR n l es d = pref (crB (cutD n l es d) l) l.length := by unfold cutR; rw [if_pos hk]
  have hs := cut_same hk
  rw [← h8] at hs
  have hk2 := hk
  unfold cutOk at hk2
  simp only [Bool.and_eq_true] at hk2
  obtain ⟨ht, hh⟩ := hk2
  obtain ⟨hg, n0, ha, hz, d0, d1⟩ := two_in ht
  obtain ⟨⟨g0, g1⟩, g2, _⟩ := graph_edges hg
  have ha2 : ascB l.length (onlyL es [d]) = true := asc_filter _ ha
  have hne : es ≠ [] := fun e => by rw [e] at hh; cases hh
  have hi : (someB n l && treeB n l es) = true := by
    rw [hk, hh, Bool.and_true] at h9
    exact h9.symm
  have hfl := forF_len (partL l (onlyL es [d]))
  rw [hk]
  refine fnS [2] [6, 7] Try.func15 rfl (by decide) rfl (by decide) (by kernel_rfl) rfl (by simp [Try.ntmps15]) ?_
  cbv
  repeat' (first | ((first | refine call_q (im_isTree n l es hl he) (by cbv) ?_ | refine call_pure (im_isTree n l es hl he) (by cbv) ?_); cbv; ((try simp only [IfP_iff, and_true, true_and, decide_eq_true_eq, decide_eq_false_iff_not]); (try simp only [natc, getI_gi, at2_0, at2_1]); (try dsimp only [Ty.den]); (try simp only [natc] at *); (repeat' (first | apply And.intro | intro _)))))
  all_goals (try (simp only [IfP_iff, EqU_iff, Obl_iff, and_true, true_and, inI_iff, decide_eq_true_eq, decide_eq_false_iff_not]; (try simp only [natc, getI_gi, at2_0, at2_1]); (try dsimp only [Ty.den]); try simp only [natc] at *))
  ((try simp only [IfP_iff, and_true, true_and, decide_eq_true_eq, decide_eq_false_iff_not]); (try simp only [natc, getI_gi, at2_0, at2_1]); (try dsimp only [Ty.den]); (try simp only [natc] at *); (repeat' (first | apply And.intro | intro _)))
  all_goals (repeat' (first | ((first | refine call_q (go_contains es d he) (by cbv) ?_ | refine call_pure (go_contains es d he) (by cbv) ?_); cbv; ((try simp only [IfP_iff, and_true, true_and, decide_eq_true_eq, decide_eq_false_iff_not]); (try simp only [natc, getI_gi, at2_0, at2_1]); (try dsimp only [Ty.den]); (try simp only [natc] at *); (repeat' (first | apply And.intro | intro _))))))
  all_goals (try (simp only [IfP_iff, EqU_iff, Obl_iff, and_true, true_and, inI_iff, decide_eq_true_eq, decide_eq_false_iff_not]; (try simp only [natc, getI_gi, at2_0, at2_1]); (try dsimp only [Ty.den]); try simp only [natc] at *))
  all_goals (try ((try simp only [IfP_iff, and_true, true_and, decide_eq_true_eq, decide_eq_false_iff_not]); (try simp only [natc, getI_gi, at2_0, at2_1]); (try dsimp only [Ty.den]); (try simp only [natc] at *); (repeat' (first | apply And.intro | intro _))))
  all_goals (try (exact absurd (by assumption : (!(someB n l && treeB n l es)) = true) (by rw [hi]; decide)))
  all_goals (try (exact absurd (by assumption : (!hasB es d) = true) (by rw [hh]; decide)))
  all_goals (try (exfalso; simp_all; done))
  all_goals (repeat' (first | ((first | refine call_q (im_forestLeft n l es d hl he hg ha2 hne) (by cbv) ?_ | refine call_pure (im_forestLeft n l es d hl he hg ha2 hne) (by cbv) ?_); cbv; ((try simp only [IfP_iff, and_true, true_and, decide_eq_true_eq, decide_eq_false_iff_not]); (try simp only [natc, getI_gi, at2_0, at2_1]); (try dsimp only [Ty.den]); (try simp only [natc] at *); (repeat' (first | apply And.intro | intro _))))))
  all_goals (try (simp only [IfP_iff, EqU_iff, Obl_iff, and_true, true_and, inI_iff, decide_eq_true_eq, decide_eq_false_iff_not]; (try simp only [natc, getI_gi, at2_0, at2_1]); (try dsimp only [Ty.den]); try simp only [natc] at *))
  refine loopX (by kernel_rfl) (fun e : Int => 0 ≤ e ∧ e ≤ l.length) (fun e => [(37, .int fun _ => e), (11, .ref 2), (33, .junk)]) (fun e => [(2, some (.row 3 .int fun _ => pref (crP (forF (partL l (onlyL es [d]))) l) e.toNat))]) (fun e => (l.length - e).toNat) (· + 1) 0 (by omega) ?_ ?_
  · cbv
    (simp only [IfP_iff, EqU_iff, Obl_iff, and_true, true_and, inI_iff, decide_eq_true_eq, decide_eq_false_iff_not]; (try simp only [natc, getI_gi, at2_0, at2_1]); (try dsimp only [Ty.den]); try simp only [natc] at *)
    simp [pref]
  · intro e hi2
    have h1 := pref_next (p := crP (forF (partL l (onlyL es [d]))) l) hi2.1
    have h2 := pref_len (p := crP (forF (partL l (onlyL es [d]))) l) hi2.1
    have h3 : e < (l.length : Int) → 0 ≤ (getI (.pr .int .int) l e).1 ∧ (getI (.pr .int .int) l e).1 < 8 ∧ 0 ≤ (getI (.pr .int .int) l e).2 ∧ (getI (.pr .int .int) l e).2 < 8 := fun h => by
      have t := g2 _ (List.mem_of_getElem? (getI_get (t := (.pr .int .int)) hi2.1 h))
      exact ⟨t.1, Int.lt_trans t.2.1 (Int.lt_of_lt_of_le t.2.2 g1), Int.le_of_lt (Int.lt_of_le_of_lt t.1 t.2.1), Int.lt_of_lt_of_le t.2.2 g1⟩
    have h4 : ¬ e < (l.length : Int) → pref (crP (forF (partL l (onlyL es [d]))) l) e.toNat = cutR n l es d := fun h => by rw [← hs, show e.toNat = l.length by omega]
    have h5 : (!decide (gi (forF (partL l (onlyL es [d]))) (getI (.pr .int .int) l e).1 = gi (forF (partL l (onlyL es [d]))) (getI (.pr .int .int) l e).2)) = true → pref (crP (forF (partL l (onlyL es [d]))) l) (e + 1).toNat = pref (crP (forF (partL l (onlyL es [d]))) l) e.toNat ++ [e] := fun h => by rw [h1, if_pos (show crP (forF (partL l (onlyL es [d]))) l e = true from h)]
    have h6 : (!decide (gi (forF (partL l (onlyL es [d]))) (getI (.pr .int .int) l e).1 = gi (forF (partL l (onlyL es [d]))) (getI (.pr .int .int) l e).2)) = false → pref (crP (forF (partL l (onlyL es [d]))) l) (e + 1).toNat = pref (crP (forF (partL l (onlyL es [d]))) l) e.toNat := fun h => by rw [h1, if_neg (by unfold crP; rw [h]; decide), List.append_nil]
    clear g2 hs h1 h8 h9
    cbv
    ((try simp only [IfP_iff, and_true, true_and, decide_eq_true_eq, decide_eq_false_iff_not]); (try simp only [natc, getI_gi, at2_0, at2_1]); (try dsimp only [Ty.den]); (try simp only [natc] at *); (repeat' (first | apply And.intro | intro _)))
    all_goals (repeat' (first | ((first | refine call_q (im_connectsP (forF (partL l (onlyL es [d]))) (getI (.pr .int .int) l e).1 (getI (.pr .int .int) l e).2 hfl (h3 (by assumption)).1 (h3 (by assumption)).2.1 (h3 (by assumption)).2.2.1 (h3 (by assumption)).2.2.2) (by cbv) ?_ | refine call_pure (im_connectsP (forF (partL l (onlyL es [d]))) (getI (.pr .int .int) l e).1 (getI (.pr .int .int) l e).2 hfl (h3 (by assumption)).1 (h3 (by assumption)).2.1 (h3 (by assumption)).2.2.1 (h3 (by assumption)).2.2.2) (by cbv) ?_); cbv; ((try simp only [IfP_iff, and_true, true_and, decide_eq_true_eq, decide_eq_false_iff_not]); (try simp only [natc, getI_gi, at2_0, at2_1]); (try dsimp only [Ty.den]); (try simp only [natc] at *); (repeat' (first | apply And.intro | intro _))))))
    all_goals (try ((try simp only [IfP_iff, and_true, true_and, decide_eq_true_eq, decide_eq_false_iff_not]); (try simp only [natc, getI_gi, at2_0, at2_1]); (try dsimp only [Ty.den]); (try simp only [natc] at *); (repeat' (first | apply And.intro | intro _))))
    all_goals (first
      | (refine RenL.mk ⟨[0, 1, 2], ?_⟩
         cbv
         (simp only [IfP_iff, EqU_iff, Obl_iff, and_true, true_and, inI_iff, decide_eq_true_eq, decide_eq_false_iff_not]; (try simp only [natc, getI_gi, at2_0, at2_1]); (try dsimp only [Ty.den]); try simp only [natc] at *)
         exact (h5 (by assumption)).symm)
      | (refine RenL.mk ⟨[0, 1, 2], ?_⟩
         cbv
         (simp only [IfP_iff, EqU_iff, Obl_iff, and_true, true_and, inI_iff, decide_eq_true_eq, decide_eq_false_iff_not]; (try simp only [natc, getI_gi, at2_0, at2_1]); (try dsimp only [Ty.den]); try simp only [natc] at *)
         exact (h6 (by assumption)).symm)
      | ((simp only [IfP_iff, EqU_iff, Obl_iff, and_true, true_and, inI_iff, decide_eq_true_eq, decide_eq_false_iff_not]; (try simp only [natc, getI_gi, at2_0, at2_1]); (try dsimp only [Ty.den]); try simp only [natc] at *); done)
      | ((simp only [IfP_iff, EqU_iff, Obl_iff, and_true, true_and, inI_iff, decide_eq_true_eq, decide_eq_false_iff_not]; (try simp only [natc, getI_gi, at2_0, at2_1]); (try dsimp only [Ty.den]); try simp only [natc] at *)
         (repeat' (first | apply And.intro | intro _)) <;> first | omega | (exact h4 (by assumption)) | (rw [List.length_cons, List.length_nil]; omega) | grind)
      | trace_state)
end Go.Proofs.Ytbpheblbbdiapab.M

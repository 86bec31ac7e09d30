/- CircleOf: the circle, and the program. -/
import Derived.Test.YtbpheblbbdiapabTkQVCircleOf
import Derived.Test.YtbpheblbbdiapabOvQVCircleOf
import Derived.Test.YtbpheblbbdiapabSoQVCircleOf
import Derived.Test.YtbpheblbbdiapabQgVCircleOf
namespace Go.Proofs.Ytbpheblbbdiapab.M
open Go.RowKit Abs
set_option linter.unusedSimpArgs false
set_option linter.unusedVariables false
set_option maxRecDepth 100000
set_option maxHeartbeats 4000000
def cirP (l : List (Int × Int)) (es : List Int) (e d : Int) : Bool := crP (forF (partL l (onlyL es [d]))) l e
def cirV (n : Int) (l : List (Int × Int)) (es : List Int) (e : Int) : Bool := twoB n l es e && !hasB es e
def cirL (l : List (Int × Int)) (es : List Int) (e : Int) : List Int := es.filter (cirP l es e)
def cirR (n : Int) (l : List (Int × Int)) (es : List Int) (e : Int) : List Int := if cirV n l es e = true then srt (cirL l es e ++ [e]) else []
theorem cirL_next {l : List (Int × Int)} {es : List Int} {e k : Int} (h0 : 0 ≤ k) (h1 : k < (es.length : Int)) : (es.take (k + 1).toNat).filter (cirP l es e) = (es.take k.toNat).filter (cirP l es e) ++ if cirP l es e (gi es k) = true then [gi es k] else [] := by
  rw [take_gi h0 h1, List.filter_append]
  by_cases h : cirP l es e (gi es k) = true
  · rw [if_pos h, List.filter_cons_of_pos h]; rfl
  · rw [if_neg h, List.filter_cons_of_neg h]; rfl
theorem im_circleIn (n : Int) (l : List (Int × Int)) (es : List Int) (e : Int) (hl : l.length ≤ 1048576) (he : es.length ≤ 1000) (hg : graphOk n l = true) (ha : ascB l.length es = true) (e0 : 0 ≤ e) (e1 : e < l.length) : Spec2 Try.prog 51 [.agg (.pr .int (.sl (.pr .int .int))) fun _ => (n, l), .sl .int fun _ => es, .int fun _ => e] [] [.ref 0] [some (.row 3 .int fun _ => srt (cirL l es e ++ [e]))] := by
  have he2 : es.length ≤ 1048576 := by omega
  obtain ⟨⟨g0, g1⟩, g2, _⟩ := graph_edges hg
  have ha2 : ∀ d : Int, ascB l.length (onlyL es [d]) = true := fun d => asc_filter _ ha
  have hee : 0 ≤ (getI (.pr .int .int) l e).1 ∧ (getI (.pr .int .int) l e).1 < 8 ∧ 0 ≤ (getI (.pr .int .int) l e).2 ∧ (getI (.pr .int .int) l e).2 < 8 := by
    have t := g2 _ (List.mem_of_getElem? (getI_get (t := (.pr .int .int)) e0 e1))
    exact ⟨t.1, Int.lt_trans t.2.1 (Int.lt_of_lt_of_le t.2.2 g1), Int.le_of_lt (Int.lt_of_le_of_lt t.1 t.2.1), Int.lt_of_lt_of_le t.2.2 g1⟩
  have hperm : srt ([e] ++ cirL l es e) = srt (cirL l es e ++ [e]) := srt_congr List.perm_append_comm
  have hcl : (cirL l es e).length ≤ es.length := List.length_filter_le _ _
  have hs : ([e] ++ cirL l es e).length ≤ 1048576 := by rw [List.length_append, List.length_cons, List.length_nil]; omega
  rw [← hperm]
  clear g2
  refine fnS [1] [6] Try.func51 rfl (by decide) rfl (by decide) (by kernel_rfl) rfl (by simp [Try.ntmps51]) ?_
  cbv
  refine loopP (by kernel_rfl) (fun k : Int => 0 ≤ k ∧ k ≤ es.length) (fun k => [(14, .int fun _ => k), (7, .ref 1), (11, .junk), (9, .junk)]) (fun k => [(1, some (.row 3 .int fun _ => [e] ++ (es.take k.toNat).filter (cirP l es e)))]) (fun k => (es.length - k).toNat) (· + 1) 0 (by omega) ?_ ?_
  · cbv
    (simp only [IfP_iff, EqU_iff, Obl_iff, and_true, true_and, inI_iff, decide_eq_true_eq, decide_eq_false_iff_not]; (try simp only [natc, getI_gi, at2_0, at2_1]); (try dsimp only [Ty.den]); try simp only [natc] at *)
    rfl
  · intro k hk
    have b1 := fun h => cirL_next (l := l) (es := es) (e := e) (k := k) hk.1 h
    have b2 : ((es.take k.toNat).filter (cirP l es e)).length ≤ 1000 := Nat.le_trans (List.length_filter_le _ _) (by rw [List.length_take]; omega)
    have b3 : ¬ k < (es.length : Int) → (es.take k.toNat).filter (cirP l es e) = cirL l es e := fun h => by rw [List.take_of_length_le (by omega)]; rfl
    have b5 : ([e] ++ (es.take k.toNat).filter (cirP l es e)).length ≤ 1001 := by rw [List.length_append, List.length_cons, List.length_nil]; omega
    have b4 : k < (es.length : Int) → es ≠ [] := fun h e => by rw [e] at h; simp at h; omega
    have hfl := forF_len (partL l (onlyL es [gi es k]))
    have hcp : crP (forF (partL l (onlyL es [gi es k]))) l e = !decide (gi (forF (partL l (onlyL es [gi es k]))) (getI (.pr .int .int) l e).1 = gi (forF (partL l (onlyL es [gi es k]))) (getI (.pr .int .int) l e).2) := rfl
    have c1 : k < (es.length : Int) → (!decide (gi (forF (partL l (onlyL es [gi es k]))) (getI (.pr .int .int) l e).1 = gi (forF (partL l (onlyL es [gi es k]))) (getI (.pr .int .int) l e).2)) = true → ([e] ++ (es.take k.toNat).filter (cirP l es e)) ++ [gi es k] = [e] ++ (es.take (k + 1).toNat).filter (cirP l es e) := fun h hb => by
      rw [b1 h, if_pos (show cirP l es e (gi es k) = true by unfold cirP; rw [hcp]; exact hb), List.append_assoc]
    have c2 : k < (es.length : Int) → (!decide (gi (forF (partL l (onlyL es [gi es k]))) (getI (.pr .int .int) l e).1 = gi (forF (partL l (onlyL es [gi es k]))) (getI (.pr .int .int) l e).2)) = false → [e] ++ (es.take k.toNat).filter (cirP l es e) = [e] ++ (es.take (k + 1).toNat).filter (cirP l es e) := fun h hb => by
      rw [b1 h, if_neg (show ¬ cirP l es e (gi es k) = true by unfold cirP; rw [hcp, hb]; decide), List.append_nil]
    clear b1 hcp
    cbv
    ((try simp only [IfP_iff, and_true, true_and, decide_eq_true_eq, decide_eq_false_iff_not]); (try simp only [natc, getI_gi, at2_0, at2_1]); (try dsimp only [Ty.den]); (try simp only [natc] at *); (repeat' (first | apply And.intro | intro _)))
    all_goals (repeat' (first | ((first | refine call_q (im_forestLeft n l es (gi es k) hl he2 hg (ha2 _) (b4 (by assumption))) (by cbv) ?_ | refine call_pure (im_forestLeft n l es (gi es k) hl he2 hg (ha2 _) (b4 (by assumption))) (by cbv) ?_); cbv; ((try simp only [IfP_iff, and_true, true_and, decide_eq_true_eq, decide_eq_false_iff_not]); (try simp only [natc, getI_gi, at2_0, at2_1]); (try dsimp only [Ty.den]); (try simp only [natc] at *); (repeat' (first | apply And.intro | intro _)))) | ((first | refine call_q (im_connectsP (forF (partL l (onlyL es [gi es k]))) (getI (.pr .int .int) l e).1 (getI (.pr .int .int) l e).2 hfl hee.1 hee.2.1 hee.2.2.1 hee.2.2.2) (by cbv) ?_ | refine call_pure (im_connectsP (forF (partL l (onlyL es [gi es k]))) (getI (.pr .int .int) l e).1 (getI (.pr .int .int) l e).2 hfl hee.1 hee.2.1 hee.2.2.1 hee.2.2.2) (by cbv) ?_); cbv; ((try simp only [IfP_iff, and_true, true_and, decide_eq_true_eq, decide_eq_false_iff_not]); (try simp only [natc, getI_gi, at2_0, at2_1]); (try dsimp only [Ty.den]); (try simp only [natc] at *); (repeat' (first | apply And.intro | intro _))))))
    all_goals (try ((try simp only [IfP_iff, and_true, true_and, decide_eq_true_eq, decide_eq_false_iff_not]); (try simp only [natc, getI_gi, at2_0, at2_1]); (try dsimp only [Ty.den]); (try simp only [natc] at *); (repeat' (first | apply And.intro | intro _))))
    all_goals (try (rw [b3 (by assumption)]))
    all_goals (try ((refine call_own 1 (go_sort ([e] ++ cirL l es e) hs) (by cbv) (by cbv; simp only [or_true, true_or, and_true]) ?_; cbv; ((try simp only [IfP_iff, and_true, true_and, decide_eq_true_eq, decide_eq_false_iff_not]); (try simp only [natc, getI_gi, at2_0, at2_1]); (try dsimp only [Ty.den]); (try simp only [natc] at *); (repeat' (first | apply And.intro | intro _))))))
    all_goals (try (simp only [IfP_iff, EqU_iff, Obl_iff, and_true, true_and, inI_iff, decide_eq_true_eq, decide_eq_false_iff_not]; (try simp only [natc, getI_gi, at2_0, at2_1]); (try dsimp only [Ty.den]); try simp only [natc] at *))
    all_goals ((repeat' (first | apply And.intro | intro _)) <;> first | omega | (exact c1 (by assumption) (by assumption)) | (exact c2 (by assumption) (by assumption)) | (exact Nat.le_trans (Nat.add_le_add b5 (Nat.le_refl 1)) (by decide)) | trace_state)
theorem two_cut {n : Int} {l : List (Int × Int)} {es : List Int} {e d : Int} (h : twoB n l es e = true) (hd : d ∈ es) : cutOk n l es d = true := by
  rw [cut_ok_eq]
  unfold twoB at h
  simp only [Bool.and_eq_true] at h ⊢
  exact ⟨⟨h.1.1, h.1.2⟩, hasB_iff.2 hd⟩
theorem cir_cut {n : Int} {l : List (Int × Int)} {es : List Int} {e d : Int} (h : twoB n l es e = true) (hd : d ∈ es) (e0 : 0 ≤ e) (e1 : e < l.length) : hasB (pref (crB (cutD n l es d) l) l.length) e = cirP l es e d := by
  rw [← cut_same (two_cut h hd), pref_hasB e0 (by omega)]
  rfl
theorem im_circleOf (n : Int) (l : List (Int × Int)) (es : List Int) (e : Int) (hl : l.length ≤ 1048576) (he : es.length ≤ 1048576) : Spec2 Try.prog 22 [.agg (.pr .int (.sl (.pr .int .int))) fun _ => (n, l), .sl .int fun _ => es, .int fun _ => e] [] [.ref 0, .bool fun _ => cirV n l es e] [some (.row 3 .int fun _ => cirR n l es e)] := by
  have h9 : cirV n l es e = ((someB n l && treeB n l es) && (decide (0 ≤ e) && decide (e < (l.length : Int))) && !hasB es e) := by
    have e1 : decide (e ≤ (l.length : Int) - 1) = decide (e < (l.length : Int)) := by rw [Bool.eq_iff_iff, decide_eq_true_eq, decide_eq_true_eq]; omega
    unfold cirV twoB
    rw [e1]
  by_cases hk : cirV n l es e = true
  case neg =>
    rw [Bool.not_eq_true] at hk
    have h8 : cirR n l es e = [] := by unfold cirR; rw [hk]; rfl
    rw [hk, h8]
    rw [hk] at h9
    have hno : (!(someB n l && treeB n l es)) = false → (!(decide (0 ≤ e) && decide (e < (l.length : Int)))) = false → hasB es e = false → False := fun a b c => by
      rw [show (someB n l && treeB n l es) = true by simpa using a, show (decide (0 ≤ e) && decide (e < (l.length : Int))) = true by simpa using b, c] at h9
      cases h9
    refine fnS [1] [6, 7] Try.func22 rfl (by decide) rfl (by decide) (by kernel_rfl) rfl (by simp [Try.ntmps22]) ?_
    cbv
    repeat' (first | ((first | refine call_q (im_isTree n l es hl he) (by cbv) ?_ | refine call_pure (im_isTree n l es hl he) (by cbv) ?_); cbv; ((try simp only [IfP_iff, and_true, true_and, decide_eq_true_eq, decide_eq_false_iff_not]); (try simp only [natc, getI_gi, at2_0, at2_1]); (try dsimp only [Ty.den]); (try simp only [natc] at *); (repeat' (first | apply And.intro | intro _)))))
    all_goals (try (simp only [IfP_iff, EqU_iff, Obl_iff, and_true, true_and, inI_iff, decide_eq_true_eq, decide_eq_false_iff_not]; (try simp only [natc, getI_gi, at2_0, at2_1]); (try dsimp only [Ty.den]); try simp only [natc] at *))
    ((try simp only [IfP_iff, and_true, true_and, decide_eq_true_eq, decide_eq_false_iff_not]); (try simp only [natc, getI_gi, at2_0, at2_1]); (try dsimp only [Ty.den]); (try simp only [natc] at *); (repeat' (first | apply And.intro | intro _)))
    all_goals (repeat' (first | ((first | refine call_q (im_isIndex e (l.length : Int)) (by cbv) ?_ | refine call_pure (im_isIndex e (l.length : Int)) (by cbv) ?_); cbv; ((try simp only [IfP_iff, and_true, true_and, decide_eq_true_eq, decide_eq_false_iff_not]); (try simp only [natc, getI_gi, at2_0, at2_1]); (try dsimp only [Ty.den]); (try simp only [natc] at *); (repeat' (first | apply And.intro | intro _))))))
    all_goals (try ((try simp only [IfP_iff, and_true, true_and, decide_eq_true_eq, decide_eq_false_iff_not]); (try simp only [natc, getI_gi, at2_0, at2_1]); (try dsimp only [Ty.den]); (try simp only [natc] at *); (repeat' (first | apply And.intro | intro _))))
    all_goals (repeat' (first | ((first | refine call_q (go_contains es e he) (by cbv) ?_ | refine call_pure (go_contains es e he) (by cbv) ?_); cbv; ((try simp only [IfP_iff, and_true, true_and, decide_eq_true_eq, decide_eq_false_iff_not]); (try simp only [natc, getI_gi, at2_0, at2_1]); (try dsimp only [Ty.den]); (try simp only [natc] at *); (repeat' (first | apply And.intro | intro _))))))
    all_goals (try ((try simp only [IfP_iff, and_true, true_and, decide_eq_true_eq, decide_eq_false_iff_not]); (try simp only [natc, getI_gi, at2_0, at2_1]); (try dsimp only [Ty.den]); (try simp only [natc] at *); (repeat' (first | apply And.intro | intro _))))
    all_goals (try (exact (hno (by assumption) (by assumption) (by assumption)).elim))
    all_goals (try (simp only [IfP_iff, EqU_iff, Obl_iff, and_true, true_and, inI_iff, decide_eq_true_eq, decide_eq_false_iff_not]; (try simp only [natc, getI_gi, at2_0, at2_1]); (try dsimp only [Ty.den]); try simp only [natc] at *))
  have h8 : cirR n l es e = srt (cirL l es e ++ [e]) := by unfold cirR; rw [if_pos hk]
  have hk2 := hk
  unfold cirV at hk2
  simp only [Bool.and_eq_true] at hk2
  obtain ⟨ht, hh⟩ := hk2
  obtain ⟨hg, n0, ha, hz, e0, e1⟩ := two_in ht
  have hi : (someB n l && treeB n l es) = true := by
    unfold twoB at ht
    simp only [Bool.and_eq_true] at ht ⊢
    exact ⟨ht.1.1, ht.1.2⟩
  have hc : (decide (0 ≤ e) && decide (e < (l.length : Int))) = true := by rw [decide_eq_true e0, decide_eq_true e1]; rfl
  have hh2 : hasB es e = false := by simpa using hh
  have hel : es.length ≤ 1000 := by
    obtain ⟨⟨_, g1⟩, _⟩ := graph_edges hg
    unfold twoB treeB at ht
    simp only [Bool.and_eq_true, decide_eq_true_eq] at ht
    have := ht.1.2.1.1
    omega
  rw [hk, h8]
  refine fnS [1] [6, 7] Try.func22 rfl (by decide) rfl (by decide) (by kernel_rfl) rfl (by simp [Try.ntmps22]) ?_
  cbv
  repeat' (first | ((first | refine call_q (im_isTree n l es hl he) (by cbv) ?_ | refine call_pure (im_isTree n l es hl he) (by cbv) ?_); cbv; ((try simp only [IfP_iff, and_true, true_and, decide_eq_true_eq, decide_eq_false_iff_not]); (try simp only [natc, getI_gi, at2_0, at2_1]); (try dsimp only [Ty.den]); (try simp only [natc] at *); (repeat' (first | apply And.intro | intro _)))))
  all_goals (try (simp only [IfP_iff, EqU_iff, Obl_iff, and_true, true_and, inI_iff, decide_eq_true_eq, decide_eq_false_iff_not]; (try simp only [natc, getI_gi, at2_0, at2_1]); (try dsimp only [Ty.den]); try simp only [natc] at *))
  ((try simp only [IfP_iff, and_true, true_and, decide_eq_true_eq, decide_eq_false_iff_not]); (try simp only [natc, getI_gi, at2_0, at2_1]); (try dsimp only [Ty.den]); (try simp only [natc] at *); (repeat' (first | apply And.intro | intro _)))
  all_goals (repeat' (first | ((first | refine call_q (im_isIndex e (l.length : Int)) (by cbv) ?_ | refine call_pure (im_isIndex e (l.length : Int)) (by cbv) ?_); cbv; ((try simp only [IfP_iff, and_true, true_and, decide_eq_true_eq, decide_eq_false_iff_not]); (try simp only [natc, getI_gi, at2_0, at2_1]); (try dsimp only [Ty.den]); (try simp only [natc] at *); (repeat' (first | apply And.intro | intro _))))))
  all_goals (try ((try simp only [IfP_iff, and_true, true_and, decide_eq_true_eq, decide_eq_false_iff_not]); (try simp only [natc, getI_gi, at2_0, at2_1]); (try dsimp only [Ty.den]); (try simp only [natc] at *); (repeat' (first | apply And.intro | intro _))))
  all_goals (repeat' (first | ((first | refine call_q (go_contains es e he) (by cbv) ?_ | refine call_pure (go_contains es e he) (by cbv) ?_); cbv; ((try simp only [IfP_iff, and_true, true_and, decide_eq_true_eq, decide_eq_false_iff_not]); (try simp only [natc, getI_gi, at2_0, at2_1]); (try dsimp only [Ty.den]); (try simp only [natc] at *); (repeat' (first | apply And.intro | intro _))))))
  all_goals (try ((try simp only [IfP_iff, and_true, true_and, decide_eq_true_eq, decide_eq_false_iff_not]); (try simp only [natc, getI_gi, at2_0, at2_1]); (try dsimp only [Ty.den]); (try simp only [natc] at *); (repeat' (first | apply And.intro | intro _))))
  all_goals (try (exact absurd (by assumption : (!(someB n l && treeB n l es)) = true) (by rw [hi]; decide)))
  all_goals (try (exact absurd (by assumption : (!(decide (0 ≤ e) && decide (e < (l.length : Int)))) = true) (by rw [hc]; decide)))
  all_goals (try (exact absurd (by assumption : hasB es e = true) (by rw [hh2]; decide)))
  all_goals (repeat' (first | ((first | refine call_q (im_circleIn n l es e hl hel hg ha e0 e1) (by cbv) ?_ | refine call_pure (im_circleIn n l es e hl hel hg ha e0 e1) (by cbv) ?_); cbv; ((try simp only [IfP_iff, and_true, true_and, decide_eq_true_eq, decide_eq_false_iff_not]); (try simp only [natc, getI_gi, at2_0, at2_1]); (try dsimp only [Ty.den]); (try simp only [natc] at *); (repeat' (first | apply And.intro | intro _))))))
  all_goals (try (simp only [IfP_iff, EqU_iff, Obl_iff, and_true, true_and, inI_iff, decide_eq_true_eq, decide_eq_false_iff_not]; (try simp only [natc, getI_gi, at2_0, at2_1]); (try dsimp only [Ty.den]); try simp only [natc] at *))
theorem sp_round (n : Int) (l : List (Int × Int)) (es : List Int) (e : Int) (hl : l.length ≤ 1048576) (he : es.length ≤ 1000) (ht : twoB n l es e = true) (hh : hasB es e = false) : Spec2 Try.prog 49 [.agg (.pr .int (.sl (.pr .int .int))) fun _ => (n, l), .sl .int fun _ => es, .int fun _ => e] [] [.ref 0] [some (.row 3 .int fun _ => srt (cirL l es e ++ [e]))] := by
  have he2 : es.length ≤ 1048576 := by omega
  obtain ⟨hg, n0, ha, hz, e0, e1⟩ := two_in ht
  have ha2 : ∀ d : Int, ascB l.length (onlyL es [d]) = true := fun d => asc_filter _ ha
  have hasc : (cirL l es e).Pairwise (· < ·) := (asc_pw ha).filter _
  have hno : hasB (cirL l es e) e = false := by
    rw [Bool.eq_false_iff]
    intro h
    have h1 := (List.mem_filter.1 (hasB_iff.1 h)).1
    rw [hasB_iff.2 h1] at hh
    cases hh
  have hcl : (cirL l es e).length ≤ es.length := List.length_filter_le _ _
  have hcl2 : (cirL l es e).length ≤ 1048576 := by omega
  rw [← put_srt hasc hno]
  refine fnS [2] [6] Try.func49 rfl (by decide) rfl (by decide) (by kernel_rfl) rfl (by simp [Try.ntmps49]) ?_
  cbv
  refine loopP (by kernel_rfl) (fun k : Int => 0 ≤ k ∧ k ≤ es.length) (fun k => [(8, .int fun _ => k), (7, .ref 1), (9, .junk)]) (fun k => [(1, some (.row 3 .int fun _ => (es.take k.toNat).filter (cirP l es e)))]) (fun k => (es.length - k).toNat) (· + 1) 0 (by omega) ?_ ?_
  · cbv
    (simp only [IfP_iff, EqU_iff, Obl_iff, and_true, true_and, inI_iff, decide_eq_true_eq, decide_eq_false_iff_not]; (try simp only [natc, getI_gi, at2_0, at2_1]); (try dsimp only [Ty.den]); try simp only [natc] at *)
    rfl
  · intro k hk
    have b1 := fun h => cirL_next (l := l) (es := es) (e := e) (k := k) hk.1 h
    have b2 : ((es.take k.toNat).filter (cirP l es e)).length ≤ 1000 := Nat.le_trans (List.length_filter_le _ _) (by rw [List.length_take]; omega)
    have b3 : ¬ k < (es.length : Int) → (es.take k.toNat).filter (cirP l es e) = cirL l es e := fun h => by rw [List.take_of_length_le (by omega)]; rfl
    have b4 : k < (es.length : Int) → 0 ≤ gi es k ∧ gi es k < l.length := fun h => asc_at ha hk.1 h
    have b6 : k < (es.length : Int) → hasB (pref (crB (cutD n l es (gi es k)) l) l.length) e = cirP l es e (gi es k) := fun h => cir_cut ht (gi_mem hk.1 h) e0 e1
    have b7 : (pref (crB (cutD n l es (gi es k)) l) l.length).length ≤ 1048576 := by
      have := pref_len (p := crB (cutD n l es (gi es k)) l) (k := (l.length : Int)) (by omega)
      rw [Int.toNat_natCast] at this
      omega
    have c1 : k < (es.length : Int) → hasB (pref (crB (cutD n l es (gi es k)) l) l.length) e = true → (es.take k.toNat).filter (cirP l es e) ++ [gi es k] = (es.take (k + 1).toNat).filter (cirP l es e) := fun h hb => by
      rw [b6 h] at hb
      rw [b1 h, if_pos hb]
    have c2 : k < (es.length : Int) → hasB (pref (crB (cutD n l es (gi es k)) l) l.length) e = false → (es.take k.toNat).filter (cirP l es e) = (es.take (k + 1).toNat).filter (cirP l es e) := fun h hb => by
      rw [b6 h] at hb
      rw [b1 h, if_neg (by rw [hb]; decide), List.append_nil]
    clear b1 b6
    cbv
    ((try simp only [IfP_iff, and_true, true_and, decide_eq_true_eq, decide_eq_false_iff_not]); (try simp only [natc, getI_gi, at2_0, at2_1]); (try dsimp only [Ty.den]); (try simp only [natc] at *); (repeat' (first | apply And.intro | intro _)))
    all_goals (repeat' (first | ((first | refine call_q (sp_cut n l es (gi es k) hl he2 hg (ha2 _) (b4 (by assumption)).1 (b4 (by assumption)).2) (by cbv) ?_ | refine call_pure (sp_cut n l es (gi es k) hl he2 hg (ha2 _) (b4 (by assumption)).1 (b4 (by assumption)).2) (by cbv) ?_); cbv; ((try simp only [IfP_iff, and_true, true_and, decide_eq_true_eq, decide_eq_false_iff_not]); (try simp only [natc, getI_gi, at2_0, at2_1]); (try dsimp only [Ty.den]); (try simp only [natc] at *); (repeat' (first | apply And.intro | intro _)))) | ((first | refine call_q (sp_has (pref (crB (cutD n l es (gi es k)) l) l.length) e b7) (by cbv) ?_ | refine call_pure (sp_has (pref (crB (cutD n l es (gi es k)) l) l.length) e b7) (by cbv) ?_); cbv; ((try simp only [IfP_iff, and_true, true_and, decide_eq_true_eq, decide_eq_false_iff_not]); (try simp only [natc, getI_gi, at2_0, at2_1]); (try dsimp only [Ty.den]); (try simp only [natc] at *); (repeat' (first | apply And.intro | intro _))))))
    all_goals (try ((try simp only [IfP_iff, and_true, true_and, decide_eq_true_eq, decide_eq_false_iff_not]); (try simp only [natc, getI_gi, at2_0, at2_1]); (try dsimp only [Ty.den]); (try simp only [natc] at *); (repeat' (first | apply And.intro | intro _))))
    all_goals (try (rw [b3 (by assumption)]))
    all_goals (try (((first | refine call_q (sp_put (cirL l es e) e hcl2 hno) (by cbv) ?_ | refine call_pure (sp_put (cirL l es e) e hcl2 hno) (by cbv) ?_); cbv; ((try simp only [IfP_iff, and_true, true_and, decide_eq_true_eq, decide_eq_false_iff_not]); (try simp only [natc, getI_gi, at2_0, at2_1]); (try dsimp only [Ty.den]); (try simp only [natc] at *); (repeat' (first | apply And.intro | intro _))))))
    all_goals (try (simp only [IfP_iff, EqU_iff, Obl_iff, and_true, true_and, inI_iff, decide_eq_true_eq, decide_eq_false_iff_not]; (try simp only [natc, getI_gi, at2_0, at2_1]); (try dsimp only [Ty.den]); try simp only [natc] at *))
    all_goals ((repeat' (first | apply And.intro | intro _)) <;> first | omega | (exact c1 (by assumption) (by assumption)) | (exact c2 (by assumption) (by assumption)) | (rw [List.length_cons, List.length_nil]; omega) | trace_state)
theorem sp_circleOf (n : Int) (l : List (Int × Int)) (es : List Int) (e : Int) (hl : l.length ≤ 1048576) (he : es.length ≤ 1048576) : Spec2 Try.prog 21 [.agg (.pr .int (.sl (.pr .int .int))) fun _ => (n, l), .sl .int fun _ => es, .int fun _ => e] [] [.ref 0, .bool fun _ => cirV n l es e] [some (.row 3 .int fun _ => cirR n l es e)] := by
  by_cases hk : cirV n l es e = true
  case neg =>
    rw [Bool.not_eq_true] at hk
    have h8 : cirR n l es e = [] := by unfold cirR; rw [hk]; rfl
    rw [hk, h8]
    have hno : (!twoB n l es e) = false → hasB es e = false → False := fun a c => by
      unfold cirV at hk
      rw [show twoB n l es e = true by simpa using a, c] at hk
      cases hk
    refine fnS [1] [6, 7] Try.func21 rfl (by decide) rfl (by decide) (by kernel_rfl) rfl (by simp [Try.ntmps21]) ?_
    cbv
    repeat' (first | ((first | refine call_q (sp_two7 n l es e hl he) (by cbv) ?_ | refine call_pure (sp_two7 n l es e hl he) (by cbv) ?_); cbv; ((try simp only [IfP_iff, and_true, true_and, decide_eq_true_eq, decide_eq_false_iff_not]); (try simp only [natc, getI_gi, at2_0, at2_1]); (try dsimp only [Ty.den]); (try simp only [natc] at *); (repeat' (first | apply And.intro | intro _)))))
    all_goals (try (simp only [IfP_iff, EqU_iff, Obl_iff, and_true, true_and, inI_iff, decide_eq_true_eq, decide_eq_false_iff_not]; (try simp only [natc, getI_gi, at2_0, at2_1]); (try dsimp only [Ty.den]); try simp only [natc] at *))
    ((try simp only [IfP_iff, and_true, true_and, decide_eq_true_eq, decide_eq_false_iff_not]); (try simp only [natc, getI_gi, at2_0, at2_1]); (try dsimp only [Ty.den]); (try simp only [natc] at *); (repeat' (first | apply And.intro | intro _)))
    all_goals (repeat' (first | ((first | refine call_q (sp_has es e he) (by cbv) ?_ | refine call_pure (sp_has es e he) (by cbv) ?_); cbv; ((try simp only [IfP_iff, and_true, true_and, decide_eq_true_eq, decide_eq_false_iff_not]); (try simp only [natc, getI_gi, at2_0, at2_1]); (try dsimp only [Ty.den]); (try simp only [natc] at *); (repeat' (first | apply And.intro | intro _))))))
    all_goals (try ((try simp only [IfP_iff, and_true, true_and, decide_eq_true_eq, decide_eq_false_iff_not]); (try simp only [natc, getI_gi, at2_0, at2_1]); (try dsimp only [Ty.den]); (try simp only [natc] at *); (repeat' (first | apply And.intro | intro _))))
    all_goals (try (exact (hno (by assumption) (by assumption)).elim))
    all_goals (try (simp only [IfP_iff, EqU_iff, Obl_iff, and_true, true_and, inI_iff, decide_eq_true_eq, decide_eq_false_iff_not]; (try simp only [natc, getI_gi, at2_0, at2_1]); (try dsimp only [Ty.den]); try simp only [natc] at *))
  have h8 : cirR n l es e = srt (cirL l es e ++ [e]) := by unfold cirR; rw [if_pos hk]
  have hk2 := hk
  unfold cirV at hk2
  simp only [Bool.and_eq_true] at hk2
  obtain ⟨ht, hh⟩ := hk2
  have hh2 : hasB es e = false := by simpa using hh
  have hel : es.length ≤ 1000 := by
    obtain ⟨hg, _⟩ := two_in ht
    obtain ⟨⟨_, g1⟩, _⟩ := graph_edges hg
    unfold twoB treeB at ht
    simp only [Bool.and_eq_true, decide_eq_true_eq] at ht
    have := ht.1.2.1.1
    omega
  rw [hk, h8]
  refine fnS [1] [6, 7] Try.func21 rfl (by decide) rfl (by decide) (by kernel_rfl) rfl (by simp [Try.ntmps21]) ?_
  cbv
  repeat' (first | ((first | refine call_q (sp_two7 n l es e hl he) (by cbv) ?_ | refine call_pure (sp_two7 n l es e hl he) (by cbv) ?_); cbv; ((try simp only [IfP_iff, and_true, true_and, decide_eq_true_eq, decide_eq_false_iff_not]); (try simp only [natc, getI_gi, at2_0, at2_1]); (try dsimp only [Ty.den]); (try simp only [natc] at *); (repeat' (first | apply And.intro | intro _)))))
  all_goals (try (simp only [IfP_iff, EqU_iff, Obl_iff, and_true, true_and, inI_iff, decide_eq_true_eq, decide_eq_false_iff_not]; (try simp only [natc, getI_gi, at2_0, at2_1]); (try dsimp only [Ty.den]); try simp only [natc] at *))
  ((try simp only [IfP_iff, and_true, true_and, decide_eq_true_eq, decide_eq_false_iff_not]); (try simp only [natc, getI_gi, at2_0, at2_1]); (try dsimp only [Ty.den]); (try simp only [natc] at *); (repeat' (first | apply And.intro | intro _)))
  all_goals (repeat' (first | ((first | refine call_q (sp_has es e he) (by cbv) ?_ | refine call_pure (sp_has es e he) (by cbv) ?_); cbv; ((try simp only [IfP_iff, and_true, true_and, decide_eq_true_eq, decide_eq_false_iff_not]); (try simp only [natc, getI_gi, at2_0, at2_1]); (try dsimp only [Ty.den]); (try simp only [natc] at *); (repeat' (first | apply And.intro | intro _))))))
  all_goals (try ((try simp only [IfP_iff, and_true, true_and, decide_eq_true_eq, decide_eq_false_iff_not]); (try simp only [natc, getI_gi, at2_0, at2_1]); (try dsimp only [Ty.den]); (try simp only [natc] at *); (repeat' (first | apply And.intro | intro _))))
  all_goals (try (exact absurd (by assumption : (!twoB n l es e) = true) (by rw [ht]; decide)))
  all_goals (try (exact absurd (by assumption : hasB es e = true) (by rw [hh2]; decide)))
  all_goals (repeat' (first | ((first | refine call_q (sp_round n l es e hl hel ht hh2) (by cbv) ?_ | refine call_pure (sp_round n l es e hl hel ht hh2) (by cbv) ?_); cbv; ((try simp only [IfP_iff, and_true, true_and, decide_eq_true_eq, decide_eq_false_iff_not]); (try simp only [natc, getI_gi, at2_0, at2_1]); (try dsimp only [Ty.den]); (try simp only [natc] at *); (repeat' (first | apply And.intro | intro _))))))
  all_goals (try (simp only [IfP_iff, EqU_iff, Obl_iff, and_true, true_and, inI_iff, decide_eq_true_eq, decide_eq_false_iff_not]; (try simp only [natc, getI_gi, at2_0, at2_1]); (try dsimp only [Ty.den]); try simp only [natc] at *))
theorem circle_le (n : Int) (l : List (Int × Int)) (es : List Int) (e : Int) (hl : l.length ≤ 1048576) (he : es.length ≤ 1048576) : (cirR n l es e).length ≤ 1048576 := by
  unfold cirR
  split
  · rename_i hk
    unfold cirV at hk
    simp only [Bool.and_eq_true] at hk
    obtain ⟨hg, _⟩ := two_in hk.1
    obtain ⟨⟨_, g1⟩, _⟩ := graph_edges hg
    have ht := hk.1
    unfold twoB treeB at ht
    simp only [Bool.and_eq_true, decide_eq_true_eq] at ht
    have := ht.1.2.1.1
    have hcl : (cirL l es e).length ≤ es.length := List.length_filter_le _ _
    rw [srt_len, List.length_append, List.length_cons, List.length_nil]
    omega
  · simp
end Go.Proofs.Ytbpheblbbdiapab.M

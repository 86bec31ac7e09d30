/- Independent sets, on both sides. -/
import Derived.Test.YthogfineaeklpaaCtQ
import Derived.Test.YthogfineaeklpaaStQ
namespace Go.Proofs.Ythogfineaeklpaa.M
open Go.RowKit Abs
set_option linter.unusedSimpArgs false
set_option linter.unusedVariables false
set_option maxRecDepth 100000
set_option maxHeartbeats 4000000
def bothB (s : List Int) (e : Int × Int) : Bool := hasB s e.1 && hasB s e.2
def indB (n : Int) (l : List (Int × Int)) (s : List Int) : Bool := ascB n s && !l.any (bothB s)
theorem im_ind1 (e : Int × Int) (s : List Int) (hs : s.length ≤ 1048576) : Spec2 Try.prog 97 [.agg (.pr .int .int) fun _ => e, .ibox [.sl .int fun _ => s] 0] [] [.bool fun _ => bothB s e] [] := by
  have h9 : bothB s e = _ := rfl
  conv at h9 => rhs; unfold bothB
  refine fnS [] [3] Try.func97 rfl (by decide) rfl (by decide) (by kernel_rfl) rfl (by simp [Try.ntmps97]) ?_
  cbv
  ((try simp only [IfP_iff, and_true, true_and, decide_eq_true_eq, decide_eq_false_iff_not]); (try simp only [natc, at2_0, at2_1]); (try dsimp only [Ty.den]); (try simp only [natc] at *); (repeat' (first | apply And.intro | intro _)))
  all_goals (repeat' (first | ((first | refine call_q (go_contains s _ hs) (by cbv) ?_ | refine call_pure (go_contains s _ hs) (by cbv) ?_); cbv; ((try simp only [IfP_iff, and_true, true_and, decide_eq_true_eq, decide_eq_false_iff_not]); (try simp only [natc, at2_0, at2_1]); (try dsimp only [Ty.den]); (try simp only [natc] at *); (repeat' (first | apply And.intro | intro _))))))
  all_goals (try (simp only [IfP_iff, EqU_iff, Obl_iff, and_true, true_and, inI_iff, decide_eq_true_eq, decide_eq_false_iff_not]; (try simp only [natc, at2_0, at2_1]); (try dsimp only [Ty.den]); try simp only [natc] at *))
  all_goals ((repeat' (first | apply And.intro | intro _)) <;> first | omega | (simp only [List.length_append, List.length_cons, List.length_nil]; omega) | grind)
theorem im_ind (n : Int) (l : List (Int × Int)) (s : List Int) (hl : l.length ≤ 1048576) (hs : s.length ≤ 1048576) : Spec2 Try.prog 53 [.agg (.pr .int (.sl (.pr .int .int))) fun _ => (n, l), .sl .int fun _ => s] [] [.bool fun _ => indB n l s] [] := by
  have h9 : indB n l s = _ := rfl
  conv at h9 => rhs; unfold indB
  refine fnS [] [4] Try.func53 rfl (by decide) rfl (by decide) (by kernel_rfl) rfl (by simp [Try.ntmps53]) ?_
  cbv
  ((try simp only [IfP_iff, and_true, true_and, decide_eq_true_eq, decide_eq_false_iff_not]); (try simp only [natc, at2_0, at2_1]); (try dsimp only [Ty.den]); (try simp only [natc] at *); (repeat' (first | apply And.intro | intro _)))
  all_goals (repeat' (first | ((first | refine call_q (im_areNodes n l s hs) (by cbv) ?_ | refine call_pure (im_areNodes n l s hs) (by cbv) ?_); cbv; ((try simp only [IfP_iff, and_true, true_and, decide_eq_true_eq, decide_eq_false_iff_not]); (try simp only [natc, at2_0, at2_1]); (try dsimp only [Ty.den]); (try simp only [natc] at *); (repeat' (first | apply And.intro | intro _)))) | ((first | refine call_q (go_containsFP 97 (fun _ => ofCaps [.ibox [.sl .int fun _ => s] 0]) (bothB s) l hl fun x _ => ⟨_, rfl, fun _ => rfl, im_ind1 x s hs⟩) (by cbv) ?_ | refine call_pure (go_containsFP 97 (fun _ => ofCaps [.ibox [.sl .int fun _ => s] 0]) (bothB s) l hl fun x _ => ⟨_, rfl, fun _ => rfl, im_ind1 x s hs⟩) (by cbv) ?_); cbv; ((try simp only [IfP_iff, and_true, true_and, decide_eq_true_eq, decide_eq_false_iff_not]); (try simp only [natc, at2_0, at2_1]); (try dsimp only [Ty.den]); (try simp only [natc] at *); (repeat' (first | apply And.intro | intro _))))))
  all_goals (try (simp only [IfP_iff, EqU_iff, Obl_iff, and_true, true_and, inI_iff, decide_eq_true_eq, decide_eq_false_iff_not]; (try simp only [natc, at2_0, at2_1]); (try dsimp only [Ty.den]); try simp only [natc] at *))
  all_goals ((repeat' (first | apply And.intro | intro _)) <;> first | omega | (simp only [List.length_append, List.length_cons, List.length_nil]; omega) | grind)
theorem im_indep (n : Int) (l : List (Int × Int)) (s : List Int) (hl : l.length ≤ 1048576) (hs : s.length ≤ 1048576) : Spec2 Try.prog 19 [.agg (.pr .int (.sl (.pr .int .int))) fun _ => (n, l), .sl .int fun _ => s] [] [.bool fun _ => graphOk n l && indB n l s, .bool fun _ => graphOk n l] [] := by
  refine fnS [] [4, 5] Try.func19 rfl (by decide) rfl (by decide) (by kernel_rfl) rfl (by simp [Try.ntmps19]) ?_
  cbv
  ((try simp only [IfP_iff, and_true, true_and, decide_eq_true_eq, decide_eq_false_iff_not]); (try simp only [natc, at2_0, at2_1]); (try dsimp only [Ty.den]); (try simp only [natc] at *); (repeat' (first | apply And.intro | intro _)))
  all_goals (repeat' (first | ((first | refine call_q (im_graph n l hl) (by cbv) ?_ | refine call_pure (im_graph n l hl) (by cbv) ?_); cbv; ((try simp only [IfP_iff, and_true, true_and, decide_eq_true_eq, decide_eq_false_iff_not]); (try simp only [natc, at2_0, at2_1]); (try dsimp only [Ty.den]); (try simp only [natc] at *); (repeat' (first | apply And.intro | intro _)))) | ((first | refine call_q (im_ind n l s hl hs) (by cbv) ?_ | refine call_pure (im_ind n l s hl hs) (by cbv) ?_); cbv; ((try simp only [IfP_iff, and_true, true_and, decide_eq_true_eq, decide_eq_false_iff_not]); (try simp only [natc, at2_0, at2_1]); (try dsimp only [Ty.den]); (try simp only [natc] at *); (repeat' (first | apply And.intro | intro _))))))
  all_goals (try (simp only [IfP_iff, EqU_iff, Obl_iff, and_true, true_and, inI_iff, decide_eq_true_eq, decide_eq_false_iff_not]; (try simp only [natc, at2_0, at2_1]); (try dsimp only [Ty.den]); try simp only [natc] at *))
  all_goals ((repeat' (first | apply And.intro | intro _)) <;> first | omega | (simp only [List.length_append, List.length_cons, List.length_nil]; omega) | grind)
def rowF (l : List (Int × Int)) (s : List Int) (i : Int) : Bool := allI i.toNat fun k => !nearB l (getI .int s k) (getI .int s i)
def freeB (n : Int) (l : List (Int × Int)) (s : List Int) : Bool := allI s.length (rowF l s) && ascB n s
theorem sp_free (n : Int) (l : List (Int × Int)) (s : List Int) (g0 : 0 ≤ n) (g1 : n ≤ 8) (hl : l.length ≤ 1048576) (hs : s.length ≤ 1048576) : Spec2 Try.prog 50 [.agg (.pr .int (.sl (.pr .int .int))) fun _ => (n, l), .sl .int fun _ => s] [] [.bool fun _ => freeB n l s] [] := by
  have h9 : freeB n l s = _ := rfl
  conv at h9 => rhs; unfold freeB
  refine fnS [] [4] Try.func50 rfl (by decide) rfl (by decide) (by kernel_rfl) rfl (by simp [Try.ntmps50]) ?_
  cbv
  refine loopP (by kernel_rfl) (fun i : Int => 0 ≤ i ∧ i ≤ s.length ∧ ∀ j : Int, 0 ≤ j → j < i → rowF l s j = true) (fun i => [(5, .int fun _ => i)]) (fun _ => []) (fun i => (s.length - i).toNat) (· + 1) 0 (by grind) ?_ ?_
  · cbv
    (simp only [IfP_iff, EqU_iff, Obl_iff, and_true, true_and, inI_iff, decide_eq_true_eq, decide_eq_false_iff_not]; (try simp only [natc, at2_0, at2_1]); (try dsimp only [Ty.den]); try simp only [natc] at *)
  · intro i hi
    have h1 := allI_bad (n := s.length) (p := rowF l s) (k := i)
    have h2 := allI_good (n := s.length) (p := rowF l s)
    have h3 := upTo (p := rowF l s) hi.2.2
    cbv
    ((try simp only [IfP_iff, and_true, true_and, decide_eq_true_eq, decide_eq_false_iff_not]); (try simp only [natc, at2_0, at2_1]); (try dsimp only [Ty.den]); (try simp only [natc] at *); (repeat' (first | apply And.intro | intro _)))
    · refine loopP (by kernel_rfl) (fun k : Int => 0 ≤ k ∧ k ≤ i ∧ ∀ j : Int, 0 ≤ j → j < k → (!nearB l (getI .int s j) (getI .int s i)) = true) (fun k => [(6, .int fun _ => k)]) (fun _ => []) (fun k => (i - k).toNat) (· + 1) 0 (by grind) ?_ ?_
      · cbv
        (simp only [IfP_iff, EqU_iff, Obl_iff, and_true, true_and, inI_iff, decide_eq_true_eq, decide_eq_false_iff_not]; (try simp only [natc, at2_0, at2_1]); (try dsimp only [Ty.den]); try simp only [natc] at *)
      · intro k hk
        have i1 := allI_bad (n := i.toNat) (p := fun j => !nearB l (getI .int s j) (getI .int s i)) (k := k)
        have i2 := allI_good (n := i.toNat) (p := fun j => !nearB l (getI .int s j) (getI .int s i))
        have i3 := upTo (p := fun j => !nearB l (getI .int s j) (getI .int s i)) hk.2.2
        have i4 : rowF l s i = _ := rfl
        conv at i4 => rhs; unfold rowF
        cbv
        ((try simp only [IfP_iff, and_true, true_and, decide_eq_true_eq, decide_eq_false_iff_not]); (try simp only [natc, at2_0, at2_1]); (try dsimp only [Ty.den]); (try simp only [natc] at *); (repeat' (first | apply And.intro | intro _)))
        all_goals (repeat' (first | ((first | refine call_q (sp_near n l _ _ hl) (by cbv) ?_ | refine call_pure (sp_near n l _ _ hl) (by cbv) ?_); cbv; ((try simp only [IfP_iff, and_true, true_and, decide_eq_true_eq, decide_eq_false_iff_not]); (try simp only [natc, at2_0, at2_1]); (try dsimp only [Ty.den]); (try simp only [natc] at *); (repeat' (first | apply And.intro | intro _))))))
        all_goals (try (simp only [IfP_iff, EqU_iff, Obl_iff, and_true, true_and, inI_iff, decide_eq_true_eq, decide_eq_false_iff_not]; (try simp only [natc, at2_0, at2_1]); (try dsimp only [Ty.den]); try simp only [natc] at *))
        all_goals ((repeat' (first | apply And.intro | intro _)) <;> first | omega | (simp only [List.length_append, List.length_cons, List.length_nil]; omega) | grind)
    · ((first | refine call_q (sp_set n l s g0 g1 hs) (by cbv) ?_ | refine call_pure (sp_set n l s g0 g1 hs) (by cbv) ?_); cbv; ((try simp only [IfP_iff, and_true, true_and, decide_eq_true_eq, decide_eq_false_iff_not]); (try simp only [natc, at2_0, at2_1]); (try dsimp only [Ty.den]); (try simp only [natc] at *); (repeat' (first | apply And.intro | intro _))))
      all_goals (try (simp only [IfP_iff, EqU_iff, Obl_iff, and_true, true_and, inI_iff, decide_eq_true_eq, decide_eq_false_iff_not]; (try simp only [natc, at2_0, at2_1]); (try dsimp only [Ty.den]); try simp only [natc] at *))
      all_goals ((repeat' (first | apply And.intro | intro _)) <;> first | omega | (simp only [List.length_append, List.length_cons, List.length_nil]; omega) | grind)
theorem sp_indep (n : Int) (l : List (Int × Int)) (s : List Int) (hl : l.length ≤ 1048576) (hs : s.length ≤ 1048576) : Spec2 Try.prog 16 [.agg (.pr .int (.sl (.pr .int .int))) fun _ => (n, l), .sl .int fun _ => s] [] [.bool fun _ => graphOk n l && freeB n l s, .bool fun _ => graphOk n l] [] := by
  have h1 : graphOk n l = true → 0 ≤ n ∧ n ≤ 8 := by simp [graphOk]; omega
  refine fnS [] [4, 5] Try.func16 rfl (by decide) rfl (by decide) (by kernel_rfl) rfl (by simp [Try.ntmps16]) ?_
  cbv
  ((try simp only [IfP_iff, and_true, true_and, decide_eq_true_eq, decide_eq_false_iff_not]); (try simp only [natc, at2_0, at2_1]); (try dsimp only [Ty.den]); (try simp only [natc] at *); (repeat' (first | apply And.intro | intro _)))
  all_goals (repeat' (first | ((first | refine call_q (sp_good n l hl) (by cbv) ?_ | refine call_pure (sp_good n l hl) (by cbv) ?_); cbv; ((try simp only [IfP_iff, and_true, true_and, decide_eq_true_eq, decide_eq_false_iff_not]); (try simp only [natc, at2_0, at2_1]); (try dsimp only [Ty.den]); (try simp only [natc] at *); (repeat' (first | apply And.intro | intro _)))) | ((first | refine call_q (sp_free n l s (by grind) (by grind) hl hs) (by cbv) ?_ | refine call_pure (sp_free n l s (by grind) (by grind) hl hs) (by cbv) ?_); cbv; ((try simp only [IfP_iff, and_true, true_and, decide_eq_true_eq, decide_eq_false_iff_not]); (try simp only [natc, at2_0, at2_1]); (try dsimp only [Ty.den]); (try simp only [natc] at *); (repeat' (first | apply And.intro | intro _))))))
  all_goals (try (simp only [IfP_iff, EqU_iff, Obl_iff, and_true, true_and, inI_iff, decide_eq_true_eq, decide_eq_false_iff_not]; (try simp only [natc, at2_0, at2_1]); (try dsimp only [Ty.den]); try simp only [natc] at *))
  all_goals ((repeat' (first | apply And.intro | intro _)) <;> first | omega | (simp only [List.length_append, List.length_cons, List.length_nil]; omega) | grind)
theorem both_near {n : Int} {l : List (Int × Int)} {s : List Int} (h : pairsOk l n = true) (ha : ascB n s = true) : (!l.any (bothB s)) = allI s.length (rowF l s) := by
  have h2 := (pairs_edges h).1
  cases hb : l.any (bothB s) with
  | true =>
    rw [List.any_eq_true] at hb
    obtain ⟨e, he, hq⟩ := hb
    unfold bothB at hq
    rw [Bool.and_eq_true, hasB_iff, hasB_iff] at hq
    obtain ⟨a, a0, a1, a2⟩ := mem_at hq.1
    obtain ⟨b, b0, b1, b2⟩ := mem_at hq.2
    have hlt := (h2 e he).2.1
    have hab : a < b := by
      rcases Int.lt_trichotomy a b with x | x | x
      · exact x
      · subst x; exact absurd (a2.symm.trans b2 : e.1 = e.2) (Int.ne_of_lt hlt)
      · have := asc_lt' ha b0 x a1
        rw [a2, b2] at this
        exact absurd this (Int.not_lt.2 (Int.le_of_lt hlt))
    rw [allI_bad (k := b) b0 b1]
    · rfl
    · unfold rowF
      rw [allI_bad (k := a) a0 (by omega)]
      have : nearB l (getI .int s a) (getI .int s b) = true := by
        unfold nearB
        rw [List.any_eq_true]
        refine ⟨e, he, ?_⟩
        rw [a2, b2]
        simp [hit]
      rw [this]; rfl
  | false =>
    rw [allI_good]
    · rfl
    intro i i0 i1
    unfold rowF
    refine allI_good fun k k0 k1 => ?_
    cases hn : nearB l (getI .int s k) (getI .int s i) with
    | false => rfl
    | true =>
      unfold nearB at hn
      rw [List.any_eq_true] at hn
      obtain ⟨e, he, hq⟩ := hn
      rw [List.any_eq_false] at hb
      have m1 : getI .int s k ∈ s := List.mem_of_getElem? (getI_get (t := .int) k0 (by omega))
      have m2 : getI .int s i ∈ s := List.mem_of_getElem? (getI_get (t := .int) i0 i1)
      refine absurd ?_ (hb e he)
      unfold bothB
      rw [Bool.and_eq_true, hasB_iff, hasB_iff]
      simp only [hit, Bool.or_eq_true, Bool.and_eq_true, beq_iff_eq] at hq
      rcases hq with ⟨p, q⟩ | ⟨p, q⟩ <;> rw [p, q] <;> constructor <;> assumption
theorem ind_free (n : Int) (l : List (Int × Int)) (s : List Int) : (graphOk n l && indB n l s) = (graphOk n l && freeB n l s) := by
  cases hg : graphOk n l with
  | false => rfl
  | true =>
    unfold indB freeB
    cases ha : ascB n s with
    | false => simp
    | true => rw [both_near (by simp only [graphOk, Bool.and_eq_true] at hg; exact hg.2) ha]; simp
theorem im_indep' (n : Int) (l : List (Int × Int)) (s : List Int) (hl : l.length ≤ 1048576) (hs : s.length ≤ 1048576) : Spec2 Try.prog 19 [.agg (.pr .int (.sl (.pr .int .int))) fun _ => (n, l), .sl .int fun _ => s] [] [.bool fun _ => graphOk n l && freeB n l s, .bool fun _ => graphOk n l] [] := by
  have := im_indep n l s hl hs
  rwa [ind_free] at this
end Go.Proofs.Ythogfineaeklpaa.M

/- The steps from a place, on both sides. -/
import Derived.Test.YtemdajfcfmefnaaSiQ
import Derived.Test.YtemdajfcfmefnaaQe
namespace Go.Proofs.Ytemdajfcfmefnaa.M
open Go.RowKit Abs
set_option linter.unusedSimpArgs false
set_option linter.unusedVariables false
set_option maxRecDepth 100000
set_option maxHeartbeats 4000000
theorem pairs_edges {n : Int} {l : List (Int × Int)} (h2 : pairsOk l n = true) : (∀ e ∈ l, 0 ≤ e.1 ∧ e.1 < e.2 ∧ e.2 < n) ∧ l.Pairwise fun p q => edgeLt p q = true := by
  have h3 : ∀ k : Nat, k < l.length → goodI l n k = true := fun k hk => List.all_eq_true.1 h2 k (by simpa using hk)
  have h4 : ∀ (k : Nat) (e : Int × Int), l[k]? = some e → getI (.pr .int .int) l k = e := fun k e he => by
    obtain ⟨hk, he'⟩ := List.getElem?_eq_some_iff.1 he
    unfold getI
    rw [List.getD_eq_getElem?_getD]
    simp [he]
  refine ⟨fun e he => ?_, ?_⟩
  · obtain ⟨k, hk⟩ := List.mem_iff_getElem?.1 he
    have := h3 k (List.getElem?_eq_some_iff.1 hk).1
    simp only [goodI, h4 k e hk, Bool.and_eq_true, decide_eq_true_eq] at this
    exact ⟨this.1.1.1, this.1.1.2, this.1.2⟩
  · have adj : ∀ k, (hk : k + 1 < l.length) → edgeLt l[k] l[k + 1] = true := fun k hk => by
      have := h3 (k + 1) hk
      simp only [goodI, Bool.and_eq_true, Bool.or_eq_true, decide_eq_true_eq] at this
      have e1 := h4 (k + 1) l[k + 1] (List.getElem?_eq_getElem hk)
      have e2 := h4 k l[k] (List.getElem?_eq_getElem (by omega))
      rw [show (((k + 1 : Nat) : Int) - 1) = (k : Int) by omega, e1, e2] at this
      rcases this.2 with h | h
      · omega
      · exact h
    have tr : ∀ p q r : Int × Int, edgeLt p q = true → edgeLt q r = true → edgeLt p r = true := fun p q r => by simp only [edgeLt]; grind
    rw [List.pairwise_iff_getElem]
    intro i j hi hj hij
    obtain ⟨d, rfl⟩ : ∃ d, j = i + 1 + d := ⟨j - i - 1, by omega⟩
    induction d with
    | zero => exact adj i hj
    | succ d ih => exact tr _ _ _ (ih (by omega) (by omega)) (adj (i + 1 + d) hj)
theorem space_parts {L : List (List Int)} {l : List (Int × Int)} (h : spaceOk L l = true) : (L.length : Int) ≤ 300 ∧ (l.length : Int) ≤ 6000 ∧ statesOk L = true ∧ pairsOk l L.length = true := by
  simp only [spaceOk, Bool.and_eq_true, decide_eq_true_eq] at h
  exact ⟨h.1.1.1, h.1.1.2, h.1.2, h.2⟩
theorem im_stepLists (L : List (List Int)) (l : List (Int × Int)) (hL : L.length ≤ 1048576) (hl : l.length ≤ 1048576) (hp : pairsOk l L.length = true) :
    Spec2 Try.prog 62 [.agg (.pr (.sl (.sl .int)) (.sl (.pr .int .int))) fun _ => (L, l)] [] [.ref 0] [some (.rows 26 3 .int fun _ => nearR l L.length)] := by
  refine fnS [1] [2] Try.func62 rfl (by decide) rfl (by decide) (by kernel_rfl) rfl (by simp [Try.ntmps62]) ?_
  cbv
  ((first | refine call_q (im_nearLists l L.length (by omega) (by omega) hl (pairs_edges hp).1) (by cbv) ?_ | refine call_pure (im_nearLists l L.length (by omega) (by omega) hl (pairs_edges hp).1) (by cbv) ?_); cbv; ((try simp only [IfP_iff, and_true, true_and, decide_eq_true_eq, decide_eq_false_iff_not]); (try simp only [natc, at2_0, at2_1]); (try dsimp only [Ty.den]); (try simp only [natc] at *); (repeat' (first | apply And.intro | intro _))))
  (simp only [IfP_iff, EqU_iff, Obl_iff, and_true, true_and, inI_iff, decide_eq_true_eq, decide_eq_false_iff_not]; (try simp only [natc, at2_0, at2_1]); (try dsimp only [Ty.den]); try simp only [natc] at *)
/-- The places at the other ends of the pairs, in their order. -/
def fromV (v : Int) (m : List (Int × Int)) : List Int := m.flatMap fun e => (if e.1 = v then [e.2] else []) ++ if e.2 = v then [e.1] else []
theorem fromV_next {m : List (Int × Int)} {v k : Int} (h0 : 0 ≤ k) (h1 : k < (m.length : Int)) : fromV v (m.take (k + 1).toNat) = fromV v (m.take k.toNat) ++ ((if (getI (.pr .int .int) m k).1 = v then [(getI (.pr .int .int) m k).2] else []) ++ if (getI (.pr .int .int) m k).2 = v then [(getI (.pr .int .int) m k).1] else []) := by
  unfold fromV
  rw [take_getI (t := (.pr .int .int)) h0 h1, List.flatMap_append]
  simp
theorem fromV_len (v : Int) : ∀ m : List (Int × Int), (fromV v m).length ≤ 2 * m.length
  | [] => by simp [fromV]
  | e :: m => by
    have := fromV_len v m
    unfold fromV at this ⊢
    rw [List.flatMap_cons, List.length_append, List.length_append, List.length_cons]
    have h1 : ∀ (p : Prop) [Decidable p] (a : Int), (if p then [a] else []).length ≤ 1 := fun p _ a => by split <;> simp
    have := h1 (e.1 = v) e.2
    have := h1 (e.2 = v) e.1
    omega
theorem from_row {v : Int} : ∀ {m : List (Int × Int)}, (∀ e ∈ m, e.1 ≠ e.2) → fromV v m = rowV v m
  | [], _ => rfl
  | e :: m, h => by
    have ih := from_row (v := v) (m := m) fun x hx => h x (by simp [hx])
    have hne := h e (by simp)
    unfold fromV rowV at ih ⊢
    rw [List.flatMap_cons, ih, List.filterMap_cons]
    by_cases a : e.1 = v <;> by_cases b : e.2 = v
    · exact (hne (a.trans b.symm)).elim
    · simp [a, b]
    · simp [a, b]
    · simp [a, b]
theorem sp_from (L : List (List Int)) (l : List (Int × Int)) (v : Int) (hl : l.length ≤ 1048576) :
    Spec2 Try.prog 59 [.agg (.pr (.sl (.sl .int)) (.sl (.pr .int .int))) fun _ => (L, l), .int fun _ => v] [] [.ref 0] [some (.row 3 .int fun _ => fromV v l)] := by
  refine fnS [1] [4] Try.func59 rfl (by decide) rfl (by decide) (by kernel_rfl) rfl (by simp [Try.ntmps59]) ?_
  cbv
  refine loopP (by kernel_rfl) (fun k : Int => 0 ≤ k ∧ k ≤ l.length) (fun k => [(6, .int fun _ => k), (5, .ref 1), (7, .junk)]) (fun k => [(1, some (.row 3 .int fun _ => fromV v (l.take k.toNat)))]) (fun k => (l.length - k).toNat) (· + 1) 0 (by simp) ?_ ?_
  · cbv
    (simp only [IfP_iff, EqU_iff, Obl_iff, and_true, true_and, inI_iff, decide_eq_true_eq, decide_eq_false_iff_not]; (try simp only [natc, at2_0, at2_1]); (try dsimp only [Ty.den]); try simp only [natc] at *)
    simp [fromV]
  · intro k hk
    have h2 := fromV_next (m := l) (v := v) (k := k)
    have h3 := fromV_len v (l.take k.toNat)
    have h4 := take_all (l := l) (i := k)
    rw [List.length_take] at h3
    cbv
    ((try simp only [IfP_iff, and_true, true_and, decide_eq_true_eq, decide_eq_false_iff_not]); (try simp only [natc, at2_0, at2_1]); (try dsimp only [Ty.den]); (try simp only [natc] at *); (repeat' (first | apply And.intro | intro _)))
    all_goals (try (simp only [IfP_iff, EqU_iff, Obl_iff, and_true, true_and, inI_iff, decide_eq_true_eq, decide_eq_false_iff_not]; (try simp only [natc, at2_0, at2_1]); (try dsimp only [Ty.den]); try simp only [natc] at *))
    all_goals ((repeat' (first | apply And.intro | intro _)) <;> first | omega | (simp only [List.length_append, List.length_cons, List.length_nil]; omega) | (rw [h2 hk.1 (by assumption)]; simp [*]) | grind)
def okS (L : List (List Int)) (l : List (Int × Int)) (i : Int) : Bool := spaceOk L l && (decide (0 ≤ i) && decide (i < L.length))
theorem sp_place (L : List (List Int)) (l : List (Int × Int)) (i : Int) (hL : L.length ≤ 1048576) (hl : l.length ≤ 1048576) (hm : ∀ s ∈ L, s.length ≤ 1048576) : Spec2 Try.prog 58 [.agg (.pr (.sl (.sl .int)) (.sl (.pr .int .int))) fun _ => (L, l), .int fun _ => i] [] [.bool fun _ => okS L l i] [] := by
  have h5 : okS L l i = _ := rfl
  conv at h5 => rhs; unfold okS
  refine fnS [] [4] Try.func58 rfl (by decide) rfl (by decide) (by kernel_rfl) rfl (by simp [Try.ntmps58]) ?_
  cbv
  repeat' (first | ((first | refine call_q (sp_space L l hL hl hm) (by cbv) ?_ | refine call_pure (sp_space L l hL hl hm) (by cbv) ?_); cbv; ((try simp only [IfP_iff, and_true, true_and, decide_eq_true_eq, decide_eq_false_iff_not]); (try simp only [natc, at2_0, at2_1]); (try dsimp only [Ty.den]); (try simp only [natc] at *); (repeat' (first | apply And.intro | intro _)))) | ((first | refine call_q (sp_in _ _ _) (by cbv) ?_ | refine call_pure (sp_in _ _ _) (by cbv) ?_); cbv; ((try simp only [IfP_iff, and_true, true_and, decide_eq_true_eq, decide_eq_false_iff_not]); (try simp only [natc, at2_0, at2_1]); (try dsimp only [Ty.den]); (try simp only [natc] at *); (repeat' (first | apply And.intro | intro _)))))
  all_goals (try (simp only [IfP_iff, EqU_iff, Obl_iff, and_true, true_and, inI_iff, decide_eq_true_eq, decide_eq_false_iff_not]; (try simp only [natc, at2_0, at2_1]); (try dsimp only [Ty.den]); try simp only [natc] at *))
  all_goals ((repeat' (first | apply And.intro | intro _)) <;> first | omega | (simp only [List.length_append, List.length_cons, List.length_nil]; omega) | grind)
theorem sp_stepsFrom (L : List (List Int)) (l : List (Int × Int)) (i : Int) (hL : L.length ≤ 1048576) (hl : l.length ≤ 1048576) (hm : ∀ s ∈ L, s.length ≤ 1048576) : Spec2 Try.prog 23 [.agg (.pr (.sl (.sl .int)) (.sl (.pr .int .int))) fun _ => (L, l), .int fun _ => i] [] [.ref 0, .bool fun _ => okS L l i] [some (.row 3 .int fun _ => if okS L l i = true then fromV i l else [])] := by
  refine fnS [1] [4, 5] Try.func23 rfl (by decide) rfl (by decide) (by kernel_rfl) rfl (by simp [Try.ntmps23]) ?_
  cbv
  repeat' (first | ((first | refine call_q (sp_place L l i hL hl hm) (by cbv) ?_ | refine call_pure (sp_place L l i hL hl hm) (by cbv) ?_); cbv; ((try simp only [IfP_iff, and_true, true_and, decide_eq_true_eq, decide_eq_false_iff_not]); (try simp only [natc, at2_0, at2_1]); (try dsimp only [Ty.den]); (try simp only [natc] at *); (repeat' (first | apply And.intro | intro _)))) | ((first | refine call_q (sp_from L l i hl) (by cbv) ?_ | refine call_pure (sp_from L l i hl) (by cbv) ?_); cbv; ((try simp only [IfP_iff, and_true, true_and, decide_eq_true_eq, decide_eq_false_iff_not]); (try simp only [natc, at2_0, at2_1]); (try dsimp only [Ty.den]); (try simp only [natc] at *); (repeat' (first | apply And.intro | intro _)))))
  all_goals (try (simp only [IfP_iff, EqU_iff, Obl_iff, and_true, true_and, inI_iff, decide_eq_true_eq, decide_eq_false_iff_not]; (try simp only [natc, at2_0, at2_1]); (try dsimp only [Ty.den]); try simp only [natc] at *))
  all_goals ((repeat' (first | apply And.intro | intro _)) <;> first | omega | (simp only [List.length_append, List.length_cons, List.length_nil]; omega) | grind)
theorem inAll_one {n i : Int} : inAll n [i] = (decide (0 ≤ i) && decide (i < n)) := by
  simp [inAll, allI, getI]
theorem im_stepsFrom_bad (L : List (List Int)) (l : List (Int × Int)) (i : Int) (hL : L.length ≤ 1048576) (hl : l.length ≤ 1048576) (hm : ∀ s ∈ L, s.length ≤ 1048576) (hb : okS L l i = false) : Spec2 Try.prog 25 [.agg (.pr (.sl (.sl .int)) (.sl (.pr .int .int))) fun _ => (L, l), .int fun _ => i] [] [.ref 0, .bool fun _ => false] [some (.row 3 .int fun _ => [])] := by
  simp only [okS] at hb
  rw [← inAll_one] at hb
  refine fnS [2] [4, 5] Try.func25 rfl (by decide) rfl (by decide) (by kernel_rfl) rfl (by simp [Try.ntmps25]) ?_
  cbv
  repeat' (first | ((first | refine call_q (im_hasPlaces L l [i] (by simp) hL hl hm) (by cbv) ?_ | refine call_pure (im_hasPlaces L l [i] (by simp) hL hl hm) (by cbv) ?_); cbv; ((try simp only [IfP_iff, and_true, true_and, decide_eq_true_eq, decide_eq_false_iff_not]); (try simp only [natc, at2_0, at2_1]); (try dsimp only [Ty.den]); (try simp only [natc] at *); (repeat' (first | apply And.intro | intro _)))))
  all_goals (try (simp only [IfP_iff, EqU_iff, Obl_iff, and_true, true_and, inI_iff, decide_eq_true_eq, decide_eq_false_iff_not]; (try simp only [natc, at2_0, at2_1]); (try dsimp only [Ty.den]); try simp only [natc] at *))
  all_goals (first | omega | (exfalso; grind) | skip)
theorem im_stepsFrom_ok (L : List (List Int)) (l : List (Int × Int)) (i : Int) (hL : L.length ≤ 1048576) (hl : l.length ≤ 1048576) (hm : ∀ s ∈ L, s.length ≤ 1048576) (hb : okS L l i = true) : Spec2 Try.prog 25 [.agg (.pr (.sl (.sl .int)) (.sl (.pr .int .int))) fun _ => (L, l), .int fun _ => i] [] [.elem 0 fun _ => i, .bool fun _ => true] [some (.rows 26 3 .int fun _ => nearR l L.length)] := by
  have hb' := hb
  simp only [okS, Bool.and_eq_true, decide_eq_true_eq] at hb'
  simp only [okS] at hb
  rw [← inAll_one] at hb
  have h4 := nearR_len l L.length
  refine fnS [2] [4, 5] Try.func25 rfl (by decide) rfl (by decide) (by kernel_rfl) rfl (by simp [Try.ntmps25]) ?_
  cbv
  repeat' (first | ((first | refine call_q (im_hasPlaces L l [i] (by simp) hL hl hm) (by cbv) ?_ | refine call_pure (im_hasPlaces L l [i] (by simp) hL hl hm) (by cbv) ?_); cbv; ((try simp only [IfP_iff, and_true, true_and, decide_eq_true_eq, decide_eq_false_iff_not]); (try simp only [natc, at2_0, at2_1]); (try dsimp only [Ty.den]); (try simp only [natc] at *); (repeat' (first | apply And.intro | intro _)))) | ((first | refine call_q (im_stepLists L l hL hl (space_parts hb'.1).2.2.2) (by cbv) ?_ | refine call_pure (im_stepLists L l hL hl (space_parts hb'.1).2.2.2) (by cbv) ?_); cbv; ((try simp only [IfP_iff, and_true, true_and, decide_eq_true_eq, decide_eq_false_iff_not]); (try simp only [natc, at2_0, at2_1]); (try dsimp only [Ty.den]); (try simp only [natc] at *); (repeat' (first | apply And.intro | intro _)))))
  all_goals (try (simp only [IfP_iff, EqU_iff, Obl_iff, and_true, true_and, inI_iff, decide_eq_true_eq, decide_eq_false_iff_not]; (try simp only [natc, at2_0, at2_1]); (try dsimp only [Ty.den]); try simp only [natc] at *))
  all_goals ((repeat' (first | apply And.intro | intro _)) <;> first | omega | (simp only [List.length_append, List.length_cons, List.length_nil]; omega) | grind)
theorem im_stepsFrom (L : List (List Int)) (l : List (Int × Int)) (i : Int) (hL : L.length ≤ 1048576) (hl : l.length ≤ 1048576) (hm : ∀ s ∈ L, s.length ≤ 1048576) : Spec2 Try.prog 25 [.agg (.pr (.sl (.sl .int)) (.sl (.pr .int .int))) fun _ => (L, l), .int fun _ => i] [] [.ref 0, .bool fun _ => okS L l i] [some (.row 3 .int fun _ => if okS L l i = true then fromV i l else [])] := by
  cases h : okS L l i with
  | false =>
    simp only [Bool.false_eq_true, if_false]
    exact im_stepsFrom_bad L l i hL hl hm h
  | true =>
    simp only [if_true]
    have h2 := Spec2.pick (im_stepsFrom_ok L l i hL hl hm h)
    have h' := h
    simp only [okS, Bool.and_eq_true, decide_eq_true_eq] at h'
    have he := pairs_edges (space_parts h'.1).2.2.2
    have h3 : getR .int (nearR l L.length) i = fromV i l := by
      rw [nearR_row h'.2.1 he.1, from_row fun e hx => by have := he.1 e hx; omega]
    simp only [h3] at h2
    exact h2
theorem stepsFrom_bound {L : List (List Int)} {l : List (Int × Int)} {i : Int} : (if okS L l i = true then fromV i l else []).length ≤ 1048576 := by
  split
  · rename_i h
    simp only [okS, Bool.and_eq_true] at h
    have := (space_parts h.1).2.1
    have := fromV_len i l
    omega
  · simp
end Go.Proofs.Ytemdajfcfmefnaa.M

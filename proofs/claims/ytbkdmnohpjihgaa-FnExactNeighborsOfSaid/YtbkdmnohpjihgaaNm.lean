/- Neighbours: the two answers are one. -/
import Derived.Test.YtbkdmnohpjihgaaNg
namespace Go.Proofs.Ytbkdmnohpjihgaa.M
open Go.RowKit Abs
set_option linter.unusedSimpArgs false
set_option linter.unusedVariables false
set_option maxRecDepth 100000
/-- What a good graph's edges are. -/
theorem graph_edges {n : Int} {l : List (Int × Int)} (h : graphOk n l = true) : (0 ≤ n ∧ n ≤ 8) ∧ (∀ e ∈ l, 0 ≤ e.1 ∧ e.1 < e.2 ∧ e.2 < n) ∧ l.Pairwise fun p q => edgeLt p q = true := by
  simp only [graphOk, Bool.and_eq_true, decide_eq_true_eq] at h
  obtain ⟨⟨h0, h1⟩, h2⟩ := h
  have h3 : ∀ k : Nat, k < l.length → goodI l n k = true := fun k hk => List.all_eq_true.1 h2 k (by simpa using hk)
  have h4 : ∀ (k : Nat) (e : Int × Int), l[k]? = some e → getI (.pr .int .int) l k = e := fun k e he => by
    obtain ⟨hk, he'⟩ := List.getElem?_eq_some_iff.1 he
    unfold getI
    rw [List.getD_eq_getElem?_getD]
    simp [he]
  refine ⟨⟨h0, h1⟩, fun e he => ?_, ?_⟩
  · obtain ⟨k, hk⟩ := List.mem_iff_getElem?.1 he
    have := h3 k (List.getElem?_eq_some_iff.1 hk).1
    simp only [goodI, h4 k e hk, Bool.and_eq_true, decide_eq_true_eq] at this
    exact ⟨this.1.1.1, this.1.1.2, this.1.2⟩
  · have adj : ∀ k, (hk : k + 1 < l.length) → edgeLt l[k] l[k + 1] = true := fun k hk => by
      have := h3 (k + 1) hk
      simp only [goodI, Bool.and_eq_true, Bool.or_eq_true, decide_eq_true_eq] at this
      have e1 := h4 (k + 1) l[k + 1] (List.getElem?_eq_getElem hk)
      have e2 := h4 k l[k] (List.getElem?_eq_getElem (by omega))
      rw [show (((k + 1 : Nat) : Int) - 1) = (k : Int) by omega, e1, e2] at this
      rcases this.2 with h | h
      · omega
      · exact h
    have tr : ∀ p q r : Int × Int, edgeLt p q = true → edgeLt q r = true → edgeLt p r = true := fun p q r => by simp only [edgeLt]; grind
    rw [List.pairwise_iff_getElem]
    intro i j hi hj hij
    obtain ⟨d, rfl⟩ : ∃ d, j = i + 1 + d := ⟨j - i - 1, by omega⟩
    induction d with
    | zero => exact adj i hj
    | succ d ih => exact tr _ _ _ (ih (by omega) (by omega)) (adj (i + 1 + d) hj)
theorem sorted_eq : ∀ {x y : List Int}, x.Pairwise (· < ·) → y.Pairwise (· < ·) → (∀ a, a ∈ x ↔ a ∈ y) → x = y
  | [], [], _, _, _ => rfl
  | [], b :: y, _, _, h => by have := (h b).2 (by simp); simp at this
  | a :: x, [], _, _, h => by have := (h a).1 (by simp); simp at this
  | a :: x, b :: y, hx, hy, h => by
    rw [List.pairwise_cons] at hx hy
    have hab : a = b := by
      have h1 := (h a).1 (by simp)
      have h2 := (h b).2 (by simp)
      simp only [List.mem_cons] at h1 h2
      rcases h1 with h1 | h1 <;> rcases h2 with h2 | h2
      · exact h1
      · exact h1
      · exact h2.symm
      · have := hy.1 a h1; have := hx.1 b h2; omega
    subst hab
    rw [sorted_eq hx.2 hy.2 fun c => ?_]
    have hc := h c
    simp only [List.mem_cons] at hc
    constructor
    · intro hm
      rcases hc.1 (.inr hm) with e | e
      · have := hx.1 c hm; omega
      · exact e
    · intro hm
      rcases hc.2 (.inr hm) with e | e
      · have := hy.1 c hm; omega
      · exact e
theorem row_nbrs {n v : Int} {l : List (Int × Int)} (h : graphOk n l = true) (hv : 0 ≤ v) : rowV v l = nbrs l v n.toNat := by
  obtain ⟨⟨h0, h1⟩, h2, h3⟩ := graph_edges h
  refine sorted_eq ?_ ?_ fun a => ?_
  · unfold rowV
    rw [List.pairwise_filterMap]
    refine List.Pairwise.imp_of_mem ?_ h3
    intro p q hp hq hpq a ha b hb
    have := h2 p hp
    have := h2 q hq
    simp only [edgeLt, Bool.or_eq_true, Bool.and_eq_true, decide_eq_true_eq] at hpq
    split at ha <;> split at hb <;> (try split at ha) <;> (try split at hb) <;> simp only [Option.some.injEq, reduceCtorEq] at ha hb <;> omega
  · unfold nbrs
    refine List.Pairwise.filter _ ?_
    rw [List.pairwise_map]
    exact List.Pairwise.imp (fun {a b} h => by simpa using h) List.pairwise_lt_range
  · unfold rowV nbrs nearB hit
    simp only [List.mem_filterMap, List.mem_filter, List.mem_map, List.mem_range, List.any_eq_true, Bool.or_eq_true, Bool.and_eq_true, beq_iff_eq]
    constructor
    · rintro ⟨e, he, ha⟩
      have := h2 e he
      refine ⟨⟨a.toNat, ?_⟩, e, he, ?_⟩
      · split at ha <;> (try split at ha) <;> simp only [Option.some.injEq, reduceCtorEq] at ha <;> simp <;> omega
      · split at ha <;> (try split at ha) <;> simp only [Option.some.injEq, reduceCtorEq] at ha <;> omega
    · rintro ⟨_, e, he, ha⟩
      have := h2 e he
      refine ⟨e, he, ?_⟩
      rcases ha with ha | ha
      · rw [if_neg (by omega), if_pos ha.1, ha.2]
      · rw [if_pos ha.2, ha.1]
theorem im_nbrs_bad (n : Int) (l : List (Int × Int)) (v : Int) (hl : l.length ≤ 1048576) (hb : okN n l v = false) : Spec2 Try.prog 18 [.agg (.pr .int (.sl (.pr .int .int))) fun _ => (n, l), .int fun _ => v] [] [.ref 0, .bool fun _ => false] [some (.row 3 .int fun _ => [])] := by
  refine fnS [1] [4, 5] Try.func18 rfl (by decide) rfl (by decide) (by kernel_rfl) rfl (by simp [Try.ntmps18]) ?_
  simp only [okN] at hb
  cbv
  ((try simp only [IfP_iff, and_true, true_and, decide_eq_true_eq, decide_eq_false_iff_not]); (repeat' (first | apply And.intro | intro _)))
  repeat' (first | ((first | refine call_q (im_graph _ _ hl) (by cbv) ?_ | refine call_pure (im_graph _ _ hl) (by cbv) ?_); cbv; ((try simp only [IfP_iff, and_true, true_and, decide_eq_true_eq, decide_eq_false_iff_not]); (repeat' (first | apply And.intro | intro _)))) | ((first | refine call_q (im_isIndex _ _) (by cbv) ?_ | refine call_pure (im_isIndex _ _) (by cbv) ?_); cbv; ((try simp only [IfP_iff, and_true, true_and, decide_eq_true_eq, decide_eq_false_iff_not]); (repeat' (first | apply And.intro | intro _)))))
  all_goals (try simp only [IfP_iff, EqU_iff, Obl_iff, and_true, true_and, inI_iff, decide_eq_true_eq, decide_eq_false_iff_not])
  all_goals (first | omega | (exfalso; grind) | skip)
theorem im_nbrs_ok (n : Int) (l : List (Int × Int)) (v : Int) (hl : l.length ≤ 1048576) (hb : okN n l v = true) : Spec2 Try.prog 18 [.agg (.pr .int (.sl (.pr .int .int))) fun _ => (n, l), .int fun _ => v] [] [.elem 0 fun _ => v, .bool fun _ => true] [some (.rows 26 3 .int fun _ => nearR l n)] := by
  refine fnS [1] [4, 5] Try.func18 rfl (by decide) rfl (by decide) (by kernel_rfl) rfl (by simp [Try.ntmps18]) ?_
  simp only [okN, Bool.and_eq_true, decide_eq_true_eq] at hb
  obtain ⟨hg, hv0, hv1⟩ := hb
  obtain ⟨⟨h0, h1⟩, h2, h3⟩ := graph_edges hg
  have h4 := nearR_len l n
  cbv
  ((try simp only [IfP_iff, and_true, true_and, decide_eq_true_eq, decide_eq_false_iff_not]); (repeat' (first | apply And.intro | intro _)))
  repeat' (first | ((first | refine call_q (im_graph _ _ hl) (by cbv) ?_ | refine call_pure (im_graph _ _ hl) (by cbv) ?_); cbv; ((try simp only [IfP_iff, and_true, true_and, decide_eq_true_eq, decide_eq_false_iff_not]); (repeat' (first | apply And.intro | intro _)))) | ((first | refine call_q (im_isIndex _ _) (by cbv) ?_ | refine call_pure (im_isIndex _ _) (by cbv) ?_); cbv; ((try simp only [IfP_iff, and_true, true_and, decide_eq_true_eq, decide_eq_false_iff_not]); (repeat' (first | apply And.intro | intro _)))) | ((first | refine call_q (im_nearLists _ _ h0 h1 hl h2) (by cbv) ?_ | refine call_pure (im_nearLists _ _ h0 h1 hl h2) (by cbv) ?_); cbv; ((try simp only [IfP_iff, and_true, true_and, decide_eq_true_eq, decide_eq_false_iff_not]); (repeat' (first | apply And.intro | intro _)))))
  all_goals (try simp only [IfP_iff, EqU_iff, Obl_iff, and_true, true_and, inI_iff, decide_eq_true_eq, decide_eq_false_iff_not])
  all_goals ((repeat' (first | apply And.intro | intro _)) <;> first | omega | grind)
end Go.Proofs.Ytbkdmnohpjihgaa.M

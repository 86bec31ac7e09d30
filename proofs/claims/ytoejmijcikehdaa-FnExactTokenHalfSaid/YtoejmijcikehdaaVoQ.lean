/- TokenHalf, on both sides. -/
import Derived.Test.YtoejmijcikehdaaVnQ
import Derived.Test.YtoejmijcikehdaaQg
namespace Go.Proofs.Ytoejmijcikehdaa.M
open Go.RowKit Abs
set_option linter.unusedSimpArgs false
set_option linter.unusedVariables false
set_option maxRecDepth 100000
set_option maxHeartbeats 4000000
def hfV (n : Int) (l : List (Int × Int)) (p : List Int) (j : Int) : Int := dV n l (gi p j) j
def hfQ (n : Int) (l : List (Int × Int)) (p : List Int) (j : Int) : Bool := decide (0 ≤ hfV n l p j)
def hfS (n : Int) (l : List (Int × Int)) (p : List Int) (k : Int) : Int := sm (hfV n l p) k.toNat
def hfB (n : Int) (l : List (Int × Int)) (p : List Int) : Bool := tokB n l p && allI p.length (hfQ n l p)
def hfR (n : Int) (l : List (Int × Int)) (p : List Int) : Int := if hfB n l p = true then (hfS n l p p.length + 1).tdiv 2 else 0
theorem hf_bad {n k : Int} {l : List (Int × Int)} {p : List Int} (h0 : 0 ≤ k) (h1 : k < (p.length : Int)) (h : hfV n l p k < 0) : hfR n l p = 0 ∧ hfB n l p = false := by
  have : hfB n l p = false := by unfold hfB; rw [allI_bad h0 h1 (by unfold hfQ; rw [decide_eq_false_iff_not]; omega), Bool.and_false]
  exact ⟨by unfold hfR; rw [this, if_neg (by decide)], this⟩
theorem hf_good {n : Int} {l : List (Int × Int)} {p : List Int} (hb : tokB n l p = true) (h : ∀ j : Int, 0 ≤ j → j < (p.length : Int) → hfQ n l p j = true) : hfR n l p = (hfS n l p p.length + 1).tdiv 2 ∧ hfB n l p = true := by
  have : hfB n l p = true := by unfold hfB; rw [hb, allI_good h]; rfl
  exact ⟨by unfold hfR; rw [this, if_pos rfl], this⟩
theorem hf_none {n : Int} {l : List (Int × Int)} {p : List Int} (hb : tokB n l p = false) : hfR n l p = 0 ∧ hfB n l p = false := by
  have : hfB n l p = false := by unfold hfB; rw [hb]; rfl
  exact ⟨by unfold hfR; rw [this, if_neg (by decide)], this⟩
theorem hfS_next {n k : Int} {l : List (Int × Int)} {p : List Int} (h0 : 0 ≤ k) : hfS n l p (k + 1) = hfS n l p k + hfV n l p k := sm_next h0
theorem hf_in {n : Int} {l : List (Int × Int)} {p : List Int} (hb : tokB n l p = true) {j : Int} (h0 : 0 ≤ j) (h1 : j < (p.length : Int)) : (0 ≤ gi p j ∧ gi p j < n) ∧ (0 ≤ j ∧ j < n) := by
  obtain ⟨t1, t2, t3⟩ := tok_in hb
  have := perm_at t3 h0 h1
  omega
theorem hfS_le {n k : Int} {l : List (Int × Int)} {p : List Int} (hb : tokB n l p = true) (h0 : 0 ≤ k) (h1 : k ≤ p.length) (h : ∀ j : Int, 0 ≤ j → j < k → hfQ n l p j = true) : 0 ≤ hfS n l p k ∧ hfS n l p k ≤ 64 := by
  obtain ⟨t1, t2, t3⟩ := tok_in hb
  have h8 := (perm_ok t3).1
  have := sm_le (f := hfV n l p) (m := 8) (k := k.toNat) fun j j0 j1 => by
    have a := hf_in hb j0 (by omega)
    have b := h j j0 (by omega)
    unfold hfQ at b
    rw [decide_eq_true_eq] at b
    exact ⟨b, dV_le t1 a.1.1 a.1.2 j⟩
  unfold hfS
  omega
def rQ (n : Int) (l : List (Int × Int)) (p : List Int) (k : Int) : List Int := (search (nearR l n) (fun _ => true) (gi p k)).2
def rD (n : Int) (l : List (Int × Int)) (p : List Int) (k : Int) : List Int := (search (nearR l n) (fun _ => true) (gi p k)).1
def fD (n : Int) (l : List (Int × Int)) (k : Int) : List Int := (search (farN n l) (fun _ => true) k).1
theorem hf_reach {n k : Int} {l : List (Int × Int)} {p : List Int} (hb : tokB n l p = true) (h0 : 0 ≤ k) (h1 : k < (p.length : Int)) (hl : l.length ≤ 1048576) : gi (rD n l p k) k = hfV n l p k ∧ ((rD n l p k).length : Int) = n ∧ Spec2 Try.prog 69 [.sl (.sl .int) fun _ => nearR l n, .int fun _ => gi p k, .fnr 70 fun _ => ofCaps []] [] [.ref 0, .ref 1] [some (.row 3 .int fun _ => rQ n l p k), some (.row 3 .int fun _ => rD n l p k)] := by
  obtain ⟨t1, t2, t3⟩ := tok_in hb
  have hg := graph_ok t1
  have e : ((n.toNat : Nat) : Int) = n := by omega
  have hp : pairsOk l (n.toNat : Nat) = true := by rw [e]; exact hg.2
  obtain ⟨n1, n2, n3⟩ := near_ok hp
  have a := hf_in hb h0 h1
  have o := (search_inv (near := nearR l (n.toNat : Nat)) (q := fun _ => true) (i := gi p k) a.1.1 (by omega) n2).len
  refine ⟨?_, ?_, ?_⟩
  · unfold hfV dV distR rD
    rw [rep_len, e]
  · rw [e] at o n1
    unfold rD
    omega
  · rw [e] at n1 n2 n3
    exact im_reach (nearR l n) (fun _ => true) 70 (fun _ => ofCaps []) (gi p k) a.1.1 (by omega) (by omega) n2 (fun r hr => Nat.le_trans (n3 r hr) hl) (fun v _ _ => ⟨[], rfl, fun _ => rfl, im_any v⟩)
theorem hf_far {n k : Int} {l : List (Int × Int)} {p : List Int} (hb : tokB n l p = true) (h0 : 0 ≤ k) (h1 : k < (p.length : Int)) (hl : l.length ≤ 1048576) : ((hfV n l p k < 0 ∧ gi (fD n l k) (gi p k) < 0) ∨ (0 ≤ hfV n l p k ∧ gi (fD n l k) (gi p k) = hfV n l p k)) ∧ ((fD n l k).length : Int) = n ∧ Spec2 Try.prog 66 [.agg (.pr .int (.sl (.pr .int .int))) fun _ => (n, l), .int fun _ => k] [] [.ref 0] [some (.row 3 .int fun _ => fD n l k)] := by
  obtain ⟨t1, t2, t3⟩ := tok_in hb
  have hg := graph_ok t1
  have a := hf_in hb h0 h1
  have s := dV_sym t1 a.1.1 a.1.2 a.2.1 a.2.2
  have f1 := farN_len (n := n) (l := l)
  have o := (search_inv (near := farN n l) (q := fun _ => true) (i := k) h0 (by omega) farN_in).len
  refine ⟨?_, by unfold fD; omega, sp_far n l k hg.1.1 hg.1.2 hl h0 a.2.2⟩
  have e : gi (fD n l k) (gi p k) = dV n l k (gi p k) := by unfold fD; rw [far_eq t1]; rfl
  rw [e]
  have e2 : hfV n l p k = dV n l (gi p k) k := rfl
  omega
theorem im_tokenHalf (n : Int) (l : List (Int × Int)) (p : List Int) (hl : l.length ≤ 1048576) (hp : p.length ≤ 1048576) : Spec2 Try.prog 40 [.agg (.pr .int (.sl (.pr .int .int))) fun _ => (n, l), .sl .int fun _ => p] [] [.int fun _ => hfR n l p, .bool fun _ => hfB n l p] [] := by
  have hq := im_tokensOn n l p hl hp
  cases hb : tokB n l p with
  | false =>
    rw [hb, show tokV n l p = (0, List.replicate 8 0) by unfold tokV; rw [hb, if_neg (by decide)]] at hq
    obtain ⟨n1, n2⟩ := hf_none hb
    rw [n1, n2]
    clear n1 n2
    refine fnS [] [4, 5] Try.func40 rfl (by decide) rfl (by decide) (by kernel_rfl) rfl (by simp [Try.ntmps40]) ?_
    cbv
    ((try simp only [IfP_iff, and_true, true_and, decide_eq_true_eq, decide_eq_false_iff_not]); (try simp only [natc, getI_gi, at2_0, at2_1]); (try dsimp only [Ty.den]); (try simp only [natc] at *); (repeat' (first | apply And.intro | intro _)))
    all_goals (repeat' (first | ((first | refine call_q hq (by cbv) ?_ | refine call_pure hq (by cbv) ?_); cbv; ((try simp only [IfP_iff, and_true, true_and, decide_eq_true_eq, decide_eq_false_iff_not]); (try simp only [natc, getI_gi, at2_0, at2_1]); (try dsimp only [Ty.den]); (try simp only [natc] at *); (repeat' (first | apply And.intro | intro _))))))
    all_goals (try (exact absurd (by assumption : (!false) = false) (by decide)))
    all_goals (try (simp only [IfP_iff, EqU_iff, Obl_iff, and_true, true_and, inI_iff, decide_eq_true_eq, decide_eq_false_iff_not]; (try simp only [natc, getI_gi, at2_0, at2_1]); (try dsimp only [Ty.den]); try simp only [natc] at *))
    all_goals (first | exact ⟨rfl, rfl⟩ | rfl | trace_state)
  | true =>
    rw [hb, show tokV n l p = ((p.length : Int), padO p) by unfold tokV; rw [hb, if_pos rfl]] at hq
    have hg := graph_ok (tok_in hb).1
    have h8 := (perm_ok (tok_in hb).2.2).1
    have cn := im_nearLists l n (by omega) (by omega) hl (graph_edges (tok_in hb).1).2.1
    refine fnS [] [4, 5] Try.func40 rfl (by decide) rfl (by decide) (by kernel_rfl) rfl (by simp [Try.ntmps40]) ?_
    cbv
    ((try simp only [IfP_iff, and_true, true_and, decide_eq_true_eq, decide_eq_false_iff_not]); (try simp only [natc, getI_gi, at2_0, at2_1]); (try dsimp only [Ty.den]); (try simp only [natc] at *); (repeat' (first | apply And.intro | intro _)))
    all_goals (repeat' (first | ((first | refine call_q hq (by cbv) ?_ | refine call_pure hq (by cbv) ?_); cbv; ((try simp only [IfP_iff, and_true, true_and, decide_eq_true_eq, decide_eq_false_iff_not]); (try simp only [natc, getI_gi, at2_0, at2_1]); (try dsimp only [Ty.den]); (try simp only [natc] at *); (repeat' (first | apply And.intro | intro _)))) | ((first | refine call_q cn (by cbv) ?_ | refine call_pure cn (by cbv) ?_); cbv; ((try simp only [IfP_iff, and_true, true_and, decide_eq_true_eq, decide_eq_false_iff_not]); (try simp only [natc, getI_gi, at2_0, at2_1]); (try dsimp only [Ty.den]); (try simp only [natc] at *); (repeat' (first | apply And.intro | intro _))))))
    all_goals (try (exact absurd (by assumption : (!true) = true) (by decide)))
    refine loopX (by kernel_rfl) (fun k : Int => 0 ≤ k ∧ k ≤ p.length ∧ ∀ j : Int, 0 ≤ j → j < k → hfQ n l p j = true) (fun k => [(29, .int fun _ => k), (9, .int fun _ => hfS n l p k)]) (fun _ => []) (fun k => (p.length - k).toNat) (· + 1) 0 (by grind) ?_ ?_
    · cbv
      (simp only [IfP_iff, EqU_iff, Obl_iff, and_true, true_and, inI_iff, decide_eq_true_eq, decide_eq_false_iff_not]; (try simp only [natc, getI_gi, at2_0, at2_1]); (try dsimp only [Ty.den]); try simp only [natc] at *)
      rfl
    · intro k hk
      have i1 := upTo (p := fun j => hfQ n l p j) (k := k) hk.2.2
      have i2 := hfS_le hb hk.1 hk.2.1 hk.2.2
      have i3 := hfS_next (n := n) (l := l) (p := p) hk.1
      have r1 := fun h => (hf_reach hb hk.1 h hl).1
      have r2 : k < (p.length : Int) → k < ((rD n l p k).length : Int) := fun h => by
        have := (hf_reach hb hk.1 h hl).2.1
        have := (hf_in hb hk.1 h).2.2
        omega
      have r3 := fun h => (hf_reach hb hk.1 h hl).2.2
      have r4 : k < (p.length : Int) → hfV n l p k ≤ 8 := fun h => by
        have a := hf_in hb hk.1 h
        exact dV_le (tok_in hb).1 a.1.1 a.1.2 k
      have i4 : k < (p.length : Int) → gi (rD n l p k) k < 0 → hfR n l p = 0 ∧ hfB n l p = false := fun h h2 => hf_bad hk.1 h (by rw [← r1 h]; exact h2)
      have i5 : k < (p.length : Int) → ¬ gi (rD n l p k) k < 0 → (∀ j : Int, 0 ≤ j → j < k + 1 → hfQ n l p j = true) ∧ hfS n l p k + gi (rD n l p k) k = hfS n l p (k + 1) ∧ 0 ≤ gi (rD n l p k) k ∧ gi (rD n l p k) k ≤ 8 := fun h h2 => by
        rw [r1 h] at h2 ⊢
        exact ⟨i1 (show hfQ n l p k = true by unfold hfQ; rw [decide_eq_true_eq]; omega), i3.symm, by omega, r4 h⟩
      have i6 : ¬ k < (p.length : Int) → (hfS n l p k + 1).tdiv 2 = hfR n l p ∧ hfB n l p = true := fun h => by
        have e : k = p.length := by omega
        have := hf_good hb fun j a b => hk.2.2 j a (by omega)
        rw [← e] at this
        exact ⟨this.1.symm, this.2⟩
      have i7 : -9223372036854775808 ≤ (hfS n l p k + 1).tdiv 2 ∧ (hfS n l p k + 1).tdiv 2 ≤ 9223372036854775807 := by rw [Int.tdiv_eq_ediv_of_nonneg (by omega)]; omega
      clear i1 i3 r1 r4 hb
      cbv
      ((try simp only [IfP_iff, and_true, true_and, decide_eq_true_eq, decide_eq_false_iff_not]); (try simp only [natc, getI_gi, at2_0, at2_1]); (try dsimp only [Ty.den]); (try simp only [natc] at *); (repeat' (first | apply And.intro | intro _)))
      all_goals (repeat' (first | ((first | refine call_q (r3 (by assumption)) (by cbv) ?_ | refine call_pure (r3 (by assumption)) (by cbv) ?_); cbv; ((try simp only [IfP_iff, and_true, true_and, decide_eq_true_eq, decide_eq_false_iff_not]); (try simp only [natc, getI_gi, at2_0, at2_1]); (try dsimp only [Ty.den]); (try simp only [natc] at *); (repeat' (first | apply And.intro | intro _))))))
      all_goals (try clear r3)
      all_goals (first
        | (refine RenL.mk ⟨[0, 1, 2], ?_⟩
           cbv
           (simp only [IfP_iff, EqU_iff, Obl_iff, and_true, true_and, inI_iff, decide_eq_true_eq, decide_eq_false_iff_not]; (try simp only [natc, getI_gi, at2_0, at2_1]); (try dsimp only [Ty.den]); try simp only [natc] at *)
           exact (i5 (by assumption) (by assumption)).2.1)
        | ((simp only [IfP_iff, EqU_iff, Obl_iff, and_true, true_and, inI_iff, decide_eq_true_eq, decide_eq_false_iff_not]; (try simp only [natc, getI_gi, at2_0, at2_1]); (try dsimp only [Ty.den]); try simp only [natc] at *)
           (repeat' (first | apply And.intro | intro _)) <;> first | omega | exact r2 (by assumption) | exact (i4 (by assumption) (by assumption)).1.symm | exact (i4 (by assumption) (by assumption)).2.symm | exact (i6 (by assumption)).1 | exact (i6 (by assumption)).2.symm | (exact (i5 (by assumption) (by assumption)).1 _ (by assumption) (by assumption)) | (have := (i5 (by assumption) (by assumption)).2; omega))
        | (trace_state; fail))
theorem sp_tokenHalf (n : Int) (l : List (Int × Int)) (p : List Int) (hl : l.length ≤ 1048576) (hp : p.length ≤ 1048576) : Spec2 Try.prog 38 [.agg (.pr .int (.sl (.pr .int .int))) fun _ => (n, l), .sl .int fun _ => p] [] [.int fun _ => hfR n l p, .bool fun _ => hfB n l p] [] := by
  have hq := sp_perm p hp
  have hg := sp_good n l hl
  have z1 : (!graphOk n l) = true ∨ (!decide ((p.length : Int) = n)) = true ∨ (!permB p) = true → hfR n l p = 0 ∧ hfB n l p = false := fun h => hf_none (by
    cases ht : tokB n l p with
    | false => rfl
    | true =>
      obtain ⟨t1, t2, t3⟩ := tok_in ht
      rw [t1, t3] at h
      simp [t2] at h)
  have z2 : (!graphOk n l) = false → (!decide ((p.length : Int) = n)) = false → (!permB p) = false → tokB n l p = true := fun a b c => by
    unfold tokB
    rw [show graphOk n l = true by simpa using a, show permB p = true by simpa using c, show decide ((p.length : Int) = n) = true by simpa using b]
    rfl
  refine fnS [] [4, 5] Try.func38 rfl (by decide) rfl (by decide) (by kernel_rfl) rfl (by simp [Try.ntmps38]) ?_
  cbv
  ((try simp only [IfP_iff, and_true, true_and, decide_eq_true_eq, decide_eq_false_iff_not]); (try simp only [natc, getI_gi, at2_0, at2_1]); (try dsimp only [Ty.den]); (try simp only [natc] at *); (repeat' (first | apply And.intro | intro _)))
  all_goals (repeat' (first | ((first | refine call_q hq (by cbv) ?_ | refine call_pure hq (by cbv) ?_); cbv; ((try simp only [IfP_iff, and_true, true_and, decide_eq_true_eq, decide_eq_false_iff_not]); (try simp only [natc, getI_gi, at2_0, at2_1]); (try dsimp only [Ty.den]); (try simp only [natc] at *); (repeat' (first | apply And.intro | intro _)))) | ((first | refine call_q hg (by cbv) ?_ | refine call_pure hg (by cbv) ?_); cbv; ((try simp only [IfP_iff, and_true, true_and, decide_eq_true_eq, decide_eq_false_iff_not]); (try simp only [natc, getI_gi, at2_0, at2_1]); (try dsimp only [Ty.den]); (try simp only [natc] at *); (repeat' (first | apply And.intro | intro _))))))
  all_goals (try ((simp only [IfP_iff, EqU_iff, Obl_iff, and_true, true_and, inI_iff, decide_eq_true_eq, decide_eq_false_iff_not]; (try simp only [natc, getI_gi, at2_0, at2_1]); (try dsimp only [Ty.den]); try simp only [natc] at *); first | exact ⟨(z1 (.inl (by assumption))).1.symm, (z1 (.inl (by assumption))).2.symm⟩ | exact ⟨(z1 (.inr (.inl (by assumption)))).1.symm, (z1 (.inr (.inl (by assumption)))).2.symm⟩ | exact ⟨(z1 (.inr (.inr (by assumption)))).1.symm, (z1 (.inr (.inr (by assumption)))).2.symm⟩ | exact (z1 (.inl (by assumption))).1.symm | exact (z1 (.inl (by assumption))).2.symm | exact (z1 (.inr (.inl (by assumption)))).1.symm | exact (z1 (.inr (.inl (by assumption)))).2.symm | exact (z1 (.inr (.inr (by assumption)))).1.symm | exact (z1 (.inr (.inr (by assumption)))).2.symm))
  have hb := z2 (by assumption) (by assumption) (by assumption)
  clear z1 z2 hq hg
  have h8 := (perm_ok (tok_in hb).2.2).1
  refine loopX (by kernel_rfl) (fun k : Int => 0 ≤ k ∧ k ≤ p.length ∧ ∀ j : Int, 0 ≤ j → j < k → hfQ n l p j = true) (fun k => [(7, .int fun _ => k), (6, .int fun _ => hfS n l p k)]) (fun _ => []) (fun k => (p.length - k).toNat) (· + 1) 0 (by grind) ?_ ?_
  · cbv
    (simp only [IfP_iff, EqU_iff, Obl_iff, and_true, true_and, inI_iff, decide_eq_true_eq, decide_eq_false_iff_not]; (try simp only [natc, getI_gi, at2_0, at2_1]); (try dsimp only [Ty.den]); try simp only [natc] at *)
    rfl
  · intro k hk
    have i1 := upTo (p := fun j => hfQ n l p j) (k := k) hk.2.2
    have i2 := hfS_le hb hk.1 hk.2.1 hk.2.2
    have i3 := hfS_next (n := n) (l := l) (p := p) hk.1
    have r1 := fun h => (hf_far hb hk.1 h hl).1
    have r2 : k < (p.length : Int) → 0 ≤ gi p k ∧ gi p k < ((fD n l k).length : Int) := fun h => by
      have := (hf_far hb hk.1 h hl).2.1
      have := (hf_in hb hk.1 h).1
      omega
    have r3 := fun h => (hf_far hb hk.1 h hl).2.2
    have r4 : k < (p.length : Int) → hfV n l p k ≤ 8 := fun h => by
      have a := hf_in hb hk.1 h
      exact dV_le (tok_in hb).1 a.1.1 a.1.2 k
    have i4 : k < (p.length : Int) → gi (fD n l k) (gi p k) < 0 → hfR n l p = 0 ∧ hfB n l p = false := fun h h2 => hf_bad hk.1 h (by have := r1 h; omega)
    have i5 : k < (p.length : Int) → ¬ gi (fD n l k) (gi p k) < 0 → (∀ j : Int, 0 ≤ j → j < k + 1 → hfQ n l p j = true) ∧ hfS n l p k + gi (fD n l k) (gi p k) = hfS n l p (k + 1) ∧ 0 ≤ gi (fD n l k) (gi p k) ∧ gi (fD n l k) (gi p k) ≤ 8 := fun h h2 => by
      have a := r1 h
      have b := r4 h
      exact ⟨i1 (show hfQ n l p k = true by unfold hfQ; rw [decide_eq_true_eq]; omega), by omega, by omega, by omega⟩
    have i6 : ¬ k < (p.length : Int) → (hfS n l p k + 1).tdiv 2 = hfR n l p ∧ hfB n l p = true := fun h => by
      have e : k = p.length := by omega
      have := hf_good hb fun j a b => hk.2.2 j a (by omega)
      rw [← e] at this
      exact ⟨this.1.symm, this.2⟩
    have i7 : -9223372036854775808 ≤ (hfS n l p k + 1).tdiv 2 ∧ (hfS n l p k + 1).tdiv 2 ≤ 9223372036854775807 := by rw [Int.tdiv_eq_ediv_of_nonneg (by omega)]; omega
    clear i1 i3 r1 r4 hb
    cbv
    ((try simp only [IfP_iff, and_true, true_and, decide_eq_true_eq, decide_eq_false_iff_not]); (try simp only [natc, getI_gi, at2_0, at2_1]); (try dsimp only [Ty.den]); (try simp only [natc] at *); (repeat' (first | apply And.intro | intro _)))
    all_goals (repeat' (first | ((first | refine call_q (r3 (by assumption)) (by cbv) ?_ | refine call_pure (r3 (by assumption)) (by cbv) ?_); cbv; ((try simp only [IfP_iff, and_true, true_and, decide_eq_true_eq, decide_eq_false_iff_not]); (try simp only [natc, getI_gi, at2_0, at2_1]); (try dsimp only [Ty.den]); (try simp only [natc] at *); (repeat' (first | apply And.intro | intro _))))))
    all_goals (try clear r3)
    all_goals (first
      | (refine RenL.mk ⟨[0], ?_⟩
         cbv
         (simp only [IfP_iff, EqU_iff, Obl_iff, and_true, true_and, inI_iff, decide_eq_true_eq, decide_eq_false_iff_not]; (try simp only [natc, getI_gi, at2_0, at2_1]); (try dsimp only [Ty.den]); try simp only [natc] at *)
         exact (i5 (by assumption) (by assumption)).2.1)
      | ((simp only [IfP_iff, EqU_iff, Obl_iff, and_true, true_and, inI_iff, decide_eq_true_eq, decide_eq_false_iff_not]; (try simp only [natc, getI_gi, at2_0, at2_1]); (try dsimp only [Ty.den]); try simp only [natc] at *)
         (repeat' (first | apply And.intro | intro _)) <;> first | omega | exact r2 (by assumption) | exact (r2 (by assumption)).1 | exact (r2 (by assumption)).2 | exact (i4 (by assumption) (by assumption)).1.symm | exact (i4 (by assumption) (by assumption)).2.symm | exact (i6 (by assumption)).1 | exact (i6 (by assumption)).2.symm | (exact (i5 (by assumption) (by assumption)).1 _ (by assumption) (by assumption)) | (have := (i5 (by assumption) (by assumption)).2; omega))
      | (trace_state; fail))
end Go.Proofs.Ytoejmijcikehdaa.M

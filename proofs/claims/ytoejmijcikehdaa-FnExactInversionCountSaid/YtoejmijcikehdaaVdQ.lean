/- InversionCount, on both sides. -/
import Derived.Test.YtoejmijcikehdaaVcQ
import Derived.Test.YtoejmijcikehdaaQg
namespace Go.Proofs.Ytoejmijcikehdaa.M
open Go.RowKit Abs
set_option linter.unusedSimpArgs false
set_option linter.unusedVariables false
set_option maxRecDepth 100000
set_option maxHeartbeats 4000000
def invS (p : List Int) (b : Int) : Int := sm (fun b => ct (fun a => invQ p a b) b.toNat) b.toNat
def invC (p : List Int) (b a : Int) : Int := ct (fun x => invQ p x b) a.toNat
def rowS (p : List Int) (a : Int) : Int := sm (fun a => ct (fun b => decide (a < b) && invQ p a b) p.length) a.toNat
def rowC (p : List Int) (a b : Int) : Int := ct (fun b => decide (a < b) && invQ p a b) b.toNat
theorem invS_next {p : List Int} {b : Int} (h0 : 0 ≤ b) : invS p (b + 1) = invS p b + invC p b b := sm_next h0
theorem invC_next {p : List Int} {b a : Int} (h0 : 0 ≤ a) : invC p b (a + 1) = invC p b a + if gi p b < gi p a then 1 else 0 := by
  have := ct_next (q := fun x => invQ p x b) h0
  unfold invC
  rw [this]
  simp only [invQ, decide_eq_true_eq]
theorem invC_le {p : List Int} {b a : Int} (h0 : 0 ≤ a) : 0 ≤ invC p b a ∧ invC p b a ≤ a := by
  have := ct_le (q := fun x => invQ p x b) (k := a.toNat)
  unfold invC
  omega
theorem invS_le {p : List Int} {b : Int} (h0 : 0 ≤ b) (h1 : b ≤ 8) : 0 ≤ invS p b ∧ invS p b ≤ 64 := by
  have := sm_le (f := fun b => ct (fun a => invQ p a b) b.toNat) (m := 8) (k := b.toNat) fun j j0 j1 => by
    have := ct_le (q := fun x => invQ p x j) (k := j.toNat)
    omega
  unfold invS
  omega
theorem rowS_next {p : List Int} {a : Int} (h0 : 0 ≤ a) : rowS p (a + 1) = rowS p a + rowC p a p.length := by
  have := sm_next (f := fun a => ct (fun b => decide (a < b) && invQ p a b) p.length) h0
  unfold rowS rowC
  rw [this]
  rfl
theorem rowC_next {p : List Int} {a b : Int} (h0 : 0 ≤ a) (h1 : a < b) : rowC p a (b + 1) = rowC p a b + if gi p b < gi p a then 1 else 0 := by
  have := ct_next (q := fun b => decide (a < b) && invQ p a b) (k := b) (by omega)
  unfold rowC
  rw [this]
  simp only [invQ, Bool.and_eq_true, decide_eq_true_eq, h1, true_and]
theorem rowC_zero {p : List Int} {a : Int} (h0 : 0 ≤ a) : rowC p a (a + 1) = 0 := ct_zero fun j j0 j1 => by
  simp only [Bool.and_eq_false_iff, decide_eq_false_iff_not]
  left
  omega
theorem rowC_le {p : List Int} {a b : Int} (h0 : 0 ≤ b) : 0 ≤ rowC p a b ∧ rowC p a b ≤ b := by
  have := ct_le (q := fun b => decide (a < b) && invQ p a b) (k := b.toNat)
  unfold rowC
  omega
theorem rowS_le {p : List Int} {a : Int} (hp : p.length ≤ 8) (h0 : 0 ≤ a) (h1 : a ≤ 8) : 0 ≤ rowS p a ∧ rowS p a ≤ 64 := by
  have := sm_le (f := fun a => ct (fun b => decide (a < b) && invQ p a b) p.length) (m := 8) (k := a.toNat) fun j j0 j1 => by
    have := ct_le (q := fun b => decide (j < b) && invQ p j b) (k := p.length)
    omega
  unfold rowS
  omega
theorem rowS_end {p : List Int} : rowS p p.length = invI p := inv_eq p
theorem invS_end {p : List Int} : invS p p.length = invI p := rfl
theorem im_inv (p : List Int) (hp : p.length ≤ 1048576) : Spec2 Try.prog 18 [.sl .int fun _ => p] [] [.int fun _ => invR p, .bool fun _ => permB p] [] := by
  have h2 : invR p = _ := rfl
  conv at h2 => rhs; unfold invR
  cases hb : permB p with
  | false =>
    rw [hb, if_neg (by decide)] at h2
    rw [h2]
    have hq := im_perm p hp
    rw [hb] at hq
    refine fnS [] [2, 3] Try.func18 rfl (by decide) rfl (by decide) (by kernel_rfl) rfl (by simp [Try.ntmps18]) ?_
    cbv
    repeat' (first | ((first | refine call_q hq (by cbv) ?_ | refine call_pure hq (by cbv) ?_); cbv; ((try simp only [IfP_iff, and_true, true_and, decide_eq_true_eq, decide_eq_false_iff_not]); (try simp only [natc, getI_gi, at2_0, at2_1]); (try dsimp only [Ty.den]); (try simp only [natc] at *); (repeat' (first | apply And.intro | intro _)))))
    all_goals (try (simp only [IfP_iff, EqU_iff, Obl_iff, and_true, true_and, inI_iff, decide_eq_true_eq, decide_eq_false_iff_not]; (try simp only [natc, getI_gi, at2_0, at2_1]); (try dsimp only [Ty.den]); try simp only [natc] at *))
    all_goals (first | exact ⟨rfl, rfl⟩ | rfl | (exact absurd (by assumption : (!false) = false) (by decide)) | trace_state)
  | true =>
    rw [hb, if_pos rfl] at h2
    have h8 := (perm_ok hb).1
    have hq := im_perm p hp
    rw [hb] at hq
    rw [h2]
    clear h2 hb
    refine fnS [] [2, 3] Try.func18 rfl (by decide) rfl (by decide) (by kernel_rfl) rfl (by simp [Try.ntmps18]) ?_
    cbv
    ((try simp only [IfP_iff, and_true, true_and, decide_eq_true_eq, decide_eq_false_iff_not]); (try simp only [natc, getI_gi, at2_0, at2_1]); (try dsimp only [Ty.den]); (try simp only [natc] at *); (repeat' (first | apply And.intro | intro _)))
    all_goals (repeat' (first | ((first | refine call_q hq (by cbv) ?_ | refine call_pure hq (by cbv) ?_); cbv; ((try simp only [IfP_iff, and_true, true_and, decide_eq_true_eq, decide_eq_false_iff_not]); (try simp only [natc, getI_gi, at2_0, at2_1]); (try dsimp only [Ty.den]); (try simp only [natc] at *); (repeat' (first | apply And.intro | intro _))))))
    all_goals (try (exact absurd (by assumption : (!true) = true) (by decide)))
    refine loopP (by kernel_rfl) (fun b : Int => 0 ≤ b ∧ b ≤ p.length) (fun b => [(14, .int fun _ => b), (4, .int fun _ => invS p b)]) (fun _ => []) (fun b => (p.length - b).toNat) (· + 1) 0 (by omega) ?_ ?_
    · cbv
      (simp only [IfP_iff, EqU_iff, Obl_iff, and_true, true_and, inI_iff, decide_eq_true_eq, decide_eq_false_iff_not]; (try simp only [natc, getI_gi, at2_0, at2_1]); (try dsimp only [Ty.den]); try simp only [natc] at *)
      exact rfl
    · intro b hb2
      have e1 : ¬ b < (p.length : Int) → invS p b = invI p := fun h => by rw [show b = p.length by omega]; rfl
      have e2 := invS_next (p := p) hb2.1
      have e3 := invS_le (p := p) hb2.1 (by omega)
      have e4 : invC p b 0 = 0 := rfl
      have e6 : subL p 0 b = p.take b.toNat := by unfold subL; rfl
      have e5 : b < (p.length : Int) → (((subL p 0 b).length : Nat) : Int) = b := fun h => by rw [e6, List.length_take]; omega
      cbv
      ((try simp only [IfP_iff, and_true, true_and, decide_eq_true_eq, decide_eq_false_iff_not]); (try simp only [natc, getI_gi, at2_0, at2_1]); (try dsimp only [Ty.den]); (try simp only [natc] at *); (repeat' (first | apply And.intro | intro _)))
      all_goals (try (show Obl _; (simp only [IfP_iff, EqU_iff, Obl_iff, and_true, true_and, inI_iff, decide_eq_true_eq, decide_eq_false_iff_not]; (try simp only [natc, getI_gi, at2_0, at2_1]); (try dsimp only [Ty.den]); try simp only [natc] at *); ((repeat' (first | apply And.intro | intro _)) <;> first | omega | (simp only [List.length_append, List.length_cons, List.length_nil]; omega) | grind)))
      · refine loopP (by kernel_rfl) (fun a : Int => 0 ≤ a ∧ a ≤ b) (fun a => [(23, .int fun _ => a), (4, .int fun _ => invS p b + invC p b a)]) (fun _ => []) (fun a => (b - a).toNat) (· + 1) 0 (by omega) ?_ ?_
        · cbv
          (simp only [IfP_iff, EqU_iff, Obl_iff, and_true, true_and, inI_iff, decide_eq_true_eq, decide_eq_false_iff_not]; (try simp only [natc, getI_gi, at2_0, at2_1]); (try dsimp only [Ty.den]); try simp only [natc] at *)
          all_goals ((repeat' (first | apply And.intro | intro _)) <;> first | omega | (simp only [List.length_append, List.length_cons, List.length_nil]; omega) | grind)
        · intro a ha
          have f1 := invC_next (p := p) (b := b) ha.1
          have f2 := invC_le (p := p) (b := b) ha.1
          have f3 : a < b → gi (subL p 0 b) a = gi p a := fun h => by
            rw [e6]
            unfold gi
            rw [List.getD_eq_getElem?_getD, List.getD_eq_getElem?_getD, List.getElem?_take_of_lt (by omega)]
          cbv
          ((try simp only [IfP_iff, and_true, true_and, decide_eq_true_eq, decide_eq_false_iff_not]); (try simp only [natc, getI_gi, at2_0, at2_1]); (try dsimp only [Ty.den]); (try simp only [natc] at *); (repeat' (first | apply And.intro | intro _)))
          all_goals (try (simp only [IfP_iff, EqU_iff, Obl_iff, and_true, true_and, inI_iff, decide_eq_true_eq, decide_eq_false_iff_not]; (try simp only [natc, getI_gi, at2_0, at2_1]); (try dsimp only [Ty.den]); try simp only [natc] at *))
          all_goals ((repeat' (first | apply And.intro | intro _)) <;> first | omega | (simp only [List.length_append, List.length_cons, List.length_nil]; omega) | grind | trace_state)
      all_goals (try (simp only [IfP_iff, EqU_iff, Obl_iff, and_true, true_and, inI_iff, decide_eq_true_eq, decide_eq_false_iff_not]; (try simp only [natc, getI_gi, at2_0, at2_1]); (try dsimp only [Ty.den]); try simp only [natc] at *))
      all_goals ((repeat' (first | apply And.intro | intro _)) <;> first | omega | (simp only [List.length_append, List.length_cons, List.length_nil]; omega) | grind | trace_state)
theorem sp_inv (p : List Int) (hp : p.length ≤ 1048576) : Spec2 Try.prog 17 [.sl .int fun _ => p] [] [.int fun _ => invR p, .bool fun _ => permB p] [] := by
  have h2 : invR p = _ := rfl
  conv at h2 => rhs; unfold invR
  cases hb : permB p with
  | false =>
    rw [hb, if_neg (by decide)] at h2
    rw [h2]
    have hq := sp_perm p hp
    rw [hb] at hq
    refine fnS [] [2, 3] Try.func17 rfl (by decide) rfl (by decide) (by kernel_rfl) rfl (by simp [Try.ntmps17]) ?_
    cbv
    repeat' (first | ((first | refine call_q hq (by cbv) ?_ | refine call_pure hq (by cbv) ?_); cbv; ((try simp only [IfP_iff, and_true, true_and, decide_eq_true_eq, decide_eq_false_iff_not]); (try simp only [natc, getI_gi, at2_0, at2_1]); (try dsimp only [Ty.den]); (try simp only [natc] at *); (repeat' (first | apply And.intro | intro _)))))
    all_goals (try (simp only [IfP_iff, EqU_iff, Obl_iff, and_true, true_and, inI_iff, decide_eq_true_eq, decide_eq_false_iff_not]; (try simp only [natc, getI_gi, at2_0, at2_1]); (try dsimp only [Ty.den]); try simp only [natc] at *))
    all_goals (first | exact ⟨rfl, rfl⟩ | rfl | (exact absurd (by assumption : (!false) = false) (by decide)) | trace_state)
  | true =>
    rw [hb, if_pos rfl] at h2
    have h8 := (perm_ok hb).1
    have hq := sp_perm p hp
    rw [hb] at hq
    rw [h2]
    clear h2 hb
    refine fnS [] [2, 3] Try.func17 rfl (by decide) rfl (by decide) (by kernel_rfl) rfl (by simp [Try.ntmps17]) ?_
    cbv
    ((try simp only [IfP_iff, and_true, true_and, decide_eq_true_eq, decide_eq_false_iff_not]); (try simp only [natc, getI_gi, at2_0, at2_1]); (try dsimp only [Ty.den]); (try simp only [natc] at *); (repeat' (first | apply And.intro | intro _)))
    all_goals (repeat' (first | ((first | refine call_q hq (by cbv) ?_ | refine call_pure hq (by cbv) ?_); cbv; ((try simp only [IfP_iff, and_true, true_and, decide_eq_true_eq, decide_eq_false_iff_not]); (try simp only [natc, getI_gi, at2_0, at2_1]); (try dsimp only [Ty.den]); (try simp only [natc] at *); (repeat' (first | apply And.intro | intro _))))))
    all_goals (try (exact absurd (by assumption : (!true) = true) (by decide)))
    refine loopP (by kernel_rfl) (fun b : Int => 0 ≤ b ∧ b ≤ p.length) (fun b => [(5, .int fun _ => b), (4, .int fun _ => rowS p b)]) (fun _ => []) (fun b => (p.length - b).toNat) (· + 1) 0 (by omega) ?_ ?_
    · cbv
      (simp only [IfP_iff, EqU_iff, Obl_iff, and_true, true_and, inI_iff, decide_eq_true_eq, decide_eq_false_iff_not]; (try simp only [natc, getI_gi, at2_0, at2_1]); (try dsimp only [Ty.den]); try simp only [natc] at *)
      exact rfl
    · intro b hb2
      have e1 : ¬ b < (p.length : Int) → rowS p b = invI p := fun h => by rw [show b = p.length by omega]; exact rowS_end
      have e2 := rowS_next (p := p) hb2.1
      have e3 := rowS_le (p := p) h8 hb2.1 (by omega)
      have e4 := rowC_zero (p := p) hb2.1
      cbv
      ((try simp only [IfP_iff, and_true, true_and, decide_eq_true_eq, decide_eq_false_iff_not]); (try simp only [natc, getI_gi, at2_0, at2_1]); (try dsimp only [Ty.den]); (try simp only [natc] at *); (repeat' (first | apply And.intro | intro _)))
      all_goals (try (show Obl _; (simp only [IfP_iff, EqU_iff, Obl_iff, and_true, true_and, inI_iff, decide_eq_true_eq, decide_eq_false_iff_not]; (try simp only [natc, getI_gi, at2_0, at2_1]); (try dsimp only [Ty.den]); try simp only [natc] at *); ((repeat' (first | apply And.intro | intro _)) <;> first | omega | (simp only [List.length_append, List.length_cons, List.length_nil]; omega) | grind)))
      · refine loopP (by kernel_rfl) (fun a : Int => b < a ∧ a ≤ p.length) (fun a => [(6, .int fun _ => a), (4, .int fun _ => rowS p b + rowC p b a)]) (fun _ => []) (fun a => (p.length - a).toNat) (· + 1) (b + 1) (by omega) ?_ ?_
        · cbv
          (simp only [IfP_iff, EqU_iff, Obl_iff, and_true, true_and, inI_iff, decide_eq_true_eq, decide_eq_false_iff_not]; (try simp only [natc, getI_gi, at2_0, at2_1]); (try dsimp only [Ty.den]); try simp only [natc] at *)
          all_goals ((repeat' (first | apply And.intro | intro _)) <;> first | omega | (simp only [List.length_append, List.length_cons, List.length_nil]; omega) | grind)
        · intro a ha
          have f1 := rowC_next (p := p) hb2.1 ha.1
          have f2 := rowC_le (p := p) (a := b) (b := a) (by omega)
          have f3 : ¬ a < (p.length : Int) → rowC p b a = rowC p b p.length := fun h => by rw [show a = p.length by omega]
          cbv
          ((try simp only [IfP_iff, and_true, true_and, decide_eq_true_eq, decide_eq_false_iff_not]); (try simp only [natc, getI_gi, at2_0, at2_1]); (try dsimp only [Ty.den]); (try simp only [natc] at *); (repeat' (first | apply And.intro | intro _)))
          all_goals (try (simp only [IfP_iff, EqU_iff, Obl_iff, and_true, true_and, inI_iff, decide_eq_true_eq, decide_eq_false_iff_not]; (try simp only [natc, getI_gi, at2_0, at2_1]); (try dsimp only [Ty.den]); try simp only [natc] at *))
          all_goals ((repeat' (first | apply And.intro | intro _)) <;> first | omega | (simp only [List.length_append, List.length_cons, List.length_nil]; omega) | grind | trace_state)
      all_goals (try (simp only [IfP_iff, EqU_iff, Obl_iff, and_true, true_and, inI_iff, decide_eq_true_eq, decide_eq_false_iff_not]; (try simp only [natc, getI_gi, at2_0, at2_1]); (try dsimp only [Ty.den]); try simp only [natc] at *))
      all_goals ((repeat' (first | apply And.intro | intro _)) <;> first | omega | (simp only [List.length_append, List.length_cons, List.length_nil]; omega) | grind | trace_state)
end Go.Proofs.Ytoejmijcikehdaa.M

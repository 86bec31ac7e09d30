/- The classes of a Formula, on both sides. -/
import Derived.Test.YtjfjkfdalmafeaaIgQ
import Derived.Test.YtjfjkfdalmafeaaRfQ
import Derived.Test.YtjfjkfdalmafeaaQc
namespace Go.Proofs.Ytjfjkfdalmafeaa.M
open Go.RowKit Abs
set_option linter.unusedSimpArgs false
set_option linter.unusedVariables false
set_option maxRecDepth 100000
set_option maxHeartbeats 4000000
theorem allI_nxt {p : Int → Bool} {k : Int} (h0 : 0 ≤ k) : allI (k + 1).toNat p = (allI k.toNat p && p k) := by
  have e : (k + 1).toNat = k.toNat + 1 := by omega
  unfold allI
  rw [e, List.range_succ, List.all_append]
  simp only [List.all_cons, List.all_nil, Bool.and_true]
  rw [Int.toNat_of_nonneg h0]
def cntP (r : List Int) : Int := ((r.filter fun x => decide (0 < x)).length : Int)
theorem cntP_next {r : List Int} {k : Int} (h0 : 0 ≤ k) (h1 : k < (r.length : Int)) : cntP (r.take (k + 1).toNat) = cntP (r.take k.toNat) + if 0 < gi r k then 1 else 0 := by
  unfold cntP
  rw [take_gi h0 h1, List.filter_append, List.length_append]
  by_cases h : 0 < gi r k
  · rw [if_pos h, List.filter_cons_of_pos (by simpa using h)]; simp
  · rw [if_neg h, List.filter_cons_of_neg (by simpa using h)]; simp
theorem cntP_in (r : List Int) : 0 ≤ cntP r ∧ cntP r ≤ r.length := by
  unfold cntP
  have := List.length_filter_le (fun x : Int => decide (0 < x)) r
  omega
def lngF (L : List (List Int)) (i : Int) : Int := (getR .int L i).length
def posF (L : List (List Int)) (i : Int) : Int := cntP (getR .int L i)
def negF (L : List (List Int)) (i : Int) : Int := (getR .int L i).length - cntP (getR .int L i)
def leB (f : Int → Int) (c : Int) (i : Int) : Bool := decide (f i ≤ c)
def clB (f : Int → Int) (c : Int) (n : Int) (L : List (List Int)) : Bool := formOk n L && allI L.length (leB f c)
theorem im_classOf (n : Int) (L : List (List Int)) (hL : L.length ≤ 1048576) (hm : ∀ r ∈ L, r.length ≤ 1048576) (hx : ∀ r ∈ L, ∀ x ∈ r, inI x) : Spec2 Try.prog 25 [.cells [.int fun _ => n, .sl (.sl .int) fun _ => L]] [] [.bool fun _ => clB (lngF L) 2 n L, .bool fun _ => clB (posF L) 1 n L, .bool fun _ => clB (negF L) 1 n L, .bool fun _ => formOk n L] [] := by
  have h91 : clB (lngF L) 2 n L = (formOk n L && allI L.length (leB (lngF L) 2)) := rfl
  have h92 : clB (posF L) 1 n L = (formOk n L && allI L.length (leB (posF L) 1)) := rfl
  have h93 : clB (negF L) 1 n L = (formOk n L && allI L.length (leB (negF L) 1)) := rfl
  have hk : ∀ i : Int, 0 ≤ i → i < (L.length : Int) → (getR .int L i).length ≤ 1048576 := fun i a b => hm _ (getR_mem a b)
  have hI := im_isFormula n L hL hm hx
  clear hx hm
  refine fnG4 [.tmp 2, .tmp 3, .tmp 4, .tmp 5] Try.func25 rfl (by decide) rfl (by kernel_rfl) rfl (by kernel_rfl) (Nat.zero_le _) (by simp [Try.ntmps25]) ?_
  cbv
  repeat' (first | ((first | refine call_q (Spec2.agg6 (t := .pr .int (.sl (.sl .int))) (x := fun _ => (n, L)) hI) (by cbv) ?_ | refine call_pure (Spec2.agg6 (t := .pr .int (.sl (.sl .int))) (x := fun _ => (n, L)) hI) (by cbv) ?_); cbv; ((try simp only [IfP_iff, and_true, true_and, decide_eq_true_eq, decide_eq_false_iff_not]); (try simp only [natc, getI_gi, at2_0, at2_1]); (try dsimp only [Ty.den]); (try simp only [natc] at *); (repeat' (first | apply And.intro | intro _)))))
  all_goals (try (simp only [IfP_iff, EqU_iff, Obl_iff, and_true, true_and, inI_iff, decide_eq_true_eq, decide_eq_false_iff_not]; (try simp only [natc, getI_gi, at2_0, at2_1]); (try dsimp only [Ty.den]); try simp only [natc] at *))
  · refine EndG.plain [] ?_
    cbv
    (simp only [IfP_iff, EqU_iff, Obl_iff, and_true, true_and, inI_iff, decide_eq_true_eq, decide_eq_false_iff_not]; (try simp only [natc, getI_gi, at2_0, at2_1]); (try dsimp only [Ty.den]); try simp only [natc] at *)
    have hf : formOk n L = false := by simpa using (by assumption : (!formOk n L) = true)
    rw [h91, h92, h93, hf]
    exact ⟨rfl, rfl, rfl, rfl⟩
  have hf : formOk n L = true := by simpa using (by assumption : (!formOk n L) = false)
  rw [hf, Bool.true_and] at h91 h92 h93
  refine loopP (by kernel_rfl) (fun i : Int => 0 ≤ i ∧ i ≤ L.length) (fun i => [(20, .int fun _ => i), (6, .bool fun _ => allI i.toNat (leB (lngF L) 2)), (7, .bool fun _ => allI i.toNat (leB (posF L) 1)), (8, .bool fun _ => allI i.toNat (leB (negF L) 1))]) (fun _ => []) (fun i => (L.length - i).toNat) (· + 1) 0 (by omega) ?_ ?_
  · cbv
    (simp only [IfP_iff, EqU_iff, Obl_iff, and_true, true_and, inI_iff, decide_eq_true_eq, decide_eq_false_iff_not]; (try simp only [natc, getI_gi, at2_0, at2_1]); (try dsimp only [Ty.den]); try simp only [natc] at *)
    simp [allI]
  · intro i hi
    have a1 := allI_nxt (p := leB (lngF L) 2) hi.1
    have a2 := allI_nxt (p := leB (posF L) 1) hi.1
    have a3 := allI_nxt (p := leB (negF L) 1) hi.1
    have b1 : leB (lngF L) 2 i = decide (((getR .int L i).length : Int) ≤ 2) := rfl
    have b2 : leB (posF L) 1 i = decide (cntP (getR .int L i) ≤ 1) := rfl
    have b3 : leB (negF L) 1 i = decide ((getR .int L i).length - cntP (getR .int L i) ≤ 1) := rfl
    have b4 : ¬ i < (L.length : Int) → i.toNat = L.length := by omega
    have b5 := hk i hi.1
    clear hk
    cbv
    ((try simp only [IfP_iff, and_true, true_and, decide_eq_true_eq, decide_eq_false_iff_not]); (try simp only [natc, getI_gi, at2_0, at2_1]); (try dsimp only [Ty.den]); (try simp only [natc] at *); (repeat' (first | apply And.intro | intro _)))
    · (simp only [IfP_iff, EqU_iff, Obl_iff, and_true, true_and, inI_iff, decide_eq_true_eq, decide_eq_false_iff_not]; (try simp only [natc, getI_gi, at2_0, at2_1]); (try dsimp only [Ty.den]); try simp only [natc] at *)
      omega
    · have b6 := b5 (by assumption)
      refine loopP (by kernel_rfl) (fun k : Int => 0 ≤ k ∧ k ≤ (getR .int L i).length) (fun k => [(26, .int fun _ => k), (11, .int fun _ => cntP ((getR .int L i).take k.toNat))]) (fun _ => []) (fun k => ((getR .int L i).length - k).toNat) (· + 1) 0 (by omega) ?_ ?_
      · cbv
        (simp only [IfP_iff, EqU_iff, Obl_iff, and_true, true_and, inI_iff, decide_eq_true_eq, decide_eq_false_iff_not]; (try simp only [natc, getI_gi, at2_0, at2_1]); (try dsimp only [Ty.den]); try simp only [natc] at *)
        simp [cntP]
      · intro k hk
        have c1 := cntP_next (r := getR .int L i) hk.1
        have c2 := cntP_in ((getR .int L i).take k.toNat)
        have c3 : ((getR .int L i).take k.toNat).length ≤ 1048576 := by rw [List.length_take]; omega
        have c4 : ¬ k < ((getR .int L i).length : Int) → (getR .int L i).take k.toNat = getR .int L i := fun h => List.take_of_length_le (by omega)
        have c5 := cntP_in (getR .int L i)
        cbv
        ((try simp only [IfP_iff, and_true, true_and, decide_eq_true_eq, decide_eq_false_iff_not]); (try simp only [natc, getI_gi, at2_0, at2_1]); (try dsimp only [Ty.den]); (try simp only [natc] at *); (repeat' (first | apply And.intro | intro _)))
        all_goals (try (simp only [IfP_iff, EqU_iff, Obl_iff, and_true, true_and, inI_iff, decide_eq_true_eq, decide_eq_false_iff_not]; (try simp only [natc, getI_gi, at2_0, at2_1]); (try dsimp only [Ty.den]); try simp only [natc] at *))
        all_goals (try simp only [show getI (.sl .int) L i = getR .int L i from rfl] at *)
        all_goals ((repeat' (first | apply And.intro | intro _)) <;> first | omega | (simp only [List.length_append, List.length_cons, List.length_nil]; omega) | grind)
    · refine EndG.plain [] ?_
      cbv
      (simp only [IfP_iff, EqU_iff, Obl_iff, and_true, true_and, inI_iff, decide_eq_true_eq, decide_eq_false_iff_not]; (try simp only [natc, getI_gi, at2_0, at2_1]); (try dsimp only [Ty.den]); try simp only [natc] at *)
      rw [h91, h92, h93, b4 (by assumption), hf]
      exact ⟨rfl, rfl, rfl, rfl⟩
end Go.Proofs.Ytjfjkfdalmafeaa.M

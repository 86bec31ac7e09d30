/- Whether a Formula is valid: the specification. -/
import Derived.Test.YtcgeedklfejhbaaIfQ
import Derived.Test.YtcgeedklfejhbaaQc
namespace Go.Proofs.Ytcgeedklfejhbaa.M
open Go.RowKit Abs
set_option linter.unusedSimpArgs false
set_option linter.unusedVariables false
set_option maxRecDepth 100000
set_option maxHeartbeats 4000000
theorem sp_lit (n x : Int) (h0 : 0 ≤ n) (h1 : n ≤ 6) : Spec2 Try.prog 84 [.int fun _ => n, .int fun _ => x] [] [.bool fun _ => !decide (x = 0) && (decide (-n ≤ x) && decide (x ≤ n))] [] := by
  refine fnS [] [4] Try.func84 rfl (by decide) rfl (by decide) (by kernel_rfl) rfl (by simp [Try.ntmps84]) ?_
  cbv
  ((try simp only [IfP_iff, and_true, true_and, decide_eq_true_eq, decide_eq_false_iff_not]); (try simp only [natc, getI_gi, at2_0, at2_1]); (try dsimp only [Ty.den]); (try simp only [natc] at *); (repeat' (first | apply And.intro | intro _)))
  all_goals (repeat' (first | ((first | refine call_q (sp_in _ _ _) (by cbv) ?_ | refine call_pure (sp_in _ _ _) (by cbv) ?_); cbv; ((try simp only [IfP_iff, and_true, true_and, decide_eq_true_eq, decide_eq_false_iff_not]); (try simp only [natc, getI_gi, at2_0, at2_1]); (try dsimp only [Ty.den]); (try simp only [natc] at *); (repeat' (first | apply And.intro | intro _))))))
  all_goals (try (simp only [IfP_iff, EqU_iff, Obl_iff, and_true, true_and, inI_iff, decide_eq_true_eq, decide_eq_false_iff_not]; (try simp only [natc, getI_gi, at2_0, at2_1]); (try dsimp only [Ty.den]); try simp only [natc] at *))
  all_goals ((repeat' (first | apply And.intro | intro _)) <;> first | omega | (simp only [List.length_append, List.length_cons, List.length_nil]; omega) | grind)
def litOk (n : Int) (r : List Int) (k : Int) : Bool := (!decide (gi r k = 0) && (decide (-n ≤ gi r k) && decide (gi r k ≤ n))) && (decide (k ≤ 0) || decide (gi r (k - 1) < gi r k))
theorem other_lit {n x : Int} (h0 : 0 ≤ n) : (!otherB n x) = (!decide (x = 0) && (decide (-n ≤ x) && decide (x ≤ n))) := by
  unfold otherB outI varOf
  rw [Bool.not_not, Bool.eq_iff_iff]
  simp only [Bool.and_eq_true, decide_eq_true_eq, Bool.not_eq_true', decide_eq_false_iff_not]
  split <;> omega
theorem clause_lit {n : Int} {r : List Int} (h0 : 0 ≤ n) : allI r.length (litOk n r) = clauseB n r := by
  unfold clauseB
  rw [Bool.eq_iff_iff, Bool.and_eq_true]
  constructor
  · intro h
    refine ⟨allI_good fun k k0 k1 => ?_, ?_⟩
    · have a := allI_get h k0 k1
      unfold litOk at a
      rw [Bool.and_eq_true] at a
      exact a.2
    · rw [Bool.not_eq_true', List.any_eq_false]
      intro x hx
      obtain ⟨j, j0, j1, j2⟩ := mem_at hx
      have a := allI_get h j0 j1
      unfold litOk at a
      rw [Bool.and_eq_true, ← other_lit h0, ← getI_gi, j2] at a
      simpa using a.1
  · rintro ⟨h1, h2⟩
    refine allI_good fun k k0 k1 => ?_
    have a := allI_get h1 k0 k1
    rw [Bool.not_eq_true', List.any_eq_false] at h2
    have b := h2 _ (gi_mem k0 k1)
    unfold litOk
    rw [Bool.and_eq_true, ← other_lit h0]
    exact ⟨by simpa using b, a⟩
theorem any_rows {n : Int} {L : List (List Int)} : (!L.any (badC n)) = allI L.length fun i => clauseB n (getR .int L i) := by
  rw [Bool.eq_iff_iff, Bool.not_eq_true', List.any_eq_false]
  constructor
  · intro h
    refine allI_good fun i i0 i1 => ?_
    have := h _ (getR_mem i0 i1)
    unfold badC at this
    simpa using this
  · intro h r hr
    obtain ⟨j, hj, rfl⟩ := List.mem_iff_getElem.1 hr
    have h2 := (List.getElem?_eq_some_iff.1 (getR_get (t := .int) (l := L) (i := (j : Int)) (by omega) (by omega))).2
    have h3 := allI_get h (k := (j : Int)) (by omega) (by omega)
    simp only [Int.toNat_natCast] at h2
    unfold badC
    rw [h2, h3]
    decide
def clauseI (n : Int) (L : List (List Int)) (i : Int) : Bool := clauseB n (getR .int L i)
theorem sp_good6 (n : Int) (L : List (List Int)) (hL : L.length ≤ 1048576) (hm : ∀ r ∈ L, r.length ≤ 1048576) : Spec2 Try.prog 44 [.cells [.int fun _ => n, .sl (.sl .int) fun _ => L]] [] [.bool fun _ => formOk n L] [] := by
  have h9 : formOk n L = (((decide (0 ≤ n) && decide (n ≤ 6)) && decide ((L.length : Int) ≤ 64)) && allI L.length (clauseI n L)) := by
    unfold formOk
    rw [any_rows]
    rfl
  refine fnS [] [2] Try.func44 rfl (by decide) rfl (by decide) (by kernel_rfl) rfl (by simp [Try.ntmps44]) ?_
  cbv
  repeat' (first | ((first | refine call_q (sp_in _ _ _) (by cbv) ?_ | refine call_pure (sp_in _ _ _) (by cbv) ?_); cbv; ((try simp only [IfP_iff, and_true, true_and, decide_eq_true_eq, decide_eq_false_iff_not]); (try simp only [natc, getI_gi, at2_0, at2_1]); (try dsimp only [Ty.den]); (try simp only [natc] at *); (repeat' (first | apply And.intro | intro _)))))
  all_goals (try (simp only [IfP_iff, EqU_iff, Obl_iff, and_true, true_and, inI_iff, decide_eq_true_eq, decide_eq_false_iff_not]; (try simp only [natc, getI_gi, at2_0, at2_1]); (try dsimp only [Ty.den]); try simp only [natc] at *))
  rotate_right 1
  · have hn : 0 ≤ n ∧ n ≤ 6 := by simpa using (by assumption : (!(decide (0 ≤ n) && decide (n ≤ 6))) = false)
    have hn0 := hn.1
    have hn1 := hn.2
    refine loopP (by kernel_rfl) (fun i : Int => 0 ≤ i ∧ i ≤ L.length ∧ ∀ j : Int, 0 ≤ j → j < i → clauseI n L j = true) (fun i => [(3, .int fun _ => i)]) (fun _ => []) (fun i => (L.length - i).toNat) (· + 1) 0 (by grind) ?_ ?_
    · cbv
      (simp only [IfP_iff, EqU_iff, Obl_iff, and_true, true_and, inI_iff, decide_eq_true_eq, decide_eq_false_iff_not]; (try simp only [natc, getI_gi, at2_0, at2_1]); (try dsimp only [Ty.den]); try simp only [natc] at *)
    · intro i hi
      have h1 := allI_bad (n := L.length) (p := clauseI n L) (k := i)
      have h2 := allI_good (n := L.length) (p := clauseI n L)
      have h3 := upTo (p := clauseI n L) hi.2.2
      have h4 : i < (L.length : Int) → (getR .int L i).length ≤ 1048576 := fun h => hm _ (getR_mem hi.1 h)
      have h5 : clauseI n L i = allI (getR .int L i).length (litOk n (getR .int L i)) := (clause_lit hn0).symm
      clear hm
      cbv
      ((try simp only [IfP_iff, and_true, true_and, decide_eq_true_eq, decide_eq_false_iff_not]); (try simp only [natc, getI_gi, at2_0, at2_1]); (try dsimp only [Ty.den]); (try simp only [natc] at *); (repeat' (first | apply And.intro | intro _)))
      · have h6 := h4 (by assumption)
        refine loopP (by kernel_rfl) (fun k : Int => 0 ≤ k ∧ k ≤ (getR .int L i).length ∧ ∀ j : Int, 0 ≤ j → j < k → litOk n (getR .int L i) j = true) (fun k => [(4, .int fun _ => k)]) (fun _ => []) (fun k => ((getR .int L i).length - k).toNat) (· + 1) 0 (by grind) ?_ ?_
        · cbv
          (simp only [IfP_iff, EqU_iff, Obl_iff, and_true, true_and, inI_iff, decide_eq_true_eq, decide_eq_false_iff_not]; (try simp only [natc, getI_gi, at2_0, at2_1]); (try dsimp only [Ty.den]); try simp only [natc] at *)
        · intro k hk
          have i1 := allI_bad (n := (getR .int L i).length) (p := litOk n (getR .int L i)) (k := k)
          have i2 := allI_good (n := (getR .int L i).length) (p := litOk n (getR .int L i))
          have i3 := upTo (p := litOk n (getR .int L i)) hk.2.2
          have i4 : litOk n (getR .int L i) k = _ := rfl
          conv at i4 => rhs; unfold litOk
          cbv
          ((try simp only [IfP_iff, and_true, true_and, decide_eq_true_eq, decide_eq_false_iff_not]); (try simp only [natc, getI_gi, at2_0, at2_1]); (try dsimp only [Ty.den]); (try simp only [natc] at *); (repeat' (first | apply And.intro | intro _)))
          all_goals (repeat' (first | ((first | refine call_q (sp_lit n (gi (getR .int L i) k) hn0 hn1) (by cbv) ?_ | refine call_pure (sp_lit n (gi (getR .int L i) k) hn0 hn1) (by cbv) ?_); cbv; ((try simp only [IfP_iff, and_true, true_and, decide_eq_true_eq, decide_eq_false_iff_not]); (try simp only [natc, getI_gi, at2_0, at2_1]); (try dsimp only [Ty.den]); (try simp only [natc] at *); (repeat' (first | apply And.intro | intro _))))))
          all_goals (try (simp only [IfP_iff, EqU_iff, Obl_iff, and_true, true_and, inI_iff, decide_eq_true_eq, decide_eq_false_iff_not]; (try simp only [natc, getI_gi, at2_0, at2_1]); (try dsimp only [Ty.den]); try simp only [natc] at *))
          all_goals (try simp only [show getI (.sl .int) L i = getR .int L i from rfl] at *)
          all_goals ((repeat' (first | apply And.intro | intro _)) <;> first | omega | (simp only [List.length_append, List.length_cons, List.length_nil]; omega) | grind)
      all_goals (try (simp only [IfP_iff, EqU_iff, Obl_iff, and_true, true_and, inI_iff, decide_eq_true_eq, decide_eq_false_iff_not]; (try simp only [natc, getI_gi, at2_0, at2_1]); (try dsimp only [Ty.den]); try simp only [natc] at *))
      all_goals ((repeat' (first | apply And.intro | intro _)) <;> first | omega | (simp only [List.length_append, List.length_cons, List.length_nil]; omega) | grind)
  all_goals (try (simp only [IfP_iff, EqU_iff, Obl_iff, and_true, true_and, inI_iff, decide_eq_true_eq, decide_eq_false_iff_not]; (try simp only [natc, getI_gi, at2_0, at2_1]); (try dsimp only [Ty.den]); try simp only [natc] at *))
  all_goals ((repeat' (first | apply And.intro | intro _)) <;> first | omega | (simp only [List.length_append, List.length_cons, List.length_nil]; omega) | grind)
theorem Spec2.agg6 {P : Program} {f : FuncId} {t : Ty} {x : Unit → t.den} {r : List AV} {pre : Hp} {res : List AV} {post : Hp} (h : Spec2 P f (.cells (cellsU t x) :: r) pre res post) : Spec2 P f (.agg t x :: r) pre res post := by
  obtain ⟨h1, h2, h3⟩ := h
  refine ⟨h1, h2, fun w val vs hH hv => h3 w val vs hH ?_⟩
  match vs, hv with
  | v :: vs, hv =>
    simp only [VRelL] at hv ⊢
    refine ⟨?_, hv.2⟩
    have hx := hv.1
    simp only [VRel] at hx ⊢
    obtain ⟨cs, e, hr⟩ := hx
    exact ⟨cs, e, rep_cellsU hr, hr.one⟩
end Go.Proofs.Ytcgeedklfejhbaa.M

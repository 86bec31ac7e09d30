/- Whether a Formula is valid: the specification. -/
import Derived.Test.YtoejmijcikehdaaIfQ
import Derived.Test.YtoejmijcikehdaaQg
namespace Go.Proofs.Ytoejmijcikehdaa.M
open Go.RowKit Abs
set_option linter.unusedSimpArgs false
set_option linter.unusedVariables false
set_option maxRecDepth 100000
set_option maxHeartbeats 4000000
def litOk (n : Int) (r : List Int) (k : Int) : Bool := (!decide (gi r k = 0) && (decide (-n ≤ gi r k) && decide (gi r k ≤ n))) && (decide (k ≤ 0) || decide (gi r (k - 1) < gi r k))
theorem other_lit {n x : Int} (h0 : 0 ≤ n) : (!otherB n x) = (!decide (x = 0) && (decide (-n ≤ x) && decide (x ≤ n))) := by
  unfold otherB outI varOf
  rw [Bool.not_not, Bool.eq_iff_iff]
  simp only [Bool.and_eq_true, decide_eq_true_eq, Bool.not_eq_true', decide_eq_false_iff_not]
  split <;> omega
theorem clause_lit {n : Int} {r : List Int} (h0 : 0 ≤ n) : allI r.length (litOk n r) = clauseB n r := by
  unfold clauseB
  rw [Bool.eq_iff_iff, Bool.and_eq_true]
  constructor
  · intro h
    refine ⟨allI_good fun k k0 k1 => ?_, ?_⟩
    · have a := allI_get h k0 k1
      unfold litOk at a
      rw [Bool.and_eq_true] at a
      exact a.2
    · rw [Bool.not_eq_true', List.any_eq_false]
      intro x hx
      obtain ⟨j, j0, j1, j2⟩ := mem_at hx
      have a := allI_get h j0 j1
      unfold litOk at a
      rw [Bool.and_eq_true, ← other_lit h0, ← getI_gi, j2] at a
      simpa using a.1
  · rintro ⟨h1, h2⟩
    refine allI_good fun k k0 k1 => ?_
    have a := allI_get h1 k0 k1
    rw [Bool.not_eq_true', List.any_eq_false] at h2
    have b := h2 _ (gi_mem k0 k1)
    unfold litOk
    rw [Bool.and_eq_true, ← other_lit h0]
    exact ⟨by simpa using b, a⟩
theorem any_rows {n : Int} {L : List (List Int)} : (!L.any (badC n)) = allI L.length fun i => clauseB n (getR .int L i) := by
  rw [Bool.eq_iff_iff, Bool.not_eq_true', List.any_eq_false]
  constructor
  · intro h
    refine allI_good fun i i0 i1 => ?_
    have := h _ (getR_mem i0 i1)
    unfold badC at this
    simpa using this
  · intro h r hr
    obtain ⟨j, hj, rfl⟩ := List.mem_iff_getElem.1 hr
    have h2 := (List.getElem?_eq_some_iff.1 (getR_get (t := .int) (l := L) (i := (j : Int)) (by omega) (by omega))).2
    have h3 := allI_get h (k := (j : Int)) (by omega) (by omega)
    simp only [Int.toNat_natCast] at h2
    unfold badC
    rw [h2, h3]
    decide
def clauseI (n : Int) (L : List (List Int)) (i : Int) : Bool := clauseB n (getR .int L i)
theorem Spec2.agg6 {P : Program} {f : FuncId} {t : Ty} {x : Unit → t.den} {r : List AV} {pre : Hp} {res : List AV} {post : Hp} (h : Spec2 P f (.cells (cellsU t x) :: r) pre res post) : Spec2 P f (.agg t x :: r) pre res post := by
  obtain ⟨h1, h2, h3⟩ := h
  refine ⟨h1, h2, fun w val vs hH hv => h3 w val vs hH ?_⟩
  match vs, hv with
  | v :: vs, hv =>
    simp only [VRelL] at hv ⊢
    refine ⟨?_, hv.2⟩
    have hx := hv.1
    simp only [VRel] at hx ⊢
    obtain ⟨cs, e, hr⟩ := hx
    exact ⟨cs, e, rep_cellsU hr, hr.one⟩
end Go.Proofs.Ytoejmijcikehdaa.M

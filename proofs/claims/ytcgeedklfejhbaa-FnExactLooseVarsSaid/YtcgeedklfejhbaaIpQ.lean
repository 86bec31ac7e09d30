/- Parities: whether one is valid, on both sides. -/
import Derived.Test.YtcgeedklfejhbaaAsQ
import Derived.Test.YtcgeedklfejhbaaAuQ
import Derived.Test.YtcgeedklfejhbaaLmQ
import Derived.Test.YtcgeedklfejhbaaLvQ
import Derived.Test.YtcgeedklfejhbaaQc
namespace Go.Proofs.Ytcgeedklfejhbaa.M
open Go.RowKit Abs
set_option linter.unusedSimpArgs false
set_option linter.unusedVariables false
set_option maxRecDepth 100000
set_option maxHeartbeats 4000000
abbrev TPa : Ty := .pr .int (.pr (.sl (.sl .int)) (.sl .int))
def badI (n : Int) (r : List Int) : Bool := !ascB n r
def rowI (n : Int) (L : List (List Int)) (i : Int) : Bool := ascB n (getR .int L i)
def parOk (n : Int) (L : List (List Int)) (R : List Int) : Bool := (((decide (0 ≤ n) && decide (n ≤ 6)) && decide ((L.length : Int) ≤ 6)) && decide ((R.length : Int) = L.length)) && (!L.any (badI n) && bitsB R)
theorem any_rowI {n : Int} {L : List (List Int)} : (!L.any (badI n)) = allI L.length (rowI n L) := by
  rw [Bool.eq_iff_iff, Bool.not_eq_true', List.any_eq_false]
  constructor
  · intro h
    refine allI_good fun i i0 i1 => ?_
    have := h _ (getR_mem i0 i1)
    unfold badI at this
    unfold rowI
    simpa using this
  · intro h r hr
    obtain ⟨j, hj, rfl⟩ := List.mem_iff_getElem.1 hr
    have h2 := (List.getElem?_eq_some_iff.1 (getR_get (t := .int) (l := L) (i := (j : Int)) (by omega) (by omega))).2
    have h3 := allI_get h (k := (j : Int)) (by omega) (by omega)
    simp only [Int.toNat_natCast] at h2
    unfold badI
    unfold rowI at h3
    rw [h2, h3]
    decide
theorem im_isParity1 (n : Int) (L : List (List Int)) (R r : List Int) (hr : r.length ≤ 1048576) : Spec2 Try.prog 62 [.sl .int fun _ => r, .ibox [.int fun _ => n, .sl (.sl .int) fun _ => L, .sl .int fun _ => R] 0] [] [.bool fun _ => badI n r] [] := by
  have h9 : badI n r = !ascB n r := rfl
  refine fnS [] [3] Try.func62 rfl (by decide) rfl (by decide) (by kernel_rfl) rfl (by simp [Try.ntmps62]) ?_
  cbv
  repeat' (first | ((first | refine call_q (im_areIndexes r n hr) (by cbv) ?_ | refine call_pure (im_areIndexes r n hr) (by cbv) ?_); cbv; ((try simp only [IfP_iff, and_true, true_and, decide_eq_true_eq, decide_eq_false_iff_not]); (try simp only [natc, getI_gi, at2_0, at2_1]); (try dsimp only [Ty.den]); (try simp only [natc] at *); (repeat' (first | apply And.intro | intro _)))))
  all_goals (try (simp only [IfP_iff, EqU_iff, Obl_iff, and_true, true_and, inI_iff, decide_eq_true_eq, decide_eq_false_iff_not]; (try simp only [natc, getI_gi, at2_0, at2_1]); (try dsimp only [Ty.den]); try simp only [natc] at *))
  all_goals ((repeat' (first | apply And.intro | intro _)) <;> first | omega | (simp only [List.length_append, List.length_cons, List.length_nil]; omega) | grind)
theorem im_isParity (n : Int) (L : List (List Int)) (R : List Int) (hL : L.length ≤ 1048576) (hm : ∀ r ∈ L, r.length ≤ 1048576) (hR : R.length ≤ 1048576) : Spec2 Try.prog 25 [.cells [.int fun _ => n, .sl (.sl .int) fun _ => L, .sl .int fun _ => R]] [] [.bool fun _ => parOk n L R] [] := by
  have h9 : parOk n L R = _ := rfl
  conv at h9 => rhs; unfold parOk
  refine fnS [] [2] Try.func25 rfl (by decide) rfl (by decide) (by kernel_rfl) rfl (by simp [Try.ntmps25]) ?_
  cbv
  repeat' (first | ((first | refine call_q (im_isVars n) (by cbv) ?_ | refine call_pure (im_isVars n) (by cbv) ?_); cbv; ((try simp only [IfP_iff, and_true, true_and, decide_eq_true_eq, decide_eq_false_iff_not]); (try simp only [natc, getI_gi, at2_0, at2_1]); (try dsimp only [Ty.den]); (try simp only [natc] at *); (repeat' (first | apply And.intro | intro _)))))
  all_goals (try (simp only [IfP_iff, EqU_iff, Obl_iff, and_true, true_and, inI_iff, decide_eq_true_eq, decide_eq_false_iff_not]; (try simp only [natc, getI_gi, at2_0, at2_1]); (try dsimp only [Ty.den]); try simp only [natc] at *))
  ((try simp only [IfP_iff, and_true, true_and, decide_eq_true_eq, decide_eq_false_iff_not]); (try simp only [natc, getI_gi, at2_0, at2_1]); (try dsimp only [Ty.den]); (try simp only [natc] at *); (repeat' (first | apply And.intro | intro _)))
  all_goals (repeat' (first | ((first | refine call_q (go_containsFR 62 (fun _ => ofCaps [.ibox [.int fun _ => n, .sl (.sl .int) fun _ => L, .sl .int fun _ => R] 0]) (badI n) L hL fun r hr => ⟨_, rfl, fun _ => rfl, im_isParity1 n L R r (hm r hr)⟩) (by cbv) ?_ | refine call_pure (go_containsFR 62 (fun _ => ofCaps [.ibox [.int fun _ => n, .sl (.sl .int) fun _ => L, .sl .int fun _ => R] 0]) (badI n) L hL fun r hr => ⟨_, rfl, fun _ => rfl, im_isParity1 n L R r (hm r hr)⟩) (by cbv) ?_); cbv; ((try simp only [IfP_iff, and_true, true_and, decide_eq_true_eq, decide_eq_false_iff_not]); (try simp only [natc, getI_gi, at2_0, at2_1]); (try dsimp only [Ty.den]); (try simp only [natc] at *); (repeat' (first | apply And.intro | intro _)))) | ((first | refine call_q (im_areBits R hR) (by cbv) ?_ | refine call_pure (im_areBits R hR) (by cbv) ?_); cbv; ((try simp only [IfP_iff, and_true, true_and, decide_eq_true_eq, decide_eq_false_iff_not]); (try simp only [natc, getI_gi, at2_0, at2_1]); (try dsimp only [Ty.den]); (try simp only [natc] at *); (repeat' (first | apply And.intro | intro _))))))
  all_goals (try clear hm)
  all_goals (try (simp only [IfP_iff, EqU_iff, Obl_iff, and_true, true_and, inI_iff, decide_eq_true_eq, decide_eq_false_iff_not]; (try simp only [natc, getI_gi, at2_0, at2_1]); (try dsimp only [Ty.den]); try simp only [natc] at *))
  all_goals ((repeat' (first | apply And.intro | intro _)) <;> first | omega | (simp only [List.length_append, List.length_cons, List.length_nil]; omega) | grind)
theorem sp_par (n : Int) (L : List (List Int)) (R : List Int) (hL : L.length ≤ 1048576) (hm : ∀ r ∈ L, r.length ≤ 1048576) (hR : R.length ≤ 1048576) (hn : inI (n - 1)) : Spec2 Try.prog 60 [.cells [.int fun _ => n, .sl (.sl .int) fun _ => L, .sl .int fun _ => R]] [] [.bool fun _ => parOk n L R] [] := by
  have h9 : parOk n L R = ((((decide (0 ≤ n) && decide (n ≤ 6)) && decide ((L.length : Int) ≤ 6)) && decide ((R.length : Int) = L.length)) && (allI L.length (rowI n L) && bitsB R)) := by
    unfold parOk
    rw [any_rowI]
  have hn8 := inI_iff.1 hn
  refine fnS [] [2] Try.func60 rfl (by decide) rfl (by decide) (by kernel_rfl) rfl (by simp [Try.ntmps60]) ?_
  cbv
  refine loopP (by kernel_rfl) (fun i : Int => 0 ≤ i ∧ i ≤ L.length ∧ ∀ j : Int, 0 ≤ j → j < i → rowI n L j = true) (fun i => [(3, .int fun _ => i)]) (fun _ => []) (fun i => (L.length - i).toNat) (· + 1) 0 (by grind) ?_ ?_
  · cbv
    (simp only [IfP_iff, EqU_iff, Obl_iff, and_true, true_and, inI_iff, decide_eq_true_eq, decide_eq_false_iff_not]; (try simp only [natc, getI_gi, at2_0, at2_1]); (try dsimp only [Ty.den]); try simp only [natc] at *)
  · intro i hi
    have h1 := allI_bad (n := L.length) (p := rowI n L) (k := i)
    have h2 := allI_good (n := L.length) (p := rowI n L)
    have h3 := upTo (p := rowI n L) hi.2.2
    have h4 : i < (L.length : Int) → (getR .int L i).length ≤ 1048576 := fun h => hm _ (getR_mem hi.1 h)
    have h5 : rowI n L i = riseB (getR .int L i) 0 (n - 1) := (rise_asc n _).symm
    clear hm
    cbv
    ((try simp only [IfP_iff, and_true, true_and, decide_eq_true_eq, decide_eq_false_iff_not]); (try simp only [natc, getI_gi, at2_0, at2_1]); (try dsimp only [Ty.den]); (try simp only [natc] at *); (repeat' (first | apply And.intro | intro _)))
    all_goals (repeat' (first | ((first | refine call_q (sp_rising (getR .int L i) 0 (n - 1) (h4 (by assumption))) (by cbv) ?_ | refine call_pure (sp_rising (getR .int L i) 0 (n - 1) (h4 (by assumption))) (by cbv) ?_); cbv; ((try simp only [IfP_iff, and_true, true_and, decide_eq_true_eq, decide_eq_false_iff_not]); (try simp only [natc, getI_gi, at2_0, at2_1]); (try dsimp only [Ty.den]); (try simp only [natc] at *); (repeat' (first | apply And.intro | intro _)))) | ((first | refine call_q (sp_in _ _ _) (by cbv) ?_ | refine call_pure (sp_in _ _ _) (by cbv) ?_); cbv; ((try simp only [IfP_iff, and_true, true_and, decide_eq_true_eq, decide_eq_false_iff_not]); (try simp only [natc, getI_gi, at2_0, at2_1]); (try dsimp only [Ty.den]); (try simp only [natc] at *); (repeat' (first | apply And.intro | intro _)))) | ((first | refine call_q (sp_bits L.length R hR) (by cbv) ?_ | refine call_pure (sp_bits L.length R hR) (by cbv) ?_); cbv; ((try simp only [IfP_iff, and_true, true_and, decide_eq_true_eq, decide_eq_false_iff_not]); (try simp only [natc, getI_gi, at2_0, at2_1]); (try dsimp only [Ty.den]); (try simp only [natc] at *); (repeat' (first | apply And.intro | intro _))))))
    all_goals (try (simp only [IfP_iff, EqU_iff, Obl_iff, and_true, true_and, inI_iff, decide_eq_true_eq, decide_eq_false_iff_not]; (try simp only [natc, getI_gi, at2_0, at2_1]); (try dsimp only [Ty.den]); try simp only [natc] at *))
    all_goals ((repeat' (first | apply And.intro | intro _)) <;> first | omega | assumption | grind)
theorem sp_parW (n : Int) (L : List (List Int)) (hL : L.length ≤ 1048576) (hm : ∀ r ∈ L, r.length ≤ 1048576) (hn : n < 0) : Spec2 Try.prog 60 [.cells [.int fun _ => n, .sl (.sl .int) fun _ => L, .junk]] [] [.bool fun _ => false] [] := by
  refine fnS [] [2] Try.func60 rfl (by decide) rfl (by decide) (by kernel_rfl) rfl (by simp [Try.ntmps60]) ?_
  cbv
  refine loopP (by kernel_rfl) (fun i : Int => 0 ≤ i ∧ i ≤ L.length) (fun i => [(3, .int fun _ => i)]) (fun _ => []) (fun i => (L.length - i).toNat) (· + 1) 0 (by grind) ?_ ?_
  · cbv
    (simp only [IfP_iff, EqU_iff, Obl_iff, and_true, true_and, inI_iff, decide_eq_true_eq, decide_eq_false_iff_not]; (try simp only [natc, getI_gi, at2_0, at2_1]); (try dsimp only [Ty.den]); try simp only [natc] at *)
  · intro i hi
    have h4 : i < (L.length : Int) → (getR .int L i).length ≤ 1048576 := fun h => hm _ (getR_mem hi.1 h)
    clear hm
    cbv
    ((try simp only [IfP_iff, and_true, true_and, decide_eq_true_eq, decide_eq_false_iff_not]); (try simp only [natc, getI_gi, at2_0, at2_1]); (try dsimp only [Ty.den]); (try simp only [natc] at *); (repeat' (first | apply And.intro | intro _)))
    all_goals (repeat' (first | ((first | refine call_q (sp_rising (getR .int L i) 0 _ (h4 (by assumption))) (by cbv) ?_ | refine call_pure (sp_rising (getR .int L i) 0 _ (h4 (by assumption))) (by cbv) ?_); cbv; ((try simp only [IfP_iff, and_true, true_and, decide_eq_true_eq, decide_eq_false_iff_not]); (try simp only [natc, getI_gi, at2_0, at2_1]); (try dsimp only [Ty.den]); (try simp only [natc] at *); (repeat' (first | apply And.intro | intro _)))) | ((first | refine call_q (sp_in _ _ _) (by cbv) ?_ | refine call_pure (sp_in _ _ _) (by cbv) ?_); cbv; ((try simp only [IfP_iff, and_true, true_and, decide_eq_true_eq, decide_eq_false_iff_not]); (try simp only [natc, getI_gi, at2_0, at2_1]); (try dsimp only [Ty.den]); (try simp only [natc] at *); (repeat' (first | apply And.intro | intro _))))))
    all_goals (try (simp only [IfP_iff, EqU_iff, Obl_iff, and_true, true_and, inI_iff, decide_eq_true_eq, decide_eq_false_iff_not]; (try simp only [natc, getI_gi, at2_0, at2_1]); (try dsimp only [Ty.den]); try simp only [natc] at *))
    all_goals ((repeat' (first | apply And.intro | intro _)) <;> first | omega | assumption | grind)
theorem Spec2.aggJ {P : Program} {f : FuncId} {n : Int} {L : List (List Int)} {R : List Int} {r : List AV} {pre : Hp} {res : List AV} {post : Hp} (h : Spec2 P f (.cells [.int fun _ => n, .sl (.sl .int) fun _ => L, .junk] :: r) pre res post) : Spec2 P f (.agg TPa (fun _ => (n, L, R)) :: r) pre res post := by
  obtain ⟨h1, h2, h3⟩ := h
  refine ⟨h1, h2, fun w val vs hH hv => h3 w val vs hH ?_⟩
  match vs, hv with
  | v :: vs, hv =>
    simp only [VRelL] at hv ⊢
    refine ⟨?_, hv.2⟩
    have hx := hv.1
    simp only [VRel] at hx ⊢
    obtain ⟨cs, e, hr⟩ := hx
    have hc : VRelL (okF pre val) w (List.length pre) val (cellsU TPa fun _ => (n, L, R)) cs := rep_cellsU hr
    refine ⟨cs, e, ?_, hr.one⟩
    match cs, hc with
    | [a, b, c], hc =>
      simp only [cellsU, List.cons_append, List.nil_append, VRelL, and_true] at hc ⊢
      exact ⟨hc.1, hc.2.1, by simp only [VRel]⟩
theorem sp_isPar (n : Int) (L : List (List Int)) (R : List Int) (hL : L.length ≤ 1048576) (hm : ∀ r ∈ L, r.length ≤ 1048576) (hR : R.length ≤ 1048576) (hx : inI n) : Spec2 Try.prog 60 [.agg TPa fun _ => (n, L, R)] [] [.bool fun _ => parOk n L R] [] := by
  have h8 := inI_iff.1 hx
  by_cases hn : n < 0
  · have h9 : parOk n L R = false := by
      unfold parOk
      rw [show decide (0 ≤ n) = false by rw [decide_eq_false_iff_not]; omega]
      rfl
    rw [h9]
    exact Spec2.aggJ (sp_parW n L hL hm hn)
  · exact Spec2.agg6 (t := TPa) (x := fun _ => (n, L, R)) (sp_par n L R hL hm hR (inI_iff.2 (by omega)))
theorem sp_isParity (n : Int) (L : List (List Int)) (R : List Int) (hL : L.length ≤ 1048576) (hm : ∀ r ∈ L, r.length ≤ 1048576) (hR : R.length ≤ 1048576) (hx : inI n) : Spec2 Try.prog 23 [.agg TPa fun _ => (n, L, R)] [] [.bool fun _ => parOk n L R] [] := by
  refine fnS [] [2] Try.func23 rfl (by decide) rfl (by decide) (by kernel_rfl) rfl (by simp [Try.ntmps23]) ?_
  cbv
  repeat' (first | ((first | refine call_q (sp_isPar n L R hL hm hR hx) (by cbv) ?_ | refine call_pure (sp_isPar n L R hL hm hR hx) (by cbv) ?_); cbv; ((try simp only [IfP_iff, and_true, true_and, decide_eq_true_eq, decide_eq_false_iff_not]); (try simp only [natc, getI_gi, at2_0, at2_1]); (try dsimp only [Ty.den]); (try simp only [natc] at *); (repeat' (first | apply And.intro | intro _)))))
  all_goals (try (simp only [IfP_iff, EqU_iff, Obl_iff, and_true, true_and, inI_iff, decide_eq_true_eq, decide_eq_false_iff_not]; (try simp only [natc, getI_gi, at2_0, at2_1]); (try dsimp only [Ty.den]); try simp only [natc] at *))
end Go.Proofs.Ytcgeedklfejhbaa.M

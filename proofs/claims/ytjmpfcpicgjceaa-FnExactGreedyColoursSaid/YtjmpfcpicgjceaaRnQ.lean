/- Renamed colours, on both sides. -/
import Derived.Test.YtjmpfcpicgjceaaPjQ
import Derived.Test.YtjmpfcpicgjceaaHsQ
import Derived.Test.YtjmpfcpicgjceaaQc
namespace Go.Proofs.Ytjmpfcpicgjceaa.M
open Go.RowKit Abs
set_option linter.unusedSimpArgs false
set_option linter.unusedVariables false
set_option maxRecDepth 100000
set_option maxHeartbeats 4000000
def eachB (l : List Int) (n : Int) : Bool := decide ((l.length : Int) = n) && allI n.toNat (hasB l)
theorem im_eachOnce (l : List Int) (n : Int) (hl : l.length ≤ 1048576) : Spec2 Try.prog 56 [.sl .int fun _ => l, .int fun _ => n] [] [.bool fun _ => eachB l n] [] := by
  have h9 : eachB l n = _ := rfl
  conv at h9 => rhs; unfold eachB
  refine fnS [] [4] Try.func56 rfl (by decide) rfl (by decide) (by kernel_rfl) rfl (by simp [Try.ntmps56]) ?_
  cbv
  ((try simp only [IfP_iff, and_true, true_and, decide_eq_true_eq, decide_eq_false_iff_not]); (try simp only [natc, getI_gi, at2_0, at2_1]); (try dsimp only [Ty.den]); (try simp only [natc] at *); (repeat' (first | apply And.intro | intro _)))
  · (simp only [IfP_iff, EqU_iff, Obl_iff, and_true, true_and, inI_iff, decide_eq_true_eq, decide_eq_false_iff_not]; (try simp only [natc, getI_gi, at2_0, at2_1]); (try dsimp only [Ty.den]); try simp only [natc] at *)
    grind
  · have hln : (l.length : Int) = n := by simpa using (by assumption : (!decide ((l.length : Int) = n)) = false)
    refine loopP (by kernel_rfl) (fun k : Int => 0 ≤ k ∧ k ≤ n ∧ ∀ j : Int, 0 ≤ j → j < k → hasB l j = true) (fun k => [(11, .int fun _ => k)]) (fun _ => []) (fun k => (n - k).toNat) (· + 1) 0 (by grind) ?_ ?_
    · cbv
      (simp only [IfP_iff, EqU_iff, Obl_iff, and_true, true_and, inI_iff, decide_eq_true_eq, decide_eq_false_iff_not]; (try simp only [natc, getI_gi, at2_0, at2_1]); (try dsimp only [Ty.den]); try simp only [natc] at *)
    · intro k hk
      have h1 := allI_bad (n := n.toNat) (p := hasB l) (k := k)
      have h2 := allI_good (n := n.toNat) (p := hasB l)
      have h3 := upTo (p := hasB l) hk.2.2
      have h4 : ((n.toNat : Nat) : Int) = n := by omega
      cbv
      ((try simp only [IfP_iff, and_true, true_and, decide_eq_true_eq, decide_eq_false_iff_not]); (try simp only [natc, getI_gi, at2_0, at2_1]); (try dsimp only [Ty.den]); (try simp only [natc] at *); (repeat' (first | apply And.intro | intro _)))
      all_goals (repeat' (first | ((first | refine call_q (go_contains l _ hl) (by cbv) ?_ | refine call_pure (go_contains l _ hl) (by cbv) ?_); cbv; ((try simp only [IfP_iff, and_true, true_and, decide_eq_true_eq, decide_eq_false_iff_not]); (try simp only [natc, getI_gi, at2_0, at2_1]); (try dsimp only [Ty.den]); (try simp only [natc] at *); (repeat' (first | apply And.intro | intro _))))))
      all_goals (try (simp only [IfP_iff, EqU_iff, Obl_iff, and_true, true_and, inI_iff, decide_eq_true_eq, decide_eq_false_iff_not]; (try simp only [natc, getI_gi, at2_0, at2_1]); (try dsimp only [Ty.den]); try simp only [natc] at *))
      all_goals ((repeat' (first | apply And.intro | intro _)) <;> first | omega | (simp only [List.length_append, List.length_cons, List.length_nil]; omega) | grind)
def rnmOk (n : Int) (l : List (Int × Int)) (k : Int) (cs to : List Int) : Bool := (palB n l k && properB n k l cs) && eachB to k
def rnmR (n : Int) (l : List (Int × Int)) (k : Int) (cs to : List Int) : List Int := if rnmOk n l k cs to = true then cs.map (gi to) else []
theorem rnm_len {n : Int} {l : List (Int × Int)} {k : Int} {cs to : List Int} (hc : cs.length ≤ 1048576) : (rnmR n l k cs to).length ≤ 1048576 := by
  unfold rnmR
  split
  · rw [List.length_map]; exact hc
  · simp
theorem rnm_in {n : Int} {l : List (Int × Int)} {k : Int} {cs to : List Int} (h : rnmOk n l k cs to = true) : (to.length : Int) = k ∧ ∀ i : Int, 0 ≤ i → i < cs.length → 0 ≤ gi cs i ∧ gi cs i < to.length := by
  unfold rnmOk at h
  simp only [Bool.and_eq_true] at h
  obtain ⟨⟨_, h2⟩, h3⟩ := h
  unfold eachB at h3
  unfold properB at h2
  simp only [Bool.and_eq_true, decide_eq_true_eq] at h2 h3
  refine ⟨h3.1, fun i i0 i1 => ?_⟩
  have := allI_get h2.2.1 i0 i1
  unfold rangeB at this
  simp only [Bool.and_eq_true, decide_eq_true_eq] at this
  omega
theorem map_next {s : List Int} {f : Int → Int} {k : Int} (h0 : 0 ≤ k) (h1 : k < (s.length : Int)) : (s.take (k + 1).toNat).map f = (s.take k.toNat).map f ++ [f (gi s k)] := by
  rw [take_gi h0 h1, List.map_append]
  rfl
theorem im_rename (n : Int) (l : List (Int × Int)) (k : Int) (cs to : List Int) (hl : l.length ≤ 1048576) (hc : cs.length ≤ 1048576) (ht : to.length ≤ 1048576) : Spec2 Try.prog 19 [.agg (.pr .int (.sl (.pr .int .int))) fun _ => (n, l), .int fun _ => k, .sl .int fun _ => cs, .sl .int fun _ => to] [] [.ref 0, .bool fun _ => rnmOk n l k cs to] [some (.row 3 .int fun _ => rnmR n l k cs to)] := by
  have h9 : rnmOk n l k cs to = _ := rfl
  conv at h9 => rhs; unfold rnmOk
  have h2 : rnmR n l k cs to = _ := rfl
  conv at h2 => rhs; unfold rnmR
  by_cases hb : rnmOk n l k cs to = true
  case neg =>
    have hb2 : rnmR n l k cs to = [] := by rw [h2, if_neg hb]
    refine fnS [1] [8, 9] Try.func19 rfl (by decide) rfl (by decide) (by kernel_rfl) rfl (by simp [Try.ntmps19]) ?_
    cbv
    ((try simp only [IfP_iff, and_true, true_and, decide_eq_true_eq, decide_eq_false_iff_not]); (try simp only [natc, getI_gi, at2_0, at2_1]); (try dsimp only [Ty.den]); (try simp only [natc] at *); (repeat' (first | apply And.intro | intro _)))
    all_goals (repeat' (first | ((first | refine call_q (im_isCol n k l cs hl hc) (by cbv) ?_ | refine call_pure (im_isCol n k l cs hl hc) (by cbv) ?_); cbv; ((try simp only [IfP_iff, and_true, true_and, decide_eq_true_eq, decide_eq_false_iff_not]); (try simp only [natc, getI_gi, at2_0, at2_1]); (try dsimp only [Ty.den]); (try simp only [natc] at *); (repeat' (first | apply And.intro | intro _)))) | ((first | refine call_q (im_eachOnce to k ht) (by cbv) ?_ | refine call_pure (im_eachOnce to k ht) (by cbv) ?_); cbv; ((try simp only [IfP_iff, and_true, true_and, decide_eq_true_eq, decide_eq_false_iff_not]); (try simp only [natc, getI_gi, at2_0, at2_1]); (try dsimp only [Ty.den]); (try simp only [natc] at *); (repeat' (first | apply And.intro | intro _))))))
    all_goals (try (exfalso; grind))
    all_goals (try (simp only [IfP_iff, EqU_iff, Obl_iff, and_true, true_and, inI_iff, decide_eq_true_eq, decide_eq_false_iff_not]; (try simp only [natc, getI_gi, at2_0, at2_1]); (try dsimp only [Ty.den]); try simp only [natc] at *))
    all_goals ((repeat' (first | apply And.intro | intro _)) <;> first | omega | (simp only [List.length_append, List.length_cons, List.length_nil]; omega) | grind)
  obtain ⟨g1, g2⟩ := rnm_in hb
  have hb2 : rnmR n l k cs to = cs.map (gi to) := by rw [h2, if_pos hb]
  rw [hb2, hb]
  refine fnS [1] [8, 9] Try.func19 rfl (by decide) rfl (by decide) (by kernel_rfl) rfl (by simp [Try.ntmps19]) ?_
  cbv
  ((try simp only [IfP_iff, and_true, true_and, decide_eq_true_eq, decide_eq_false_iff_not]); (try simp only [natc, getI_gi, at2_0, at2_1]); (try dsimp only [Ty.den]); (try simp only [natc] at *); (repeat' (first | apply And.intro | intro _)))
  all_goals (repeat' (first | ((first | refine call_q (im_isCol n k l cs hl hc) (by cbv) ?_ | refine call_pure (im_isCol n k l cs hl hc) (by cbv) ?_); cbv; ((try simp only [IfP_iff, and_true, true_and, decide_eq_true_eq, decide_eq_false_iff_not]); (try simp only [natc, getI_gi, at2_0, at2_1]); (try dsimp only [Ty.den]); (try simp only [natc] at *); (repeat' (first | apply And.intro | intro _)))) | ((first | refine call_q (im_eachOnce to k ht) (by cbv) ?_ | refine call_pure (im_eachOnce to k ht) (by cbv) ?_); cbv; ((try simp only [IfP_iff, and_true, true_and, decide_eq_true_eq, decide_eq_false_iff_not]); (try simp only [natc, getI_gi, at2_0, at2_1]); (try dsimp only [Ty.den]); (try simp only [natc] at *); (repeat' (first | apply And.intro | intro _))))))
  rotate_right 1
  · refine loopP (by kernel_rfl) (fun i : Int => 0 ≤ i ∧ i ≤ cs.length) (fun i => [(34, .int fun _ => i), (12, .ref 1), (31, .junk)]) (fun i => [(1, some (.row 3 .int fun _ => (cs.take i.toNat).map (gi to)))]) (fun i => (cs.length - i).toNat) (· + 1) 0 (by omega) ?_ ?_
    · cbv
      (simp only [IfP_iff, EqU_iff, Obl_iff, and_true, true_and, inI_iff, decide_eq_true_eq, decide_eq_false_iff_not]; (try simp only [natc, getI_gi, at2_0, at2_1]); (try dsimp only [Ty.den]); try simp only [natc] at *)
      simp
    · intro i hi
      have i1 := map_next (s := cs) (f := gi to) (k := i) hi.1
      have i2 := g2 i hi.1
      have i3 : ((cs.take i.toNat).map (gi to)).length ≤ 1048576 := by rw [List.length_map, List.length_take]; omega
      have i4 : ¬ i < (cs.length : Int) → cs.take i.toNat = cs := fun h => List.take_of_length_le (by omega)
      clear g2
      cbv
      ((try simp only [IfP_iff, and_true, true_and, decide_eq_true_eq, decide_eq_false_iff_not]); (try simp only [natc, getI_gi, at2_0, at2_1]); (try dsimp only [Ty.den]); (try simp only [natc] at *); (repeat' (first | apply And.intro | intro _)))
      all_goals (try (simp only [IfP_iff, EqU_iff, Obl_iff, and_true, true_and, inI_iff, decide_eq_true_eq, decide_eq_false_iff_not]; (try simp only [natc, getI_gi, at2_0, at2_1]); (try dsimp only [Ty.den]); try simp only [natc] at *))
      all_goals ((repeat' (first | apply And.intro | intro _)) <;> first | omega | (simp only [List.length_append, List.length_cons, List.length_nil]; omega) | grind)
  all_goals (exfalso; rw [hb] at h9; simp_all)
theorem sp_rgiven (n : Int) (l : List (Int × Int)) (k : Int) (cs : List Int) (hl : l.length ≤ 1048576) (hc : cs.length ≤ 1048576) : Spec2 Try.prog 52 [.agg (.pr .int (.sl (.pr .int .int))) fun _ => (n, l), .int fun _ => k, .sl .int fun _ => cs] [] [.bool fun _ => palB n l k && properB n k l cs] [] := by
  refine fnS [] [6] Try.func52 rfl (by decide) rfl (by decide) (by kernel_rfl) rfl (by simp [Try.ntmps52]) ?_
  cbv
  repeat' (first | ((first | refine call_q (sp_ask n k l hl) (by cbv) ?_ | refine call_pure (sp_ask n k l hl) (by cbv) ?_); cbv; ((try simp only [IfP_iff, and_true, true_and, decide_eq_true_eq, decide_eq_false_iff_not]); (try simp only [natc, getI_gi, at2_0, at2_1]); (try dsimp only [Ty.den]); (try simp only [natc] at *); (repeat' (first | apply And.intro | intro _)))))
  all_goals (try (simp only [IfP_iff, EqU_iff, Obl_iff, and_true, true_and, inI_iff, decide_eq_true_eq, decide_eq_false_iff_not]; (try simp only [natc, getI_gi, at2_0, at2_1]); (try dsimp only [Ty.den]); try simp only [natc] at *))
  ((try simp only [IfP_iff, and_true, true_and, decide_eq_true_eq, decide_eq_false_iff_not]); (try simp only [natc, getI_gi, at2_0, at2_1]); (try dsimp only [Ty.den]); (try simp only [natc] at *); (repeat' (first | apply And.intro | intro _)))
  all_goals (repeat' (first | ((first | refine call_q (sp_proper n k l cs hl hc (by grind)) (by cbv) ?_ | refine call_pure (sp_proper n k l cs hl hc (by grind)) (by cbv) ?_); cbv; ((try simp only [IfP_iff, and_true, true_and, decide_eq_true_eq, decide_eq_false_iff_not]); (try simp only [natc, getI_gi, at2_0, at2_1]); (try dsimp only [Ty.den]); (try simp only [natc] at *); (repeat' (first | apply And.intro | intro _))))))
  all_goals (try (simp only [IfP_iff, EqU_iff, Obl_iff, and_true, true_and, inI_iff, decide_eq_true_eq, decide_eq_false_iff_not]; (try simp only [natc, getI_gi, at2_0, at2_1]); (try dsimp only [Ty.den]); try simp only [natc] at *))
  all_goals ((repeat' (first | apply And.intro | intro _)) <;> first | omega | (simp only [List.length_append, List.length_cons, List.length_nil]; omega) | grind)
theorem sp_rename (n : Int) (l : List (Int × Int)) (k : Int) (cs to : List Int) (hl : l.length ≤ 1048576) (hc : cs.length ≤ 1048576) (ht : to.length ≤ 1048576) : Spec2 Try.prog 16 [.agg (.pr .int (.sl (.pr .int .int))) fun _ => (n, l), .int fun _ => k, .sl .int fun _ => cs, .sl .int fun _ => to] [] [.ref 0, .bool fun _ => rnmOk n l k cs to] [some (.row 3 .int fun _ => rnmR n l k cs to)] := by
  have h9 : rnmOk n l k cs to = _ := rfl
  conv at h9 => rhs; unfold rnmOk
  have h2 : rnmR n l k cs to = _ := rfl
  conv at h2 => rhs; unfold rnmR
  have h8 : eachB to k = _ := rfl
  conv at h8 => rhs; unfold eachB
  refine fnS [1] [8, 9] Try.func16 rfl (by decide) rfl (by decide) (by kernel_rfl) rfl (by simp [Try.ntmps16]) ?_
  cbv
  ((try simp only [IfP_iff, and_true, true_and, decide_eq_true_eq, decide_eq_false_iff_not]); (try simp only [natc, getI_gi, at2_0, at2_1]); (try dsimp only [Ty.den]); (try simp only [natc] at *); (repeat' (first | apply And.intro | intro _)))
  all_goals (repeat' (first | ((first | refine call_q (sp_rgiven n l k cs hl hc) (by cbv) ?_ | refine call_pure (sp_rgiven n l k cs hl hc) (by cbv) ?_); cbv; ((try simp only [IfP_iff, and_true, true_and, decide_eq_true_eq, decide_eq_false_iff_not]); (try simp only [natc, getI_gi, at2_0, at2_1]); (try dsimp only [Ty.den]); (try simp only [natc] at *); (repeat' (first | apply And.intro | intro _))))))
  rotate_right 1
  · refine loopP (by kernel_rfl) (fun i : Int => 0 ≤ i ∧ (i ≤ k ∨ i = 0) ∧ ∀ j : Int, 0 ≤ j → j < i → hasB to j = true) (fun i => [(11, .int fun _ => i)]) (fun _ => []) (fun i => (k - i).toNat) (· + 1) 0 (by grind) ?_ ?_
    · cbv
      (simp only [IfP_iff, EqU_iff, Obl_iff, and_true, true_and, inI_iff, decide_eq_true_eq, decide_eq_false_iff_not]; (try simp only [natc, getI_gi, at2_0, at2_1]); (try dsimp only [Ty.den]); try simp only [natc] at *)
    · intro i hi
      have j1 := allI_bad (n := k.toNat) (p := hasB to) (k := i)
      have j2 := allI_good (n := k.toNat) (p := hasB to)
      have j3 := upTo (p := hasB to) hi.2.2
      cbv
      ((try simp only [IfP_iff, and_true, true_and, decide_eq_true_eq, decide_eq_false_iff_not]); (try simp only [natc, getI_gi, at2_0, at2_1]); (try dsimp only [Ty.den]); (try simp only [natc] at *); (repeat' (first | apply And.intro | intro _)))
      · ((first | refine call_q (sp_has to i ht) (by cbv) ?_ | refine call_pure (sp_has to i ht) (by cbv) ?_); cbv; ((try simp only [IfP_iff, and_true, true_and, decide_eq_true_eq, decide_eq_false_iff_not]); (try simp only [natc, getI_gi, at2_0, at2_1]); (try dsimp only [Ty.den]); (try simp only [natc] at *); (repeat' (first | apply And.intro | intro _))))
        all_goals (try (simp only [IfP_iff, EqU_iff, Obl_iff, and_true, true_and, inI_iff, decide_eq_true_eq, decide_eq_false_iff_not]; (try simp only [natc, getI_gi, at2_0, at2_1]); (try dsimp only [Ty.den]); try simp only [natc] at *))
        all_goals ((repeat' (first | apply And.intro | intro _)) <;> first | omega | (simp only [List.length_append, List.length_cons, List.length_nil]; omega) | grind)
      · have hb : rnmOk n l k cs to = true := by
          have hz : (to.length : Int) = k := by grind
          have : allI k.toNat (hasB to) = true := j2 fun j a b => hi.2.2 j a (by omega)
          rw [h9, h8, this]
          grind
        obtain ⟨g1, g2⟩ := rnm_in hb
        have hb2 : rnmR n l k cs to = cs.map (gi to) := by rw [h2, if_pos hb]
        rw [hb2, hb]
        refine loopP (by kernel_rfl) (fun i : Int => 0 ≤ i ∧ i ≤ cs.length) (fun i => [(12, .int fun _ => i), (10, .ref 1), (13, .junk)]) (fun i => [(1, some (.row 3 .int fun _ => (cs.take i.toNat).map (gi to)))]) (fun i => (cs.length - i).toNat) (· + 1) 0 (by omega) ?_ ?_
        · cbv
          (simp only [IfP_iff, EqU_iff, Obl_iff, and_true, true_and, inI_iff, decide_eq_true_eq, decide_eq_false_iff_not]; (try simp only [natc, getI_gi, at2_0, at2_1]); (try dsimp only [Ty.den]); try simp only [natc] at *)
          simp
        · intro i hi
          have i1 := map_next (s := cs) (f := gi to) (k := i) hi.1
          have i2 := g2 i hi.1
          have i3 : ((cs.take i.toNat).map (gi to)).length ≤ 1048576 := by rw [List.length_map, List.length_take]; omega
          have i4 : ¬ i < (cs.length : Int) → cs.take i.toNat = cs := fun h => List.take_of_length_le (by omega)
          clear g2
          cbv
          ((try simp only [IfP_iff, and_true, true_and, decide_eq_true_eq, decide_eq_false_iff_not]); (try simp only [natc, getI_gi, at2_0, at2_1]); (try dsimp only [Ty.den]); (try simp only [natc] at *); (repeat' (first | apply And.intro | intro _)))
          all_goals (try (simp only [IfP_iff, EqU_iff, Obl_iff, and_true, true_and, inI_iff, decide_eq_true_eq, decide_eq_false_iff_not]; (try simp only [natc, getI_gi, at2_0, at2_1]); (try dsimp only [Ty.den]); try simp only [natc] at *))
          all_goals ((repeat' (first | apply And.intro | intro _)) <;> first | omega | (simp only [List.length_append, List.length_cons, List.length_nil]; omega) | grind)
  all_goals (try (simp only [IfP_iff, EqU_iff, Obl_iff, and_true, true_and, inI_iff, decide_eq_true_eq, decide_eq_false_iff_not]; (try simp only [natc, getI_gi, at2_0, at2_1]); (try dsimp only [Ty.den]); try simp only [natc] at *))
  all_goals ((repeat' (first | apply And.intro | intro _)) <;> first | omega | (simp only [List.length_append, List.length_cons, List.length_nil]; omega) | grind)
end Go.Proofs.Ytjmpfcpicgjceaa.M

/- Negated variables of a Formula: the specification. -/
import Derived.Test.YtcgeedklfejhbaaNfQ
import Derived.Test.YtcgeedklfejhbaaAuQ
import Derived.Test.YtcgeedklfejhbaaHsQ
import Derived.Test.YtcgeedklfejhbaaLpQ
import Derived.Test.YtcgeedklfejhbaaQc
namespace Go.Proofs.Ytcgeedklfejhbaa.M
open Go.RowKit Abs
set_option linter.unusedSimpArgs false
set_option linter.unusedVariables false
set_option maxRecDepth 100000
set_option maxHeartbeats 4000000
def mxN (a b : Int) : Int := if b < a then a else b
theorem sp_mxN (a b : Int) : Spec2 Try.prog 47 [.int fun _ => a, .int fun _ => b] [] [.int fun _ => mxN a b] [] := by
  have h9 : mxN a b = if b < a then a else b := rfl
  refine fnS [] [4] Try.func47 rfl (by decide) rfl (by decide) (by kernel_rfl) rfl (by simp [Try.ntmps47]) ?_
  cbv
  ((try simp only [IfP_iff, and_true, true_and, decide_eq_true_eq, decide_eq_false_iff_not]); (try simp only [natc, getI_gi, at2_0, at2_1]); (try dsimp only [Ty.den]); (try simp only [natc] at *); (repeat' (first | apply And.intro | intro _)))
  all_goals (try (simp only [IfP_iff, EqU_iff, Obl_iff, and_true, true_and, inI_iff, decide_eq_true_eq, decide_eq_false_iff_not]; (try simp only [natc, getI_gi, at2_0, at2_1]); (try dsimp only [Ty.den]); try simp only [natc] at *))
  all_goals ((repeat' (first | apply And.intro | intro _)) <;> first | omega | (simp only [List.length_append, List.length_cons, List.length_nil]; omega) | grind)
theorem mx_var {x : Int} (h : x ≠ 0) : mxN x (0 - x) - 1 = varOf x := by
  unfold mxN varOf
  split <;> split <;> omega
theorem sp_neg_bad (n : Int) (L : List (List Int)) (V : List Int) (hL : L.length ≤ 1048576) (hm : ∀ r ∈ L, r.length ≤ 1048576) (hV : V.length ≤ 1048576) (hb : negOk n L V = false) : Spec2 Try.prog 13 [.agg (.pr .int (.sl (.sl .int))) fun _ => (n, L), .sl .int fun _ => V] [] [.cells [.int fun _ => 0, .ref 0], .bool fun _ => false] [some (.rows 25 3 .int fun _ => [])] := by
  have h9 : negOk n L V = (formOk n L && ascB n V) := rfl
  have h8 := rise_asc n V
  have h7 : formOk n L = true → 0 ≤ n ∧ n ≤ 6 := fun h => ⟨(form_lits h).1, (form_lits h).2.1⟩
  rw [hb] at h9
  refine fnG [.cst 4 2 27, .tmp 5] Try.func13 rfl (by decide) rfl (by kernel_rfl) (.inr (.inl rfl)) (by kernel_rfl) (Nat.zero_le _) (by simp [Try.ntmps13]) ?_
  cbv
  ((try simp only [IfP_iff, and_true, true_and, decide_eq_true_eq, decide_eq_false_iff_not]); (try simp only [natc, getI_gi, at2_0, at2_1]); (try dsimp only [Ty.den]); (try simp only [natc] at *); (repeat' (first | apply And.intro | intro _)))
  all_goals (repeat' (first | ((first | refine call_q (Spec2.agg6 (t := (.pr .int (.sl (.sl .int)))) (x := fun _ => (n, L)) (sp_good6 n L hL hm)) (by cbv) ?_ | refine call_pure (Spec2.agg6 (t := (.pr .int (.sl (.sl .int)))) (x := fun _ => (n, L)) (sp_good6 n L hL hm)) (by cbv) ?_); cbv; ((try simp only [IfP_iff, and_true, true_and, decide_eq_true_eq, decide_eq_false_iff_not]); (try simp only [natc, getI_gi, at2_0, at2_1]); (try dsimp only [Ty.den]); (try simp only [natc] at *); (repeat' (first | apply And.intro | intro _)))) | ((first | refine call_q (sp_rising V 0 (n - 1) hV) (by cbv) ?_ | refine call_pure (sp_rising V 0 (n - 1) hV) (by cbv) ?_); cbv; ((try simp only [IfP_iff, and_true, true_and, decide_eq_true_eq, decide_eq_false_iff_not]); (try simp only [natc, getI_gi, at2_0, at2_1]); (try dsimp only [Ty.den]); (try simp only [natc] at *); (repeat' (first | apply And.intro | intro _))))))
  all_goals (try (simp only [IfP_iff, EqU_iff, Obl_iff, and_true, true_and, inI_iff, decide_eq_true_eq, decide_eq_false_iff_not]; (try simp only [natc, getI_gi, at2_0, at2_1]); (try dsimp only [Ty.den]); try simp only [natc] at *))
  all_goals (first
    | (refine EndG.nilR 25 3 .int [.box 1 1] [2] ?_
       cbv
       (simp only [IfP_iff, EqU_iff, Obl_iff, and_true, true_and, inI_iff, decide_eq_true_eq, decide_eq_false_iff_not]; (try simp only [natc, getI_gi, at2_0, at2_1]); (try dsimp only [Ty.den]); try simp only [natc] at *)
       done)
    | (exfalso
       clear hm
       grind)
    | (have hf := h7 (by simpa using ‹(!formOk n L) = false›)
       omega)
    | (trace_state; fail))
theorem sp_neg_ok (n : Int) (L : List (List Int)) (V : List Int) (hL : L.length ≤ 1048576) (hm : ∀ r ∈ L, r.length ≤ 1048576) (hV : V.length ≤ 1048576) (hb : negOk n L V = true) : Spec2 Try.prog 13 [.agg (.pr .int (.sl (.sl .int))) fun _ => (n, L), .sl .int fun _ => V] [] [.cells [.int fun _ => n, .ref 0], .bool fun _ => true] [some (.rows 25 3 .int fun _ => L.map (negS V))] := by
  have h9 : negOk n L V = (formOk n L && ascB n V) := rfl
  have h8 := rise_asc n V
  rw [hb] at h9
  have hf : formOk n L = true := by grind
  have h7 := (form_lits hf).1
  have h6 := (form_lits hf).2.1
  have hrow : ∀ i : Int, 0 ≤ i → i < (L.length : Int) → (getR .int L i).length ≤ 1048576 ∧ (∀ x ∈ getR .int L i, x ≠ 0 ∧ -6 ≤ x ∧ x ≤ 6) ∧ ((getR .int L i).map (negX V)).Nodup := fun i a b => ⟨hm _ (getR_mem a b), (form_row hf (getR_mem a b)).2, neg_nodup (form_row hf (getR_mem a b)).1 fun x hx => ((form_row hf (getR_mem a b)).2 x hx).1⟩
  refine fnG [.cst 4 2 27, .tmp 5] Try.func13 rfl (by decide) rfl (by kernel_rfl) (.inr (.inl rfl)) (by kernel_rfl) (Nat.zero_le _) (by simp [Try.ntmps13]) ?_
  cbv
  ((try simp only [IfP_iff, and_true, true_and, decide_eq_true_eq, decide_eq_false_iff_not]); (try simp only [natc, getI_gi, at2_0, at2_1]); (try dsimp only [Ty.den]); (try simp only [natc] at *); (repeat' (first | apply And.intro | intro _)))
  all_goals (repeat' (first | ((first | refine call_q (Spec2.agg6 (t := (.pr .int (.sl (.sl .int)))) (x := fun _ => (n, L)) (sp_good6 n L hL hm)) (by cbv) ?_ | refine call_pure (Spec2.agg6 (t := (.pr .int (.sl (.sl .int)))) (x := fun _ => (n, L)) (sp_good6 n L hL hm)) (by cbv) ?_); cbv; ((try simp only [IfP_iff, and_true, true_and, decide_eq_true_eq, decide_eq_false_iff_not]); (try simp only [natc, getI_gi, at2_0, at2_1]); (try dsimp only [Ty.den]); (try simp only [natc] at *); (repeat' (first | apply And.intro | intro _)))) | ((first | refine call_q (sp_rising V 0 (n - 1) hV) (by cbv) ?_ | refine call_pure (sp_rising V 0 (n - 1) hV) (by cbv) ?_); cbv; ((try simp only [IfP_iff, and_true, true_and, decide_eq_true_eq, decide_eq_false_iff_not]); (try simp only [natc, getI_gi, at2_0, at2_1]); (try dsimp only [Ty.den]); (try simp only [natc] at *); (repeat' (first | apply And.intro | intro _))))))
  rotate_right 1
  · refine loopP (by kernel_rfl) (fun i : Int => 0 ≤ i ∧ i ≤ L.length) (fun i => [(7, .int fun _ => i), (25, .junk), (26, .cells [.int fun _ => n, .junk])]) (fun i => [(2, some (.rows 25 3 .int fun _ => (L.take i.toNat).map (negS V))), (3, some (.box 27 [.int fun _ => n, .ref 2]))]) (fun i => (L.length - i).toNat) (· + 1) 0 (by omega) ?_ ?_
    · cbv
      (simp only [IfP_iff, EqU_iff, Obl_iff, and_true, true_and, inI_iff, decide_eq_true_eq, decide_eq_false_iff_not]; (try simp only [natc, getI_gi, at2_0, at2_1]); (try dsimp only [Ty.den]); try simp only [natc] at *)
      rfl
    · intro i hi
      have a1 := take_nextR (L := L) (k := i) hi.1
      have a2 := hrow i hi.1
      have a4 : ¬ i < (L.length : Int) → L.take i.toNat = L := fun h => List.take_of_length_le (by omega)
      have a5 : ((L.take i.toNat).map (negS V)).length ≤ 1048576 := by rw [List.length_map, List.length_take]; omega
      clear hrow hm
      cbv
      ((try simp only [IfP_iff, and_true, true_and, decide_eq_true_eq, decide_eq_false_iff_not]); (try simp only [natc, getI_gi, at2_0, at2_1]); (try dsimp only [Ty.den]); (try simp only [natc] at *); (repeat' (first | apply And.intro | intro _)))
      · obtain ⟨b1, b2, b3⟩ := a2 (by assumption)
        have b4 := putF_srt b3
        refine loopX (by kernel_rfl) (fun k : Int => 0 ≤ k ∧ k ≤ (getR .int L i).length) (fun k => [(9, .int fun _ => k), (8, .ref 4), (34, .junk), (10, .junk)]) (fun k => [(4, some (.row 3 .int fun _ => putF (((getR .int L i).take k.toNat).map (negX V))))]) (fun k => ((getR .int L i).length - k).toNat) (· + 1) 0 (by omega) ?_ ?_
        · cbv
          (simp only [IfP_iff, EqU_iff, Obl_iff, and_true, true_and, inI_iff, decide_eq_true_eq, decide_eq_false_iff_not]; (try simp only [natc, getI_gi, at2_0, at2_1]); (try dsimp only [Ty.den]); try simp only [natc] at *)
          rfl
        · intro k hk
          have c1 := take_gi (l := getR .int L i) hk.1
          have c2 : k < ((getR .int L i).length : Int) → gi (getR .int L i) k ≠ 0 ∧ -6 ≤ gi (getR .int L i) k ∧ gi (getR .int L i) k ≤ 6 := fun a => b2 _ (gi_mem hk.1 a)
          have c3 : (putF (((getR .int L i).take k.toNat).map (negX V))).length ≤ 1048576 := by rw [(putF_perm _ _ rfl).length_eq, List.length_map, List.length_take]; omega
          have c4 : k < ((getR .int L i).length : Int) → hasB (putF (((getR .int L i).take k.toNat).map (negX V))) (negX V (gi (getR .int L i) k)) = false := fun a => by
            rw [Bool.eq_false_iff]
            intro h
            have h1 := putF_mem.1 (hasB_iff.1 h)
            have h2 : (((getR .int L i).take (k + 1).toNat).map (negX V)).Nodup := b3.sublist ((List.take_sublist _ _).map _)
            rw [c1 a, List.map_append, List.nodup_append] at h2
            exact h2.2.2 _ h1 _ (by simp) rfl
          have c5 : k < ((getR .int L i).length : Int) → putF (((getR .int L i).take (k + 1).toNat).map (negX V)) = putI (putF (((getR .int L i).take k.toNat).map (negX V))) (negX V (gi (getR .int L i) k)) := fun a => by
            rw [c1 a, List.map_append]
            exact putF_snoc _ _
          have c6 : k < ((getR .int L i).length : Int) → mxN (gi (getR .int L i) k) (0 - gi (getR .int L i) k) - 1 = varOf (gi (getR .int L i) k) := fun a => mx_var (c2 a).1
          have c7 : negX V (gi (getR .int L i) k) = if hasB V (varOf (gi (getR .int L i) k)) = true then 0 - gi (getR .int L i) k else gi (getR .int L i) k := rfl
          have c8 : ¬ k < ((getR .int L i).length : Int) → putF (((getR .int L i).take k.toNat).map (negX V)) = negS V (getR .int L i) := fun a => by rw [List.take_of_length_le (by omega), b4]; rfl
          have c9 : k < ((getR .int L i).length : Int) → hasB V (mxN (gi (getR .int L i) k) (0 - gi (getR .int L i) k) - 1) = true → negX V (gi (getR .int L i) k) = 0 - gi (getR .int L i) k := fun a b => by
            rw [c6 a] at b
            rw [c7, if_pos b]
          have c10 : k < ((getR .int L i).length : Int) → hasB V (mxN (gi (getR .int L i) k) (0 - gi (getR .int L i) k) - 1) = false → negX V (gi (getR .int L i) k) = gi (getR .int L i) k := fun a b => by
            rw [c6 a] at b
            rw [c7, if_neg (by rw [b]; decide)]
          have c11 : -9 ≤ mxN (gi (getR .int L i) k) (0 - gi (getR .int L i) k) ∨ True := .inr trivial
          have c12 : k < ((getR .int L i).length : Int) → 0 ≤ mxN (gi (getR .int L i) k) (0 - gi (getR .int L i) k) ∧ mxN (gi (getR .int L i) k) (0 - gi (getR .int L i) k) ≤ 6 := fun a => by
            have := c2 a
            unfold mxN
            split <;> omega
          clear b2 b3 b4 c6 c7 c1
          cbv
          ((try simp only [IfP_iff, and_true, true_and, decide_eq_true_eq, decide_eq_false_iff_not]); (try simp only [natc, getI_gi, at2_0, at2_1]); (try dsimp only [Ty.den]); (try simp only [natc] at *); (repeat' (first | apply And.intro | intro _)))
          all_goals (try simp only [show getI (.sl .int) L i = getR .int L i from rfl] at *)
          all_goals (repeat' (first | ((first | refine call_q (sp_mxN _ _) (by cbv) ?_ | refine call_pure (sp_mxN _ _) (by cbv) ?_); cbv; ((try simp only [IfP_iff, and_true, true_and, decide_eq_true_eq, decide_eq_false_iff_not]); (try simp only [natc, getI_gi, at2_0, at2_1]); (try dsimp only [Ty.den]); (try simp only [natc] at *); (repeat' (first | apply And.intro | intro _)))) | ((first | refine call_q (sp_has V _ hV) (by cbv) ?_ | refine call_pure (sp_has V _ hV) (by cbv) ?_); cbv; ((try simp only [IfP_iff, and_true, true_and, decide_eq_true_eq, decide_eq_false_iff_not]); (try simp only [natc, getI_gi, at2_0, at2_1]); (try dsimp only [Ty.den]); (try simp only [natc] at *); (repeat' (first | apply And.intro | intro _))))))
          all_goals (try simp only [show getI (.sl .int) L i = getR .int L i from rfl] at *)
          all_goals (repeat' (first | ((first | refine call_q (sp_put _ (0 - gi (getR .int L i) k) c3 (by rw [← c9 (by assumption) (by assumption)]; exact c4 (by assumption))) (by cbv) ?_ | refine call_pure (sp_put _ (0 - gi (getR .int L i) k) c3 (by rw [← c9 (by assumption) (by assumption)]; exact c4 (by assumption))) (by cbv) ?_); cbv; ((try simp only [IfP_iff, and_true, true_and, decide_eq_true_eq, decide_eq_false_iff_not]); (try simp only [natc, getI_gi, at2_0, at2_1]); (try dsimp only [Ty.den]); (try simp only [natc] at *); (repeat' (first | apply And.intro | intro _)))) | ((first | refine call_q (sp_put _ (gi (getR .int L i) k) c3 (by rw [← c10 (by assumption) (by assumption)]; exact c4 (by assumption))) (by cbv) ?_ | refine call_pure (sp_put _ (gi (getR .int L i) k) c3 (by rw [← c10 (by assumption) (by assumption)]; exact c4 (by assumption))) (by cbv) ?_); cbv; ((try simp only [IfP_iff, and_true, true_and, decide_eq_true_eq, decide_eq_false_iff_not]); (try simp only [natc, getI_gi, at2_0, at2_1]); (try dsimp only [Ty.den]); (try simp only [natc] at *); (repeat' (first | apply And.intro | intro _))))))
          all_goals (first
            | (refine RenL.mk ⟨[0, 1, 2, 3, 5], ?_⟩
               cbv
               (simp only [IfP_iff, EqU_iff, Obl_iff, and_true, true_and, inI_iff, decide_eq_true_eq, decide_eq_false_iff_not]; (try simp only [natc, getI_gi, at2_0, at2_1]); (try dsimp only [Ty.den]); try simp only [natc] at *)
               first
                 | (rw [c5 (by assumption), c9 (by assumption) (by assumption)]; done)
                 | (rw [c5 (by assumption), c10 (by assumption) (by assumption)]; done)
                 | (trace_state; fail))
            | ((simp only [IfP_iff, EqU_iff, Obl_iff, and_true, true_and, inI_iff, decide_eq_true_eq, decide_eq_false_iff_not]; (try simp only [natc, getI_gi, at2_0, at2_1]); (try dsimp only [Ty.den]); try simp only [natc] at *)
               done)
            | ((simp only [IfP_iff, EqU_iff, Obl_iff, and_true, true_and, inI_iff, decide_eq_true_eq, decide_eq_false_iff_not]; (try simp only [natc, getI_gi, at2_0, at2_1]); (try dsimp only [Ty.den]); try simp only [natc] at *)
               (repeat' (first | apply And.intro | intro _)) <;> first | omega | (simp only [List.length_append, List.length_cons, List.length_nil]; omega) | (rw [c8 (by assumption), a1 (by assumption), List.map_append]; rfl) | grind | (trace_state; fail))
            | (trace_state; fail))
      · refine EndG.plain [2] ?_
        cbv
        (simp only [IfP_iff, EqU_iff, Obl_iff, and_true, true_and, inI_iff, decide_eq_true_eq, decide_eq_false_iff_not]; (try simp only [natc, getI_gi, at2_0, at2_1]); (try dsimp only [Ty.den]); try simp only [natc] at *)
        rw [a4 (by assumption)]
  all_goals (try (simp only [IfP_iff, EqU_iff, Obl_iff, and_true, true_and, inI_iff, decide_eq_true_eq, decide_eq_false_iff_not]; (try simp only [natc, getI_gi, at2_0, at2_1]); (try dsimp only [Ty.den]); try simp only [natc] at *))
  all_goals (first | omega | (exfalso; clear hm hrow; grind) | (trace_state; fail))
end Go.Proofs.Ytcgeedklfejhbaa.M

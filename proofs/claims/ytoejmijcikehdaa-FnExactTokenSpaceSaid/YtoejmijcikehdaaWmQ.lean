/- TokenSpace: the specification. -/
import Derived.Test.YtoejmijcikehdaaWkQ
import Derived.Test.YtoejmijcikehdaaQg
namespace Go.Proofs.Ytoejmijcikehdaa.M
open Go.RowKit Abs
set_option linter.unusedSimpArgs false
set_option linter.unusedVariables false
set_option maxRecDepth 100000
set_option maxHeartbeats 4000000
theorem sp_changed (a b : List Int) (ha : a.length ≤ 1048576) (hb : b.length = a.length) : Spec2 Try.prog 80 [.sl .int fun _ => a, .sl .int fun _ => b] [] [.ref 0] [some (.row 3 .int fun _ => apL a b)] := by
  refine fnS [0] [4] Try.func80 rfl (by decide) rfl (by decide) (by kernel_rfl) rfl (by simp [Try.ntmps80]) ?_
  cbv
  refine loopP (by kernel_rfl) (fun k : Int => 0 ≤ k ∧ k ≤ a.length) (fun k => [(6, .int fun _ => k), (5, .ref 0), (7, .junk)]) (fun k => [(0, some (.row 3 .int fun _ => pref (apB a b) k.toNat))]) (fun k => (a.length - k).toNat) (· + 1) 0 (by omega) ?_ ?_
  · cbv
    (simp only [IfP_iff, EqU_iff, Obl_iff, and_true, true_and, inI_iff, decide_eq_true_eq, decide_eq_false_iff_not]; (try simp only [natc, getI_gi, at2_0, at2_1]); (try dsimp only [Ty.den]); try simp only [natc] at *)
    simp [pref]
  · intro k hk
    have h1 := pref_next (p := apB a b) hk.1
    have h2 := pref_len (p := apB a b) hk.1
    have h3 : ¬ k < (a.length : Int) → pref (apB a b) k.toNat = apL a b := fun h => by unfold apL; rw [show k.toNat = a.length by omega]
    have h4 : apB a b k = !decide (gi a k = gi b k) := rfl
    cbv
    ((try simp only [IfP_iff, and_true, true_and, decide_eq_true_eq, decide_eq_false_iff_not]); (try simp only [natc, getI_gi, at2_0, at2_1]); (try dsimp only [Ty.den]); (try simp only [natc] at *); (repeat' (first | apply And.intro | intro _)))
    all_goals (try (simp only [IfP_iff, EqU_iff, Obl_iff, and_true, true_and, inI_iff, decide_eq_true_eq, decide_eq_false_iff_not]; (try simp only [natc, getI_gi, at2_0, at2_1]); (try dsimp only [Ty.den]); try simp only [natc] at *))
    all_goals ((repeat' (first | apply And.intro | intro _)) <;> first | omega | (simp only [List.length_append, List.length_cons, List.length_nil]; omega) | grind)
theorem difB_no {l : List (Int × Int)} {a b : List Int} (h : ¬ ((apL a b).length : Int) = 2) : difB l a b = false := by unfold difB; rw [decide_eq_false h]; rfl
theorem difB_yes {l : List (Int × Int)} {a b : List Int} (h : ((apL a b).length : Int) = 2) : difB l a b = nearB l (gi (apL a b) 0) (gi (apL a b) 1) := by unfold difB; rw [decide_eq_true h]; rfl
theorem sp_tokenSpace (n : Int) (l : List (Int × Int)) (hl : l.length ≤ 1048576) : Spec2 Try.prog 47 [.agg (.pr .int (.sl (.pr .int .int))) fun _ => (n, l)] [] [.cells [.ref 0, .ref 1], .bool fun _ => tspB n l] [some (.rows 22 3 .int fun _ => tspG n l), some (.row 66 (.pr .int .int) fun _ => tspQ n l)] := by
  have hq0 := sp_good n l hl
  cases hp : tspB n l with
  | false =>
    have h8 : tspG n l = [] := by unfold tspG; rw [hp, if_neg (by decide)]
    have h9 : tspQ n l = [] := by unfold tspQ; rw [h8]; rfl
    have z : (!graphOk n l) = false → ¬ 5 < n → False := fun a b => by
      unfold tspB at hp
      rw [show graphOk n l = true by simpa using a, decide_eq_true (by omega)] at hp
      cases hp
    rw [h9, h8]
    refine fnG [.cst 2 2 58, .tmp 3] Try.func47 rfl (by decide) rfl (by kernel_rfl) (.inr (.inl rfl)) (by kernel_rfl) (Nat.zero_le _) (by simp [Try.ntmps47]) ?_
    cbv
    ((try simp only [IfP_iff, and_true, true_and, decide_eq_true_eq, decide_eq_false_iff_not]); (try simp only [natc, getI_gi, at2_0, at2_1]); (try dsimp only [Ty.den]); (try simp only [natc] at *); (repeat' (first | apply And.intro | intro _)))
    all_goals (repeat' (first | ((first | refine call_q hq0 (by cbv) ?_ | refine call_pure hq0 (by cbv) ?_); cbv; ((try simp only [IfP_iff, and_true, true_and, decide_eq_true_eq, decide_eq_false_iff_not]); (try simp only [natc, getI_gi, at2_0, at2_1]); (try dsimp only [Ty.den]); (try simp only [natc] at *); (repeat' (first | apply And.intro | intro _))))))
    all_goals (try (exact (z (by assumption) (by assumption)).elim))
    all_goals (refine EndG.viaV (fun w0 B hd a w val hR => hR.nilR 22 3 .int [.box 1 0]) ?_)
    all_goals (refine EndG.nil 66 (.pr .int .int) [.box 1 1] [2, 3] ?_)
    all_goals cbv
    all_goals (try (simp only [IfP_iff, EqU_iff, Obl_iff, and_true, true_and, inI_iff, decide_eq_true_eq, decide_eq_false_iff_not]; (try simp only [natc, getI_gi, at2_0, at2_1]); (try dsimp only [Ty.den]); try simp only [natc] at *))
  | true =>
    have hpb := hp
    unfold tspB at hpb
    simp only [Bool.and_eq_true, decide_eq_true_eq] at hpb
    have hn := (graph_edges hpb.1).1
    have s1 := sp_all n hn.1 hpb.2 n.toNat [] [] (by simp only [List.length_nil]; omega) (by simp only [List.length_nil]; omega)
    rw [show [] ++ grv n n.toNat [] = tspG n l by unfold tspG; rw [hp, if_pos rfl]; rfl] at s1
    have hlen := tsp_len n l
    have hr := fun k h0 h1 => @tsp_row n l k h0 h1
    have z1 : (!graphOk n l) = true → False := fun a => by rw [hpb.1] at a; cases a
    have z2 : 5 < n → False := fun a => by omega
    have hqq : ∀ i j, difB l (getR .int (tspG n l) i) (getR .int (tspG n l) j) = (fun i j => difB l (getR .int (tspG n l) i) (getR .int (tspG n l) j)) i j := fun _ _ => rfl
    rw [show tspQ n l = wTo (fun i j => difB l (getR .int (tspG n l) i) (getR .int (tspG n l) j)) (tspG n l).length (tspG n l).length from rfl]
    generalize (fun i j => difB l (getR .int (tspG n l) i) (getR .int (tspG n l) j)) = q at *
    generalize tspG n l = R at *
    refine fnG [.cst 2 2 58, .tmp 3] Try.func47 rfl (by decide) rfl (by kernel_rfl) (.inr (.inl rfl)) (by kernel_rfl) (Nat.zero_le _) (by simp [Try.ntmps47]) ?_
    cbv
    ((try simp only [IfP_iff, and_true, true_and, decide_eq_true_eq, decide_eq_false_iff_not]); (try simp only [natc, getI_gi, at2_0, at2_1]); (try dsimp only [Ty.den]); (try simp only [natc] at *); (repeat' (first | apply And.intro | intro _)))
    all_goals (repeat' (first | ((first | refine call_q hq0 (by cbv) ?_ | refine call_pure hq0 (by cbv) ?_); cbv; ((try simp only [IfP_iff, and_true, true_and, decide_eq_true_eq, decide_eq_false_iff_not]); (try simp only [natc, getI_gi, at2_0, at2_1]); (try dsimp only [Ty.den]); (try simp only [natc] at *); (repeat' (first | apply And.intro | intro _))))))
    all_goals (try (exact (z1 (by assumption)).elim))
    all_goals (try (exact (z2 (by assumption)).elim))
    refine call_own 3 s1 (by exact ⟨rfl, rfl, trivial⟩) (by exact ⟨.inl rfl, .inl rfl, .inr ⟨rfl, rfl⟩, trivial⟩) ?_
    cbv
    refine loopP (by kernel_rfl) (fun i : Int => 0 ≤ i ∧ i ≤ R.length) (fun i => [(5, .int fun _ => i), (22, .junk), (23, .junk)]) (fun i => [(5, some (.row 66 (.pr .int .int) fun _ => wTo q R.length i.toNat)), (6, some (.box 58 [.ref 4, .ref 5]))]) (fun i => (R.length - i).toNat) (· + 1) 0 (by omega) ?_ ?_
    · cbv
      (simp only [IfP_iff, EqU_iff, Obl_iff, and_true, true_and, inI_iff, decide_eq_true_eq, decide_eq_false_iff_not]; (try simp only [natc, getI_gi, at2_0, at2_1]); (try dsimp only [Ty.den]); try simp only [natc] at *)
      exact rfl
    · intro i hi
      have c1 := wTo_next (q := q) (m := R.length) hi.1
      have c2 := wTo_len q (m := (R.length : Int)) (by omega) i.toNat
      have c3 : wRow q i (i + 1 - (i + 1)).toNat = [] := by rw [show (i + 1 - (i + 1)).toNat = 0 by omega]; rfl
      have c5 : ¬ i < (R.length : Int) → wTo q R.length i.toNat = wTo q R.length R.length := fun h => by rw [show i.toNat = R.length by omega]
      have c6 : (wTo q R.length i.toNat).length ≤ 1600000000 := by omega
      have i0 : 0 ≤ i := hi.1
      clear c2
      cbv
      ((try simp only [IfP_iff, and_true, true_and, decide_eq_true_eq, decide_eq_false_iff_not]); (try simp only [natc, getI_gi, at2_0, at2_1]); (try dsimp only [Ty.den]); (try simp only [natc] at *); (repeat' (first | apply And.intro | intro _)))
      rotate_left 1
      · refine loopP (by kernel_rfl) (fun j : Int => i + 1 ≤ j ∧ (j ≤ R.length ∨ j = i + 1)) (fun j => [(6, .int fun _ => j)]) (fun j => [(5, some (.row 66 (.pr .int .int) fun _ => wTo q R.length i.toNat ++ wRow q i (j - (i + 1)).toNat)), (6, some (.box 58 [.ref 4, .ref 5]))]) (fun j => (R.length - j).toNat) (· + 1) (i + 1) (by omega) ?_ ?_
        · cbv
          (simp only [IfP_iff, EqU_iff, Obl_iff, and_true, true_and, inI_iff, decide_eq_true_eq, decide_eq_false_iff_not]; (try simp only [natc, getI_gi, at2_0, at2_1]); (try dsimp only [Ty.den]); try simp only [natc] at *)
          rw [c3, List.append_nil]
        · intro j hj
          have d1 := wRow_next (q := q) hj.1
          have d2 := wRow_len q i (j - (i + 1)).toNat
          have d4 : ¬ j < (R.length : Int) → wTo q R.length i.toNat ++ wRow q i (j - (i + 1)).toNat = wTo q R.length (i + 1).toNat := fun h => by
            rw [c1, show j = (R.length : Int) by omega]
          have d5 : q i j = true → wTo q R.length i.toNat ++ wRow q i (j - (i + 1)).toNat ++ [(i, j)] = wTo q R.length i.toNat ++ wRow q i (j + 1 - (i + 1)).toNat := fun a => by rw [d1, if_pos a, List.append_assoc]
          have d6 : q i j = false → wTo q R.length i.toNat ++ wRow q i (j - (i + 1)).toNat = wTo q R.length i.toNat ++ wRow q i (j + 1 - (i + 1)).toNat := fun a => by rw [d1, if_neg (by rw [a]; decide), List.append_nil]
          have d7 : (wTo q R.length i.toNat ++ wRow q i (j - (i + 1)).toNat).length ≤ 1600080000 := by rw [List.length_append]; omega
          have sl := fun h : j < (R.length : Int) => sp_changed (getR .int R i) (getR .int R j) (by have := hr i i0 (by omega); omega) (by have := hr i i0 (by omega); have := hr j (by omega) h; omega)
          have sn := sp_near n l (gi (apL (getR .int R i) (getR .int R j)) 0) (gi (apL (getR .int R i) (getR .int R j)) 1) hl
          have e1 : ¬ ((apL (getR .int R i) (getR .int R j)).length : Int) = 2 → q i j = false := fun h => by rw [← hqq]; exact difB_no h
          have e2 : ((apL (getR .int R i) (getR .int R j)).length : Int) = 2 → q i j = nearB l (gi (apL (getR .int R i) (getR .int R j)) 0) (gi (apL (getR .int R i) (getR .int R j)) 1) := fun h => by rw [← hqq]; exact difB_yes h
          generalize apL (getR .int R i) (getR .int R j) = A at *
          clear d1 d2 c1 c3 c5 c6 s1 hqq hr hq0
          cbv
          ((try simp only [IfP_iff, and_true, true_and, decide_eq_true_eq, decide_eq_false_iff_not]); (try simp only [natc, getI_gi, at2_0, at2_1]); (try dsimp only [Ty.den]); (try simp only [natc] at *); (repeat' (first | apply And.intro | intro _)))
          all_goals (repeat' (first | ((first | refine call_q (sl (by assumption)) (by cbv) ?_ | refine call_pure (sl (by assumption)) (by cbv) ?_); cbv; ((try simp only [IfP_iff, and_true, true_and, decide_eq_true_eq, decide_eq_false_iff_not]); (try simp only [natc, getI_gi, at2_0, at2_1]); (try dsimp only [Ty.den]); (try simp only [natc] at *); (repeat' (first | apply And.intro | intro _)))) | ((first | refine call_q sn (by cbv) ?_ | refine call_pure sn (by cbv) ?_); cbv; ((try simp only [IfP_iff, and_true, true_and, decide_eq_true_eq, decide_eq_false_iff_not]); (try simp only [natc, getI_gi, at2_0, at2_1]); (try dsimp only [Ty.den]); (try simp only [natc] at *); (repeat' (first | apply And.intro | intro _))))))
          all_goals (try ((try simp only [IfP_iff, and_true, true_and, decide_eq_true_eq, decide_eq_false_iff_not]); (try simp only [natc, getI_gi, at2_0, at2_1]); (try dsimp only [Ty.den]); (try simp only [natc] at *); (repeat' (first | apply And.intro | intro _))))
          all_goals (try (simp only [IfP_iff, EqU_iff, Obl_iff, and_true, true_and, inI_iff, decide_eq_true_eq, decide_eq_false_iff_not]; (try simp only [natc, getI_gi, at2_0, at2_1]); (try dsimp only [Ty.den]); try simp only [natc] at *))
          all_goals ((repeat' (first | apply And.intro | intro _)) <;> first | omega | (exact d4 (by assumption)) | (exact d5 ((e2 (by assumption)).trans (by assumption))) | (exact d6 ((e2 (by assumption)).trans (by assumption))) | (exact d6 (e1 (by assumption))) | (simp only [List.length_cons, List.length_nil] at *; omega) | trace_state)
      · refine EndG.plain [4, 5] ?_
        cbv
        (simp only [IfP_iff, EqU_iff, Obl_iff, and_true, true_and, inI_iff, decide_eq_true_eq, decide_eq_false_iff_not]; (try simp only [natc, getI_gi, at2_0, at2_1]); (try dsimp only [Ty.den]); try simp only [natc] at *)
        exact c5 (by assumption)
      all_goals (try (simp only [IfP_iff, EqU_iff, Obl_iff, and_true, true_and, inI_iff, decide_eq_true_eq, decide_eq_false_iff_not]; (try simp only [natc, getI_gi, at2_0, at2_1]); (try dsimp only [Ty.den]); try simp only [natc] at *))
      all_goals ((repeat' (first | apply And.intro | intro _)) <;> first | omega | trace_state)
end Go.Proofs.Ytoejmijcikehdaa.M

/- Greedy colours: the specification. -/
import Derived.Test.YtjmpfcpicgjceaaGqQ
import Derived.Test.YtjmpfcpicgjceaaQc
namespace Go.Proofs.Ytjmpfcpicgjceaa.M
open Go.RowKit Abs
set_option linter.unusedSimpArgs false
set_option linter.unusedVariables false
set_option maxRecDepth 100000
set_option maxHeartbeats 4000000
theorem sp_order (n : Int) (l : List (Int × Int)) (od : List Int) (g0 : 0 ≤ n) (g1 : n ≤ 8) (hd : od.length ≤ 1048576) : Spec2 Try.prog 83 [.agg (.pr .int (.sl (.pr .int .int))) fun _ => (n, l), .sl .int fun _ => od] [] [.bool fun _ => eachB od n] [] := by
  have h9 : eachB od n = _ := rfl
  conv at h9 => rhs; unfold eachB
  refine fnS [] [4] Try.func83 rfl (by decide) rfl (by decide) (by kernel_rfl) rfl (by simp [Try.ntmps83]) ?_
  cbv
  refine loopP (by kernel_rfl) (fun k : Int => 0 ≤ k ∧ k ≤ n ∧ ∀ j : Int, 0 ≤ j → j < k → hasB od j = true) (fun k => [(5, .int fun _ => k)]) (fun _ => []) (fun k => (n - k).toNat) (· + 1) 0 (by grind) ?_ ?_
  · cbv
    (simp only [IfP_iff, EqU_iff, Obl_iff, and_true, true_and, inI_iff, decide_eq_true_eq, decide_eq_false_iff_not]; (try simp only [natc, getI_gi, at2_0, at2_1]); (try dsimp only [Ty.den]); try simp only [natc] at *)
  · intro k hk
    have h1 := allI_bad (n := n.toNat) (p := hasB od) (k := k)
    have h2 := allI_good (n := n.toNat) (p := hasB od)
    have h3 := upTo (p := hasB od) hk.2.2
    have h4 : ((n.toNat : Nat) : Int) = n := by omega
    cbv
    ((try simp only [IfP_iff, and_true, true_and, decide_eq_true_eq, decide_eq_false_iff_not]); (try simp only [natc, getI_gi, at2_0, at2_1]); (try dsimp only [Ty.den]); (try simp only [natc] at *); (repeat' (first | apply And.intro | intro _)))
    all_goals (repeat' (first | ((first | refine call_q (sp_has od k hd) (by cbv) ?_ | refine call_pure (sp_has od k hd) (by cbv) ?_); cbv; ((try simp only [IfP_iff, and_true, true_and, decide_eq_true_eq, decide_eq_false_iff_not]); (try simp only [natc, getI_gi, at2_0, at2_1]); (try dsimp only [Ty.den]); (try simp only [natc] at *); (repeat' (first | apply And.intro | intro _))))))
    all_goals (try (simp only [IfP_iff, EqU_iff, Obl_iff, and_true, true_and, inI_iff, decide_eq_true_eq, decide_eq_false_iff_not]; (try simp only [natc, getI_gi, at2_0, at2_1]); (try dsimp only [Ty.den]); try simp only [natc] at *))
    all_goals ((repeat' (first | apply And.intro | intro _)) <;> first | omega | (simp only [List.length_append, List.length_cons, List.length_nil]; omega) | grind)
theorem filt_next2 {s : List Int} {q : Int → Bool} {k : Int} (h0 : 0 ≤ k) (h1 : k < (s.length : Int)) : (s.take (k + 1).toNat).filter q = (s.take k.toNat).filter q ++ if q (gi s k) = true then [gi s k] else [] := by
  rw [take_gi h0 h1, List.filter_append]
  congr 1
  by_cases h : q (gi s k) = true
  · rw [List.filter_cons_of_pos h, if_pos h]; rfl
  · rw [List.filter_cons_of_neg h, if_neg h]; rfl
theorem used_next {n : Int} {l : List (Int × Int)} {od o : List Int} {x j : Int} (h0 : 0 ≤ j) (h1 : j < (od.length : Int)) : usedL l od o x (j + 1).toNat = usedL l od o x j.toNat ++ if nearB l (gi od j) x = true then [gi o (gi od j)] else [] := by
  unfold usedL
  rw [filt_next2 h0 h1, List.map_append]
  split <;> rfl
theorem used_len {l : List (Int × Int)} {od o : List Int} {x : Int} {j : Nat} : (usedL l od o x j).length ≤ od.length := by
  unfold usedL
  rw [List.length_map]
  exact Nat.le_trans (List.length_filter_le _ _) (by rw [List.length_take]; omega)
theorem sp_greedyC (n : Int) (l : List (Int × Int)) (od : List Int) (hl : l.length ≤ 1048576) (hd : od.length ≤ 1048576) : Spec2 Try.prog 39 [.agg (.pr .int (.sl (.pr .int .int))) fun _ => (n, l), .sl .int fun _ => od] [] [.ref 0, .bool fun _ => gcOk n l od] [some (.row 3 .int fun _ => gcR n l od)] := by
  have h9 : gcOk n l od = (graphOk n l && eachB od n) := rfl
  have h2 : gcR n l od = _ := rfl
  conv at h2 => rhs; unfold gcR
  have h8 : graphOk n l = true → 0 ≤ n ∧ n ≤ 8 := by simp [graphOk]; omega
  by_cases hb : gcOk n l od = true
  case neg =>
    rw [Bool.not_eq_true] at hb
    have hb2 : gcR n l od = [] := by rw [h2, hb]; rfl
    rw [hb2, hb]
    refine fnS [1] [4, 5] Try.func39 rfl (by decide) rfl (by decide) (by kernel_rfl) rfl (by simp [Try.ntmps39]) ?_
    cbv
    repeat' (first | ((first | refine call_q (sp_good n l hl) (by cbv) ?_ | refine call_pure (sp_good n l hl) (by cbv) ?_); cbv; ((try simp only [IfP_iff, and_true, true_and, decide_eq_true_eq, decide_eq_false_iff_not]); (try simp only [natc, getI_gi, at2_0, at2_1]); (try dsimp only [Ty.den]); (try simp only [natc] at *); (repeat' (first | apply And.intro | intro _)))) | ((first | refine call_q (sp_order n l od (by grind) (by grind) hd) (by cbv) ?_ | refine call_pure (sp_order n l od (by grind) (by grind) hd) (by cbv) ?_); cbv; ((try simp only [IfP_iff, and_true, true_and, decide_eq_true_eq, decide_eq_false_iff_not]); (try simp only [natc, getI_gi, at2_0, at2_1]); (try dsimp only [Ty.den]); (try simp only [natc] at *); (repeat' (first | apply And.intro | intro _)))))
    all_goals (try (simp only [IfP_iff, EqU_iff, Obl_iff, and_true, true_and, inI_iff, decide_eq_true_eq, decide_eq_false_iff_not]; (try simp only [natc, getI_gi, at2_0, at2_1]); (try dsimp only [Ty.den]); try simp only [natc] at *))
    all_goals (exfalso; rw [hb] at h9; simp_all)
  have F := gc_in hb
  have g0 := F.g0
  have g1 := F.g1
  have g2 := F.g2
  have hgr := F.gr
  have hea := F.ea
  have hln := F.ord.1
  have hb2 : gcR n l od = oAt n l od od.length := by rw [h2, if_pos hb]
  have hz : oAt n l od 0 = List.replicate n.toNat 0 := rfl
  clear h8
  rw [hb2, hb]
  refine fnS [1] [4, 5] Try.func39 rfl (by decide) rfl (by decide) (by kernel_rfl) rfl (by simp [Try.ntmps39]) ?_
  cbv
  repeat' (first | ((first | refine call_q (sp_good n l hl) (by cbv) ?_ | refine call_pure (sp_good n l hl) (by cbv) ?_); cbv; ((try simp only [IfP_iff, and_true, true_and, decide_eq_true_eq, decide_eq_false_iff_not]); (try simp only [natc, getI_gi, at2_0, at2_1]); (try dsimp only [Ty.den]); (try simp only [natc] at *); (repeat' (first | apply And.intro | intro _)))) | ((first | refine call_q (sp_order n l od g0 g1 hd) (by cbv) ?_ | refine call_pure (sp_order n l od g0 g1 hd) (by cbv) ?_); cbv; ((try simp only [IfP_iff, and_true, true_and, decide_eq_true_eq, decide_eq_false_iff_not]); (try simp only [natc, getI_gi, at2_0, at2_1]); (try dsimp only [Ty.den]); (try simp only [natc] at *); (repeat' (first | apply And.intro | intro _)))))
  all_goals (try (simp only [IfP_iff, EqU_iff, Obl_iff, and_true, true_and, inI_iff, decide_eq_true_eq, decide_eq_false_iff_not]; (try simp only [natc, getI_gi, at2_0, at2_1]); (try dsimp only [Ty.den]); try simp only [natc] at *))
  rotate_right 1
  · refine loopP (by kernel_rfl) (fun i : Int => 0 ≤ i ∧ i ≤ od.length) (fun i => [(7, .int fun _ => i)]) (fun i => [(1, some (.row 3 .int fun _ => oAt n l od i.toNat))]) (fun i => (od.length - i).toNat) (· + 1) 0 (by omega) ?_ ?_
    · cbv
      (simp only [IfP_iff, EqU_iff, Obl_iff, and_true, true_and, inI_iff, decide_eq_true_eq, decide_eq_false_iff_not]; (try simp only [natc, getI_gi, at2_0, at2_1]); (try dsimp only [Ty.den]); try simp only [natc] at *)
      exact hz.symm
    · intro i hi
      have a1 := oAt_next (n := n) (l := l) (od := od) hi.1
      have a2 := (F.inv i.toNat (by omega)).lo
      have a3 : i < (od.length : Int) → 0 ≤ gi od i ∧ gi od i < n := fun h => F.rg _ (gi_mem hi.1 h)
      have a4 : i < (od.length : Int) → gi (oAt n l od i.toNat) (gi od i) = 0 := fun h => by
        refine (F.inv i.toNat (by omega)).freeO _ (a3 h).1 (a3 h).2 ?_
        have := ord_new F.ord (k := i.toNat) (by omega)
        rwa [Int.toNat_of_nonneg hi.1] at this
      have a5 : ∀ j : Int, 0 ≤ j → j < od.length → 0 ≤ gi od j ∧ gi od j < n := fun j a b => F.rg _ (gi_mem a b)
      have a6 : i < (od.length : Int) → ∀ c : Int, 0 ≤ c → hasB (usedL l od (oAt n l od i.toNat) (gi od i) i.toNat) c = true → c < i := fun h c c0 hq => by
        have I := F.inv i.toNat (by omega)
        rw [← among_used g1 g2 I c0] at hq
        have := among_lt g1 g2 I c0 hq
        omega
      have a7 : ¬ i < (od.length : Int) → i.toNat = od.length := by omega
      clear h2 h9
      cbv
      ((try simp only [IfP_iff, and_true, true_and, decide_eq_true_eq, decide_eq_false_iff_not]); (try simp only [natc, getI_gi, at2_0, at2_1]); (try dsimp only [Ty.den]); (try simp only [natc] at *); (repeat' (first | apply And.intro | intro _)))
      · have b1 := a3 (by assumption)
        have b2 := a4 (by assumption)
        have b3 := a6 (by assumption)
        have b4 := set_same (o := oAt n l od i.toNat) (x := gi od i) (c := 0) b1.1 (by omega) b2
        refine loopP (by kernel_rfl) (fun j : Int => 0 ≤ j ∧ j ≤ i) (fun j => [(9, .int fun _ => j), (8, .ref 2), (29, .junk)]) (fun j => [(2, some (.row 3 .int fun _ => usedL l od (oAt n l od i.toNat) (gi od i) j.toNat))]) (fun j => (i - j).toNat) (· + 1) 0 (by omega) ?_ ?_
        · cbv
          (simp only [IfP_iff, EqU_iff, Obl_iff, and_true, true_and, inI_iff, decide_eq_true_eq, decide_eq_false_iff_not]; (try simp only [natc, getI_gi, at2_0, at2_1]); (try dsimp only [Ty.den]); try simp only [natc] at *)
          simp [usedL]
        · intro j hj
          have c1 := used_next (n := n) (l := l) (od := od) (o := oAt n l od i.toNat) (x := gi od i) (j := j) hj.1 (by omega)
          have c2 := used_len (l := l) (od := od) (o := oAt n l od i.toNat) (x := gi od i) (j := j.toNat)
          have c3 := a5 j hj.1 (by omega)
          have c4 : ¬ j < i → j.toNat = i.toNat := by omega
          have c5 : nearB l (gi od j) (gi od i) = true → usedL l od (oAt n l od i.toNat) (gi od i) (j + 1).toNat = usedL l od (oAt n l od i.toNat) (gi od i) j.toNat ++ [gi (oAt n l od i.toNat) (gi od j)] := fun h => by rw [c1, if_pos h]
          have c6 : nearB l (gi od j) (gi od i) = false → usedL l od (oAt n l od i.toNat) (gi od i) (j + 1).toNat = usedL l od (oAt n l od i.toNat) (gi od i) j.toNat := fun h => by rw [c1, if_neg (by rw [h]; decide), List.append_nil]
          clear a5 c1
          cbv
          ((try simp only [IfP_iff, and_true, true_and, decide_eq_true_eq, decide_eq_false_iff_not]); (try simp only [natc, getI_gi, at2_0, at2_1]); (try dsimp only [Ty.den]); (try simp only [natc] at *); (repeat' (first | apply And.intro | intro _)))
          rotate_right 1
          · have e := c4 (by assumption)
            have f1 : ∀ c : Int, 0 ≤ c → hasB (usedL l od (oAt n l od i.toNat) (gi od i) j.toNat) c = true → c < i := by rw [e]; exact b3
            have f2 : oAt n l od (i + 1).toNat = setI (oAt n l od i.toNat) (gi od i) (LC (hasB (usedL l od (oAt n l od i.toNat) (gi od i) j.toNat))) := by rw [e]; exact a1
            clear c5 c6 b3 a1
            refine loopP (by kernel_rfl) (fun c : Int => 0 ≤ c ∧ c ≤ i ∧ lc (hasB (usedL l od (oAt n l od i.toNat) (gi od i) j.toNat)) (9 - c).toNat c = LC (hasB (usedL l od (oAt n l od i.toNat) (gi od i) j.toNat))) (fun _ => []) (fun c => [(1, some (.row 3 .int fun _ => setI (oAt n l od i.toNat) (gi od i) c))]) (fun c => (9 - c).toNat) (· + 1) 0 ⟨Int.le_refl _, hi.1, rfl⟩ ?_ ?_
            · cbv
              (simp only [IfP_iff, EqU_iff, Obl_iff, and_true, true_and, inI_iff, decide_eq_true_eq, decide_eq_false_iff_not]; (try simp only [natc, getI_gi, at2_0, at2_1]); (try dsimp only [Ty.den]); try simp only [natc] at *)
              exact b4.symm
            · intro c hc
              have d1 := gi_self (o := oAt n l od i.toNat) (x := gi od i) (c := c) b1.1 (by omega)
              have d2 := f1 c hc.1
              have d3 : c < 9 := by omega
              have d4 : hasB (usedL l od (oAt n l od i.toNat) (gi od i) j.toNat) c = true → lc (hasB (usedL l od (oAt n l od i.toNat) (gi od i) j.toNat)) (9 - (c + 1)).toNat (c + 1) = LC (hasB (usedL l od (oAt n l od i.toNat) (gi od i) j.toNat)) := fun h => (lc_next hc.1 d3 h).symm.trans hc.2.2
              have d5 : hasB (usedL l od (oAt n l od i.toNat) (gi od i) j.toNat) c = false → setI (oAt n l od i.toNat) (gi od i) c = oAt n l od (i + 1).toNat := fun h => by
                rw [f2, ← hc.2.2, lc_stop d3 h]
              have d6 : (setI (oAt n l od i.toNat) (gi od i) c).length = (oAt n l od i.toNat).length := setI_len _ _ _
              have d7 : setI (setI (oAt n l od i.toNat) (gi od i) c) (gi od i) (c + 1) = setI (oAt n l od i.toNat) (gi od i) (c + 1) := set_set
              clear f1 f2
              cbv
              ((try simp only [IfP_iff, and_true, true_and, decide_eq_true_eq, decide_eq_false_iff_not]); (try simp only [natc, getI_gi, at2_0, at2_1]); (try dsimp only [Ty.den]); (try simp only [natc] at *); (repeat' (first | apply And.intro | intro _)))
              all_goals (repeat' (first | ((first | refine call_q (sp_has (usedL l od (oAt n l od i.toNat) (gi od i) j.toNat) (gi (setI (oAt n l od i.toNat) (gi od i) c) (gi od i)) (by omega)) (by cbv) ?_ | refine call_pure (sp_has (usedL l od (oAt n l od i.toNat) (gi od i) j.toNat) (gi (setI (oAt n l od i.toNat) (gi od i) c) (gi od i)) (by omega)) (by cbv) ?_); cbv; ((try simp only [IfP_iff, and_true, true_and, decide_eq_true_eq, decide_eq_false_iff_not]); (try simp only [natc, getI_gi, at2_0, at2_1]); (try dsimp only [Ty.den]); (try simp only [natc] at *); (repeat' (first | apply And.intro | intro _))))))
              all_goals (try (simp only [IfP_iff, EqU_iff, Obl_iff, and_true, true_and, inI_iff, decide_eq_true_eq, decide_eq_false_iff_not]; (try simp only [natc, getI_gi, at2_0, at2_1]); (try dsimp only [Ty.den]); try simp only [natc] at *))
              all_goals (try rw [d1] at *)
              all_goals ((repeat' (first | apply And.intro | intro _)) <;> first | omega | (exact d4 (by assumption)) | (exact d5 (by assumption)) | (exact d7) | grind)
          all_goals (repeat' (first | ((first | refine call_q (sp_near n l _ _ hl) (by cbv) ?_ | refine call_pure (sp_near n l _ _ hl) (by cbv) ?_); cbv; ((try simp only [IfP_iff, and_true, true_and, decide_eq_true_eq, decide_eq_false_iff_not]); (try simp only [natc, getI_gi, at2_0, at2_1]); (try dsimp only [Ty.den]); (try simp only [natc] at *); (repeat' (first | apply And.intro | intro _))))))
          all_goals (try (simp only [IfP_iff, EqU_iff, Obl_iff, and_true, true_and, inI_iff, decide_eq_true_eq, decide_eq_false_iff_not]; (try simp only [natc, getI_gi, at2_0, at2_1]); (try dsimp only [Ty.den]); try simp only [natc] at *))
          all_goals ((repeat' (first | apply And.intro | intro _)) <;> first | omega | (exact (c5 (by assumption)).symm) | (exact (c6 (by assumption)).symm) | grind)
      all_goals (try (simp only [IfP_iff, EqU_iff, Obl_iff, and_true, true_and, inI_iff, decide_eq_true_eq, decide_eq_false_iff_not]; (try simp only [natc, getI_gi, at2_0, at2_1]); (try dsimp only [Ty.den]); try simp only [natc] at *))
      all_goals ((repeat' (first | apply And.intro | intro _)) <;> first | omega | (rw [a7 (by assumption)]; done) | grind)
  all_goals (first
    | omega
    | (exfalso; simp_all))
end Go.Proofs.Ytjmpfcpicgjceaa.M

/- FlipDiagonal: the specification. -/
import Derived.Test.YtbpheblbbdiapaaEiQ
import Derived.Test.YtbpheblbbdiapaaDfQ
import Derived.Test.YtbpheblbbdiapaaQg
namespace Go.Proofs.Ytbpheblbbdiapaa.M
open Go.RowKit Abs
set_option linter.unusedSimpArgs false
set_option linter.unusedVariables false
set_option maxRecDepth 100000
set_option maxHeartbeats 4000000
theorem first_filt {D : List Int} {p : Int → Bool} {k : Int} (k0 : 0 ≤ k) (k1 : k < D.length) (h : ∀ j : Int, 0 ≤ j → j < k → p (gi D j) = false) (hk : p (gi D k) = true) : gi (D.filter p) 0 = gi D k := by
  have e : D = D.take k.toNat ++ (gi D k :: D.drop (k + 1).toNat) := by
    have h1 : D.take (k + 1).toNat ++ D.drop (k + 1).toNat = D := List.take_append_drop _ _
    rw [take_gi k0 k1, List.append_assoc] at h1
    exact h1.symm
  have e2 : (D.take k.toNat).filter p = [] := by
    rw [List.filter_eq_nil_iff]
    intro x hx
    obtain ⟨j, j0, j1, ej⟩ := mem_at hx
    rw [List.length_take] at j1
    have e3 : gi D j = x := by
      rw [← ej]
      show gi D j = gi (D.take k.toNat) j
      unfold gi
      rw [List.getD_eq_getElem?_getD, List.getD_eq_getElem?_getD, List.getElem?_take, if_pos (by omega)]
    rw [← e3, h j j0 (by omega)]
    decide
  conv => lhs; rw [e, List.filter_append, e2, List.nil_append, List.filter_cons_of_pos hk]
  rfl
theorem asc_putF {l : List Int} (h : l.Pairwise (· < ·)) : putF l = l :=
  asc_eq (putF_asc _ l rfl (h.imp fun h => Int.ne_of_lt h)) h fun _ => putF_mem
theorem put_srt {r : List Int} {x : Int} (h : r.Pairwise (· < ·)) (hx : hasB r x = false) : putI r x = srt (r ++ [x]) := by
  rw [← putF_srt, putF_snoc, asc_putF h]
  rw [List.nodup_append]
  refine ⟨h.imp fun h => Int.ne_of_lt h, by simp, fun a ha b hb e => ?_⟩
  have hb2 : b = x := by simpa using hb
  have : hasB r x = true := hasB_iff.2 (by rw [← hb2, ← e]; exact ha)
  rw [hx] at this
  cases this
theorem sp_withoutL (l : List Int) (d : Int) (hl : l.length ≤ 1048576) : Spec2 Try.prog 70 [.sl .int fun _ => l, .int fun _ => d] [] [.ref 0] [some (.row 3 .int fun _ => onlyL l [d])] := by
  have e : onlyL l [d] = l.filter (outX d) := by
    unfold onlyL
    refine List.filter_congr fun x _ => ?_
    have e1 : hasB [d] x = decide (x = d) := by rw [Bool.eq_iff_iff, hasB_iff]; simp
    rw [e1]; rfl
  rw [e]
  exact sp_without l d hl
theorem sp_flip (n : Int) (l : List Int) (d : Int) (hl : l.length ≤ 1048576) : Spec2 Try.prog 31 [.int fun _ => n, .sl .int fun _ => l, .int fun _ => d] [] [.ref 0, .int fun _ => flX n l d, .bool fun _ => flV n l d] [some (.row 3 .int fun _ => flR n l d)] := by
  by_cases hv : flV n l d = true
  case neg =>
    have h8 : flR n l d = [] := by unfold flR; rw [if_neg hv]
    have h7 : flX n l d = 0 := by unfold flX; rw [if_neg hv]
    rw [Bool.not_eq_true] at hv
    rw [hv, h8, h7]
    have hno : (!triV n l) = false → (!hasB l d) = false → False := fun h1 h2 => by
      unfold flV at hv
      rw [show triV n l = true by simpa using h1, show hasB l d = true by simpa using h2] at hv
      cases hv
    refine fnE [7] [0] [6, 7, 8] Try.func31 rfl (by decide) rfl (by decide) (by kernel_rfl) rfl (by simp [Try.ntmps31]) ?_
    cbv
    repeat' (first | ((first | refine call_q (sp_valid n l hl) (by cbv) ?_ | refine call_pure (sp_valid n l hl) (by cbv) ?_); cbv; ((try simp only [IfP_iff, and_true, true_and, decide_eq_true_eq, decide_eq_false_iff_not]); (try simp only [natc, getI_gi, at2_0, at2_1]); (try dsimp only [Ty.den]); (try simp only [natc] at *); (repeat' (first | apply And.intro | intro _)))))
    all_goals (try (simp only [IfP_iff, EqU_iff, Obl_iff, and_true, true_and, inI_iff, decide_eq_true_eq, decide_eq_false_iff_not]; (try simp only [natc, getI_gi, at2_0, at2_1]); (try dsimp only [Ty.den]); try simp only [natc] at *))
    ((try simp only [IfP_iff, and_true, true_and, decide_eq_true_eq, decide_eq_false_iff_not]); (try simp only [natc, getI_gi, at2_0, at2_1]); (try dsimp only [Ty.den]); (try simp only [natc] at *); (repeat' (first | apply And.intro | intro _)))
    all_goals (repeat' (first | ((first | refine call_q (sp_has l d hl) (by cbv) ?_ | refine call_pure (sp_has l d hl) (by cbv) ?_); cbv; ((try simp only [IfP_iff, and_true, true_and, decide_eq_true_eq, decide_eq_false_iff_not]); (try simp only [natc, getI_gi, at2_0, at2_1]); (try dsimp only [Ty.den]); (try simp only [natc] at *); (repeat' (first | apply And.intro | intro _))))))
    all_goals (try ((try simp only [IfP_iff, and_true, true_and, decide_eq_true_eq, decide_eq_false_iff_not]); (try simp only [natc, getI_gi, at2_0, at2_1]); (try dsimp only [Ty.den]); (try simp only [natc] at *); (repeat' (first | apply And.intro | intro _))))
    all_goals (try (exact (hno (by assumption) (by assumption)).elim))
    all_goals (try (simp only [IfP_iff, EqU_iff, Obl_iff, and_true, true_and, inI_iff, decide_eq_true_eq, decide_eq_false_iff_not]; (try simp only [natc, getI_gi, at2_0, at2_1]); (try dsimp only [Ty.den]); try simp only [natc] at *))
  have hv2 := hv
  unfold flV at hv2
  simp only [Bool.and_eq_true] at hv2
  obtain ⟨hv3, hd⟩ := hv2
  have h8 : flR n l d = srt (onlyL l [d] ++ [gi (flC n l d) 0]) := by unfold flR; rw [if_pos hv]
  have h7 : flX n l d = gi (flC n l d) 0 := by unfold flX; rw [if_pos hv]
  have hp := triV_poly hv3
  have hlen := triV_len hv3
  have ho : (onlyL l [d]).length ≤ 5 := Nat.le_trans (List.length_filter_le _ _) (by omega)
  have ho2 : (onlyL l [d]).length ≤ 1048576 := by omega
  have hx : ∀ x ∈ onlyL l [d], 0 ≤ x ∧ x < 100 := fun x h => triV_in hv3 (List.mem_filter.1 h).1
  have hasc : (onlyL l [d]).Pairwise (· < ·) := (triV_pw hv3).filter _
  have hdl := diag_len (n := n) (by omega) hp.2
  obtain ⟨m, m0, m1, hm⟩ : ∃ m : Int, 0 ≤ m ∧ m < (diagL n).length ∧ flP (onlyL l [d]) d (gi (diagL n) m) = true := by
    obtain ⟨x, x1, x2⟩ := flip_some hv3 (hasB_iff.1 hd)
    obtain ⟨j, j0, j1, e⟩ := mem_at x1
    exact ⟨j, j0, j1, by show flP _ d (gi (diagL n) j) = true; rw [show gi (diagL n) j = x from e]; exact x2⟩
  have hr : flC n l d = (diagL n).filter (flP (onlyL l [d]) d) := rfl
  rw [hv, h8, h7]
  refine fnE [7] [2] [6, 7, 8] Try.func31 rfl (by decide) rfl (by decide) (by kernel_rfl) rfl (by simp [Try.ntmps31]) ?_
  cbv
  repeat' (first | ((first | refine call_q (sp_valid n l hl) (by cbv) ?_ | refine call_pure (sp_valid n l hl) (by cbv) ?_); cbv; ((try simp only [IfP_iff, and_true, true_and, decide_eq_true_eq, decide_eq_false_iff_not]); (try simp only [natc, getI_gi, at2_0, at2_1]); (try dsimp only [Ty.den]); (try simp only [natc] at *); (repeat' (first | apply And.intro | intro _)))))
  all_goals (try (simp only [IfP_iff, EqU_iff, Obl_iff, and_true, true_and, inI_iff, decide_eq_true_eq, decide_eq_false_iff_not]; (try simp only [natc, getI_gi, at2_0, at2_1]); (try dsimp only [Ty.den]); try simp only [natc] at *))
  ((try simp only [IfP_iff, and_true, true_and, decide_eq_true_eq, decide_eq_false_iff_not]); (try simp only [natc, getI_gi, at2_0, at2_1]); (try dsimp only [Ty.den]); (try simp only [natc] at *); (repeat' (first | apply And.intro | intro _)))
  all_goals (repeat' (first | ((first | refine call_q (sp_has l d hl) (by cbv) ?_ | refine call_pure (sp_has l d hl) (by cbv) ?_); cbv; ((try simp only [IfP_iff, and_true, true_and, decide_eq_true_eq, decide_eq_false_iff_not]); (try simp only [natc, getI_gi, at2_0, at2_1]); (try dsimp only [Ty.den]); (try simp only [natc] at *); (repeat' (first | apply And.intro | intro _))))))
  all_goals (try ((try simp only [IfP_iff, and_true, true_and, decide_eq_true_eq, decide_eq_false_iff_not]); (try simp only [natc, getI_gi, at2_0, at2_1]); (try dsimp only [Ty.den]); (try simp only [natc] at *); (repeat' (first | apply And.intro | intro _))))
  all_goals (try (exact absurd (by assumption : (!triV n l) = true) (by rw [hv3]; decide)))
  all_goals (try (exact absurd (by assumption : (!hasB l d) = true) (by rw [hd]; decide)))
  all_goals (repeat' (first | ((first | refine call_q (sp_withoutL l d hl) (by cbv) ?_ | refine call_pure (sp_withoutL l d hl) (by cbv) ?_); cbv; ((try simp only [IfP_iff, and_true, true_and, decide_eq_true_eq, decide_eq_false_iff_not]); (try simp only [natc, getI_gi, at2_0, at2_1]); (try dsimp only [Ty.den]); (try simp only [natc] at *); (repeat' (first | apply And.intro | intro _)))) | ((first | refine call_q (sp_diagonals n (by omega) hp.2) (by cbv) ?_ | refine call_pure (sp_diagonals n (by omega) hp.2) (by cbv) ?_); cbv; ((try simp only [IfP_iff, and_true, true_and, decide_eq_true_eq, decide_eq_false_iff_not]); (try simp only [natc, getI_gi, at2_0, at2_1]); (try dsimp only [Ty.den]); (try simp only [natc] at *); (repeat' (first | apply And.intro | intro _))))))
  all_goals (try (simp only [IfP_iff, EqU_iff, Obl_iff, and_true, true_and, inI_iff, decide_eq_true_eq, decide_eq_false_iff_not]; (try simp only [natc, getI_gi, at2_0, at2_1]); (try dsimp only [Ty.den]); try simp only [natc] at *))
  generalize hR : onlyL l [d] = r at *
  refine loopP (by kernel_rfl) (fun k : Int => 0 ≤ k ∧ k ≤ m ∧ ∀ j : Int, 0 ≤ j → j < k → flP r d (gi (diagL n) j) = false) (fun k => [(11, .int fun _ => k)]) (fun k => []) (fun k => (m - k).toNat) (· + 1) 0 (by refine ⟨by omega, by omega, fun j a b => absurd b (by omega)⟩) ?_ ?_
  · cbv
    (simp only [IfP_iff, EqU_iff, Obl_iff, and_true, true_and, inI_iff, decide_eq_true_eq, decide_eq_false_iff_not]; (try simp only [natc, getI_gi, at2_0, at2_1]); (try dsimp only [Ty.den]); try simp only [natc] at *)
  · intro k hk
    have g0 := hk.1
    have g1 : k < (diagL n).length := by omega
    have g2 := diag_in hp.1 hp.2 _ (gi_mem g0 g1)
    have e1 : flP r d (gi (diagL n) k) = (!decide (gi (diagL n) k = d) && !hasB r (gi (diagL n) k) && apartB r (gi (diagL n) k)) := rfl
    have no1 : flP r d (gi (diagL n) k) = false → k < m := fun h => by
      rcases Int.lt_or_le k m with h2 | h2
      · exact h2
      · have : k = m := by omega
        rw [this, hm] at h; cases h
    have no2 : flP r d (gi (diagL n) k) = false → ∀ j : Int, 0 ≤ j → j < k + 1 → flP r d (gi (diagL n) j) = false := fun h j j0 j1 => by
      rcases Int.lt_or_le j k with h2 | h2
      · exact hk.2.2 j j0 h2
      · rw [show j = k by omega]; exact h
    have n1 : gi (diagL n) k = d → flP r d (gi (diagL n) k) = false := fun h => by rw [e1, decide_eq_true h]; rfl
    have n2 : hasB r (gi (diagL n) k) = true → flP r d (gi (diagL n) k) = false := fun h => by rw [e1, h]; simp
    have n3 : (!apartB r (gi (diagL n) k)) = true → flP r d (gi (diagL n) k) = false := fun h => by rw [e1, show apartB r (gi (diagL n) k) = false by simpa using h, Bool.and_false]
    have ok : ¬ gi (diagL n) k = d → hasB r (gi (diagL n) k) = false → (!apartB r (gi (diagL n) k)) = false → gi (diagL n) k = gi (flC n l d) 0 := fun h1 h2 h3 => by
      rw [hr]
      exact (first_filt g0 g1 hk.2.2 (by rw [e1, decide_eq_false h1, h2, show apartB r (gi (diagL n) k) = true by simpa using h3]; rfl)).symm
    have pt : hasB r (gi (diagL n) k) = false → putI r (gi (diagL n) k) = srt (r ++ [gi (diagL n) k]) := fun h => put_srt hasc h
    have hdl2 : (diagL n).length ≤ 1048576 := by omega
    clear e1 hk hm hr
    cbv
    ((try simp only [IfP_iff, and_true, true_and, decide_eq_true_eq, decide_eq_false_iff_not]); (try simp only [natc, getI_gi, at2_0, at2_1]); (try dsimp only [Ty.den]); (try simp only [natc] at *); (repeat' (first | apply And.intro | intro _)))
    all_goals (repeat' (first | ((first | refine call_q (sp_has r (gi (diagL n) k) ho2) (by cbv) ?_ | refine call_pure (sp_has r (gi (diagL n) k) ho2) (by cbv) ?_); cbv; ((try simp only [IfP_iff, and_true, true_and, decide_eq_true_eq, decide_eq_false_iff_not]); (try simp only [natc, getI_gi, at2_0, at2_1]); (try dsimp only [Ty.den]); (try simp only [natc] at *); (repeat' (first | apply And.intro | intro _))))))
    all_goals (try ((try simp only [IfP_iff, and_true, true_and, decide_eq_true_eq, decide_eq_false_iff_not]); (try simp only [natc, getI_gi, at2_0, at2_1]); (try dsimp only [Ty.den]); (try simp only [natc] at *); (repeat' (first | apply And.intro | intro _))))
    all_goals (repeat' (first | ((first | refine call_q (sp_dapart r (gi (diagL n) k) ho2 hx g2.1 g2.2) (by cbv) ?_ | refine call_pure (sp_dapart r (gi (diagL n) k) ho2 hx g2.1 g2.2) (by cbv) ?_); cbv; ((try simp only [IfP_iff, and_true, true_and, decide_eq_true_eq, decide_eq_false_iff_not]); (try simp only [natc, getI_gi, at2_0, at2_1]); (try dsimp only [Ty.den]); (try simp only [natc] at *); (repeat' (first | apply And.intro | intro _))))))
    all_goals (try ((try simp only [IfP_iff, and_true, true_and, decide_eq_true_eq, decide_eq_false_iff_not]); (try simp only [natc, getI_gi, at2_0, at2_1]); (try dsimp only [Ty.den]); (try simp only [natc] at *); (repeat' (first | apply And.intro | intro _))))
    all_goals (try ((simp only [IfP_iff, EqU_iff, Obl_iff, and_true, true_and, inI_iff, decide_eq_true_eq, decide_eq_false_iff_not]; (try simp only [natc, getI_gi, at2_0, at2_1]); (try dsimp only [Ty.den]); try simp only [natc] at *); done))
    all_goals (try ((simp only [IfP_iff, EqU_iff, Obl_iff, and_true, true_and, inI_iff, decide_eq_true_eq, decide_eq_false_iff_not]; (try simp only [natc, getI_gi, at2_0, at2_1]); (try dsimp only [Ty.den]); try simp only [natc] at *); (repeat' (first | apply And.intro | intro _)) <;> first | omega | (exact no1 (n1 (by assumption))) | (exact no1 (n2 (by assumption))) | (exact no1 (n3 (by assumption))) | (have q := no1 (n1 (by assumption)); omega) | (have q := no1 (n2 (by assumption)); omega) | (have q := no1 (n3 (by assumption)); omega) | (exact no2 (n1 (by assumption)) _ (by omega) (by omega)) | (exact no2 (n2 (by assumption)) _ (by omega) (by omega)) | (exact no2 (n3 (by assumption)) _ (by omega) (by omega))))
    have ok2 := ok (by assumption) (by assumption) (by assumption)
    have pt2 := pt (by assumption)
    refine DrawL.layersS [(5, fun S => S.new (some 58) (.ref S.H.length) (.row 3 .int fun _ => putI r (gi (diagL n) k)))] [0, 1, 2, 6, 7] (fun _ _ => none) [([true, true, true, false, false, false, true, true, false, false, false, false, false], [3, 8]), ([true, true, true, true, false, false, true, true, false, false, false, false, false], [4, 8]), ([true, true, true, false, false, false, true, true, true, false, false, false, false], [3, 9]), ([true, true, true, true, true, false, true, true, false, false, false, false, false], [5, 8]), ([true, true, true, true, false, false, true, true, true, false, false, false, false], [4, 9]), ([true, true, true, false, false, false, true, true, true, true, false, false, false], [3]), ([true, true, true, true, true, true, true, true, false, false, false, false, false], [8, 10]), ([true, true, true, true, true, false, true, true, true, false, false, false, false], [5, 9]), ([true, true, true, true, false, false, true, true, true, true, false, false, false], [4]), ([true, true, true, true, true, true, true, true, true, false, false, false, false], [9, 10]), ([true, true, true, true, true, true, true, true, false, false, true, false, false], [8]), ([true, true, true, true, true, false, true, true, true, true, false, false, false], [5]), ([true, true, true, true, true, true, true, true, true, true, false, false, false], [10]), ([true, true, true, true, true, true, true, true, true, false, true, false, false], [9]), ([true, true, true, true, true, true, true, true, true, true, true, false, false], [11]), ([true, true, true, true, true, true, true, true, true, true, true, true, false], [12]), ([true, true, true, true, true, true, true, true, true, true, true, true, true], [])] (by kernel_rfl) (by rfl) ?_
    cbv
    (repeat' (first | apply And.intro | apply EqU.mk))
    all_goals (try trivial)
    all_goals (try (((first | refine call_q (sp_put r (gi (diagL n) k) ho2 (by assumption)) (by cbv) ?_ | refine call_pure (sp_put r (gi (diagL n) k) ho2 (by assumption)) (by cbv) ?_); cbv; ((try simp only [IfP_iff, and_true, true_and, decide_eq_true_eq, decide_eq_false_iff_not]); (try simp only [natc, getI_gi, at2_0, at2_1]); (try dsimp only [Ty.den]); (try simp only [natc] at *); (repeat' (first | apply And.intro | intro _))))))
    all_goals (try (first | trivial | rfl))
    all_goals (try (simp only [IfP_iff, EqU_iff, Obl_iff, and_true, true_and, inI_iff, decide_eq_true_eq, decide_eq_false_iff_not]; (try simp only [natc, getI_gi, at2_0, at2_1]); (try dsimp only [Ty.den]); try simp only [natc] at *))
    all_goals ((repeat' (first | apply And.intro | intro _)) <;> first | omega | (exact ok2) | (rw [pt2, ok2]) | trace_state)
theorem flip_le (n : Int) (l : List Int) (d : Int) (hl : l.length ≤ 1048576) : (flR n l d).length ≤ 1048576 := by
  unfold flR
  split
  · rename_i h
    unfold flV at h
    simp only [Bool.and_eq_true] at h
    have h1 := triV_len h.1
    have h2 := triV_poly h.1
    have h3 : (onlyL l [d]).length ≤ l.length := List.length_filter_le _ _
    rw [srt_len, List.length_append, List.length_cons, List.length_nil]
    omega
  · simp
end Go.Proofs.Ytbpheblbbdiapaa.M

/- TurnTriangulation: the specification. -/
import Derived.Test.YtbpheblbbdiapaaEeQ
import Derived.Test.YtbpheblbbdiapaaLpQ
import Derived.Test.YtbpheblbbdiapaaQg
namespace Go.Proofs.Ytbpheblbbdiapaa.M
open Go.RowKit Abs
set_option linter.unusedSimpArgs false
set_option linter.unusedVariables false
set_option maxRecDepth 100000
set_option maxHeartbeats 4000000
theorem sp_mstM (a b : Int) : Spec2 Try.prog 64 [.int fun _ => a, .int fun _ => b] [] [.int fun _ => max a b] [] := by
  refine fnS [] [4] Try.func64 rfl (by decide) rfl (by decide) (by kernel_rfl) rfl (by simp [Try.ntmps64]) ?_
  cbv
  ((try simp only [IfP_iff, and_true, true_and, decide_eq_true_eq, decide_eq_false_iff_not]); (try simp only [natc, getI_gi, at2_0, at2_1]); (try dsimp only [Ty.den]); (try simp only [natc] at *); (repeat' (first | apply And.intro | intro _)))
  all_goals (try (simp only [IfP_iff, EqU_iff, Obl_iff, and_true, true_and, inI_iff, decide_eq_true_eq, decide_eq_false_iff_not]; (try simp only [natc, getI_gi, at2_0, at2_1]); (try dsimp only [Ty.den]); try simp only [natc] at *))
  all_goals ((repeat' (first | apply And.intro | intro _)) <;> omega)
theorem sp_turn (n : Int) (l : List Int) (b : Int) (mir : Bool) (hl : l.length ≤ 1048576) : Spec2 Try.prog 27 [.int fun _ => n, .sl .int fun _ => l, .int fun _ => b, .bool fun _ => mir] [] [.ref 0, .bool fun _ => tuV n l b] [some (.row 3 .int fun _ => tuR n l b mir)] := by
  by_cases hv : tuV n l b = true
  case neg =>
    have h8 : tuR n l b mir = [] := by unfold tuR; rw [if_neg hv]
    rw [Bool.not_eq_true] at hv
    rw [hv, h8]
    have hin : (!triV n l) = false → 3 ≤ n ∧ n ≤ 8 := fun h1 => triV_poly (l := l) (by simpa using h1)
    have hno : (!triV n l) = false → (!(decide (0 ≤ b) && decide (b ≤ n - 1))) = false → False := fun h1 h2 => by
      have h3 : (decide (0 ≤ b) && decide (b ≤ n - 1)) = true := by simpa using h2
      simp only [Bool.and_eq_true, decide_eq_true_eq] at h3
      unfold tuV at hv
      rw [show triV n l = true by simpa using h1, decide_eq_true h3.1, decide_eq_true (show b < n by omega)] at hv
      cases hv
    refine fnS [0] [8, 9] Try.func27 rfl (by decide) rfl (by decide) (by kernel_rfl) rfl (by simp [Try.ntmps27]) ?_
    cbv
    repeat' (first | ((first | refine call_q (sp_valid n l hl) (by cbv) ?_ | refine call_pure (sp_valid n l hl) (by cbv) ?_); cbv; ((try simp only [IfP_iff, and_true, true_and, decide_eq_true_eq, decide_eq_false_iff_not]); (try simp only [natc, getI_gi, at2_0, at2_1]); (try dsimp only [Ty.den]); (try simp only [natc] at *); (repeat' (first | apply And.intro | intro _)))))
    all_goals (try (simp only [IfP_iff, EqU_iff, Obl_iff, and_true, true_and, inI_iff, decide_eq_true_eq, decide_eq_false_iff_not]; (try simp only [natc, getI_gi, at2_0, at2_1]); (try dsimp only [Ty.den]); try simp only [natc] at *))
    ((try simp only [IfP_iff, and_true, true_and, decide_eq_true_eq, decide_eq_false_iff_not]); (try simp only [natc, getI_gi, at2_0, at2_1]); (try dsimp only [Ty.den]); (try simp only [natc] at *); (repeat' (first | apply And.intro | intro _)))
    all_goals (repeat' (first | ((first | refine call_q (sp_in _ _ _) (by cbv) ?_ | refine call_pure (sp_in _ _ _) (by cbv) ?_); cbv; ((try simp only [IfP_iff, and_true, true_and, decide_eq_true_eq, decide_eq_false_iff_not]); (try simp only [natc, getI_gi, at2_0, at2_1]); (try dsimp only [Ty.den]); (try simp only [natc] at *); (repeat' (first | apply And.intro | intro _))))))
    all_goals (try ((try simp only [IfP_iff, and_true, true_and, decide_eq_true_eq, decide_eq_false_iff_not]); (try simp only [natc, getI_gi, at2_0, at2_1]); (try dsimp only [Ty.den]); (try simp only [natc] at *); (repeat' (first | apply And.intro | intro _))))
    all_goals (try (exact (hno (by assumption) (by assumption)).elim))
    all_goals (try (simp only [IfP_iff, EqU_iff, Obl_iff, and_true, true_and, inI_iff, decide_eq_true_eq, decide_eq_false_iff_not]; (try simp only [natc, getI_gi, at2_0, at2_1]); (try dsimp only [Ty.den]); try simp only [natc] at *))
    all_goals ((repeat' (first | apply And.intro | intro _)) <;> first | (have q := hin (by assumption); omega))
  have hv2 := hv
  unfold tuV at hv2
  simp only [Bool.and_eq_true, decide_eq_true_eq] at hv2
  obtain ⟨hv3, b0, b1⟩ := hv2
  have hnd := tu_nodup2 (mir := mir) hv3 b0 b1
  have h8 : tuR n l b mir = putF (l.map (tuX n b mir)) := by unfold tuR; rw [if_pos hv, putF_srt hnd]
  have hp := triV_poly hv3
  have hlen := triV_len hv3
  have hc : (decide (0 ≤ b) && decide (b ≤ n - 1)) = true := by rw [decide_eq_true b0, decide_eq_true (show b ≤ n - 1 by omega)]; rfl
  rw [hv, h8]
  refine fnS [0] [8, 9] Try.func27 rfl (by decide) rfl (by decide) (by kernel_rfl) rfl (by simp [Try.ntmps27]) ?_
  cbv
  repeat' (first | ((first | refine call_q (sp_valid n l hl) (by cbv) ?_ | refine call_pure (sp_valid n l hl) (by cbv) ?_); cbv; ((try simp only [IfP_iff, and_true, true_and, decide_eq_true_eq, decide_eq_false_iff_not]); (try simp only [natc, getI_gi, at2_0, at2_1]); (try dsimp only [Ty.den]); (try simp only [natc] at *); (repeat' (first | apply And.intro | intro _)))))
  all_goals (try (simp only [IfP_iff, EqU_iff, Obl_iff, and_true, true_and, inI_iff, decide_eq_true_eq, decide_eq_false_iff_not]; (try simp only [natc, getI_gi, at2_0, at2_1]); (try dsimp only [Ty.den]); try simp only [natc] at *))
  ((try simp only [IfP_iff, and_true, true_and, decide_eq_true_eq, decide_eq_false_iff_not]); (try simp only [natc, getI_gi, at2_0, at2_1]); (try dsimp only [Ty.den]); (try simp only [natc] at *); (repeat' (first | apply And.intro | intro _)))
  all_goals (try ((simp only [IfP_iff, EqU_iff, Obl_iff, and_true, true_and, inI_iff, decide_eq_true_eq, decide_eq_false_iff_not]; (try simp only [natc, getI_gi, at2_0, at2_1]); (try dsimp only [Ty.den]); try simp only [natc] at *); done))
  all_goals (try ((simp only [IfP_iff, EqU_iff, Obl_iff, and_true, true_and, inI_iff, decide_eq_true_eq, decide_eq_false_iff_not]; (try simp only [natc, getI_gi, at2_0, at2_1]); (try dsimp only [Ty.den]); try simp only [natc] at *); omega))
  all_goals (repeat' (first | ((first | refine call_q (sp_in _ _ _) (by cbv) ?_ | refine call_pure (sp_in _ _ _) (by cbv) ?_); cbv; ((try simp only [IfP_iff, and_true, true_and, decide_eq_true_eq, decide_eq_false_iff_not]); (try simp only [natc, getI_gi, at2_0, at2_1]); (try dsimp only [Ty.den]); (try simp only [natc] at *); (repeat' (first | apply And.intro | intro _))))))
  all_goals (try ((try simp only [IfP_iff, and_true, true_and, decide_eq_true_eq, decide_eq_false_iff_not]); (try simp only [natc, getI_gi, at2_0, at2_1]); (try dsimp only [Ty.den]); (try simp only [natc] at *); (repeat' (first | apply And.intro | intro _))))
  all_goals (try (exact absurd (by assumption : (!triV n l) = true) (by rw [hv3]; decide)))
  all_goals (try (exact absurd (by assumption : (!(decide (0 ≤ b) && decide (b ≤ n - 1))) = true) (by rw [hc]; decide)))
  all_goals (try omega)
  refine loopX (by kernel_rfl) (fun k : Int => 0 ≤ k ∧ k ≤ l.length) (fun k => [(11, .int fun _ => k), (10, .ref 0), (14, .junk), (12, .junk), (13, .junk)]) (fun k => [(0, some (.row 3 .int fun _ => putF ((l.take k.toNat).map (tuX n b mir))))]) (fun k => (l.length - k).toNat) (· + 1) 0 (by omega) ?_ ?_
  · cbv
    (simp only [IfP_iff, EqU_iff, Obl_iff, and_true, true_and, inI_iff, decide_eq_true_eq, decide_eq_false_iff_not]; (try simp only [natc, getI_gi, at2_0, at2_1]); (try dsimp only [Ty.den]); try simp only [natc] at *)
    rfl
  · intro k hk
    have a0 : k < (l.length : Int) → gi l k ∈ diagL n := fun h => triV_mem hv3 (gi_mem hk.1 h)
    have a1 : k < (l.length : Int) → (0 ≤ (gi l k).tdiv 10 ∧ (gi l k).tdiv 10 < n) ∧ 0 ≤ (gi l k).tmod 10 ∧ (gi l k).tmod 10 < n := fun h => diag_parts hp.1 hp.2 _ (a0 h)
    have d1 : k < (l.length : Int) → 0 ≤ tuC n b mir ((gi l k).tdiv 10) ∧ tuC n b mir ((gi l k).tdiv 10) < 10 := fun h => by
      have := tuC_in (mir := mir) hp.1 hp.2 b0 b1 (a1 h).1.1 (a1 h).1.2
      omega
    have d2 : k < (l.length : Int) → 0 ≤ tuC n b mir ((gi l k).tmod 10) ∧ tuC n b mir ((gi l k).tmod 10) < 10 := fun h => by
      have := tuC_in (mir := mir) hp.1 hp.2 b0 b1 (a1 h).2.1 (a1 h).2.2
      omega
    have c1 := take_gi (l := l) hk.1
    have c3 : (putF ((l.take k.toNat).map (tuX n b mir))).length ≤ 1048576 := by rw [(putF_perm _ _ rfl).length_eq, List.length_map, List.length_take]; omega
    have c4 : k < (l.length : Int) → hasB (putF ((l.take k.toNat).map (tuX n b mir))) (tuX n b mir (gi l k)) = false := fun a => by
      rw [Bool.eq_false_iff]
      intro h
      have h1 := putF_mem.1 (hasB_iff.1 h)
      have h2 : ((l.take (k + 1).toNat).map (tuX n b mir)).Nodup := hnd.sublist ((List.take_sublist _ _).map _)
      rw [c1 a, List.map_append, List.nodup_append] at h2
      exact h2.2.2 _ h1 _ (by simp) rfl
    have c5 : k < (l.length : Int) → putF ((l.take (k + 1).toNat).map (tuX n b mir)) = putI (putF ((l.take k.toNat).map (tuX n b mir))) (tuX n b mir (gi l k)) := fun a => by
      rw [c1 a, List.map_append]
      exact putF_snoc _ _
    have c8 : ¬ k < (l.length : Int) → putF ((l.take k.toNat).map (tuX n b mir)) = putF (l.map (tuX n b mir)) := fun a => by rw [List.take_of_length_le (by omega)]
    have e1 : mir = true → ∀ x, (n - 1 - x + b).tmod n = tuC n b mir x := fun h x => by unfold tuC; rw [if_pos h]
    have e2 : mir = false → ∀ x, (x + b).tmod n = tuC n b mir x := fun h x => by unfold tuC; rw [if_neg (by rw [h]; decide)]
    have put1 : k < (l.length : Int) → mir = true → Spec2 Try.prog 62 [.sl .int fun _ => putF ((l.take k.toNat).map (tuX n b mir)), .int fun _ => 10 * min ((n - 1 - (gi l k).tdiv 10 + b).tmod n) ((n - 1 - (gi l k).tmod 10 + b).tmod n) + max ((n - 1 - (gi l k).tdiv 10 + b).tmod n) ((n - 1 - (gi l k).tmod 10 + b).tmod n)] [] [.ref 0] [some (.row 3 .int fun _ => putF ((l.take (k + 1).toNat).map (tuX n b mir)))] := fun h hm => by
      rw [e1 hm, e1 hm, c5 h]
      exact sp_put _ _ c3 (c4 h)
    have put2 : k < (l.length : Int) → mir = false → Spec2 Try.prog 62 [.sl .int fun _ => putF ((l.take k.toNat).map (tuX n b mir)), .int fun _ => 10 * min (((gi l k).tdiv 10 + b).tmod n) (((gi l k).tmod 10 + b).tmod n) + max (((gi l k).tdiv 10 + b).tmod n) (((gi l k).tmod 10 + b).tmod n)] [] [.ref 0] [some (.row 3 .int fun _ => putF ((l.take (k + 1).toNat).map (tuX n b mir)))] := fun h hm => by
      rw [e2 hm, e2 hm, c5 h]
      exact sp_put _ _ c3 (c4 h)
    have f1 : k < (l.length : Int) → mir = true → (0 ≤ (n - 1 - (gi l k).tdiv 10 + b).tmod n ∧ (n - 1 - (gi l k).tdiv 10 + b).tmod n < 10) ∧ 0 ≤ (n - 1 - (gi l k).tmod 10 + b).tmod n ∧ (n - 1 - (gi l k).tmod 10 + b).tmod n < 10 := fun h hm => by rw [e1 hm, e1 hm]; exact ⟨d1 h, d2 h⟩
    have f2 : k < (l.length : Int) → mir = false → (0 ≤ ((gi l k).tdiv 10 + b).tmod n ∧ ((gi l k).tdiv 10 + b).tmod n < 10) ∧ 0 ≤ ((gi l k).tmod 10 + b).tmod n ∧ ((gi l k).tmod 10 + b).tmod n < 10 := fun h hm => by rw [e2 hm, e2 hm]; exact ⟨d1 h, d2 h⟩
    clear c4 c5 e1 e2 d1 d2 a0 c1
    cbv
    ((try simp only [IfP_iff, and_true, true_and, decide_eq_true_eq, decide_eq_false_iff_not]); (try simp only [natc, getI_gi, at2_0, at2_1]); (try dsimp only [Ty.den]); (try simp only [natc] at *); (repeat' (first | apply And.intro | intro _)))
    all_goals (repeat' (first | ((first | refine call_q (sp_lstM _ _) (by cbv) ?_ | refine call_pure (sp_lstM _ _) (by cbv) ?_); cbv; ((try simp only [IfP_iff, and_true, true_and, decide_eq_true_eq, decide_eq_false_iff_not]); (try simp only [natc, getI_gi, at2_0, at2_1]); (try dsimp only [Ty.den]); (try simp only [natc] at *); (repeat' (first | apply And.intro | intro _)))) | ((first | refine call_q (sp_mstM _ _) (by cbv) ?_ | refine call_pure (sp_mstM _ _) (by cbv) ?_); cbv; ((try simp only [IfP_iff, and_true, true_and, decide_eq_true_eq, decide_eq_false_iff_not]); (try simp only [natc, getI_gi, at2_0, at2_1]); (try dsimp only [Ty.den]); (try simp only [natc] at *); (repeat' (first | apply And.intro | intro _)))) | ((first | refine call_q (put1 (by assumption) (by assumption)) (by cbv) ?_ | refine call_pure (put1 (by assumption) (by assumption)) (by cbv) ?_); cbv; ((try simp only [IfP_iff, and_true, true_and, decide_eq_true_eq, decide_eq_false_iff_not]); (try simp only [natc, getI_gi, at2_0, at2_1]); (try dsimp only [Ty.den]); (try simp only [natc] at *); (repeat' (first | apply And.intro | intro _)))) | ((first | refine call_q (put2 (by assumption) (by assumption)) (by cbv) ?_ | refine call_pure (put2 (by assumption) (by assumption)) (by cbv) ?_); cbv; ((try simp only [IfP_iff, and_true, true_and, decide_eq_true_eq, decide_eq_false_iff_not]); (try simp only [natc, getI_gi, at2_0, at2_1]); (try dsimp only [Ty.den]); (try simp only [natc] at *); (repeat' (first | apply And.intro | intro _))))))
    all_goals (try ((try simp only [IfP_iff, and_true, true_and, decide_eq_true_eq, decide_eq_false_iff_not]); (try simp only [natc, getI_gi, at2_0, at2_1]); (try dsimp only [Ty.den]); (try simp only [natc] at *); (repeat' (first | apply And.intro | intro _))))
    all_goals (first
      | (refine RenL.mk ⟨[1], ?_⟩
         cbv
         (simp only [IfP_iff, EqU_iff, Obl_iff, and_true, true_and, inI_iff, decide_eq_true_eq, decide_eq_false_iff_not]; (try simp only [natc, getI_gi, at2_0, at2_1]); (try dsimp only [Ty.den]); try simp only [natc] at *))
      | ((simp only [IfP_iff, EqU_iff, Obl_iff, and_true, true_and, inI_iff, decide_eq_true_eq, decide_eq_false_iff_not]; (try simp only [natc, getI_gi, at2_0, at2_1]); (try dsimp only [Ty.den]); try simp only [natc] at *); done)
      | ((simp only [IfP_iff, EqU_iff, Obl_iff, and_true, true_and, inI_iff, decide_eq_true_eq, decide_eq_false_iff_not]; (try simp only [natc, getI_gi, at2_0, at2_1]); (try dsimp only [Ty.den]); try simp only [natc] at *)
         (repeat' (first | apply And.intro | intro _)) <;> first | omega | (exact c8 (by assumption)) | (have q := a1 (by assumption); omega) | (have q := a1 (by assumption); have q2 := f1 (by assumption) (by assumption); omega) | (have q := a1 (by assumption); have q2 := f2 (by assumption) (by assumption); omega))
      | trace_state)
theorem turn_le (n : Int) (l : List Int) (b : Int) (mir : Bool) (hl : l.length ≤ 1048576) : (tuR n l b mir).length ≤ 1048576 := by
  unfold tuR
  split
  · rw [srt_len, List.length_map]; exact hl
  · simp
end Go.Proofs.Ytbpheblbbdiapaa.M
